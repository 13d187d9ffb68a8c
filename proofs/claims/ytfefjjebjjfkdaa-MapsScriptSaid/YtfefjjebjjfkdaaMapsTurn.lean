/- MapsTurn: the walk. -/
import Derived.Test.YtfefjjebjjfkdaaMapT
import Derived.Test.YtfefjjebjjfkdaaMapAw
import Derived.Test.YtfefjjebjjfkdaaFlat
namespace Go.Proofs.Ytfefjjebjjfkdaa
open Go.ChangeShapes Go.WideShapes Go.ChangeAt Go.RowKit
set_option linter.unusedSimpArgs false
set_option linter.unusedVariables false

def ActF : List (Option IntKind) := [some .i64, some .i64, some .i64, some .i64]
theorem act_get {es : List (List Value)} {j : Nat} (hw : ∀ x ∈ es, Flat ActF x) (h : j < es.length) : ∃ z0 z1 z2 z3, es[j]? = some [.int .i64 z0, .int .i64 z1, .int .i64 z2, .int .i64 z3] ∧ i64in z0 ∧ i64in z1 ∧ i64in z2 ∧ i64in z3 := by
  have hf := hw es[j] (List.getElem_mem h)
  obtain ⟨z0, r0, e0, w0, f0⟩ := hf.int
  obtain ⟨z1, r1, rfl, w1, f1⟩ := f0.int
  obtain ⟨z2, r2, rfl, w2, f2⟩ := f1.int
  obtain ⟨z3, r3, rfl, w3, f3⟩ := f2.int
  obtain rfl := f3.nil
  refine ⟨z0, z1, z2, z3, ?_, i64in_of w0, i64in_of w1, i64in_of w2, i64in_of w3⟩
  rw [List.getElem?_eq_getElem h, e0]
theorem new_b (a b c d e : Int) (w : World) (HM : Hid (mayB a b c d e = true)) :
    Calls Try.prog 7 #[.agg #[.int .i64 a, .int .i64 b, .int .i64 c, .int .i64 d, .int .i64 e]] w fun e' w' => (∃ m g1 g2 L N, e' = .returned (.pointer (some ⟨m, 0, none⟩)) ∧ MapW w' m g1 g2 a b c d e L N (List.replicate L (-1)) (List.replicate N (-1)) ∧ w.heap.size ≤ m ∧ w.heap.size ≤ g1 ∧ w.heap.size ≤ g2 ∧ 1 ≤ L ∧ L ≤ 1000 ∧ 1 ≤ N ∧ N ≤ 1000 ∧ (N : Int) = a * b) ∧ Below w.heap.size w w' := by
  have hbd := may_bd HM.out
  obtain ⟨p1, p2⟩ := mul_bd (x := a) (y := b) (lo := 0) (hi := 20) (by omega) (by omega) hbd.2.2.1 hbd.2.2.2.1 (by omega) (by omega)
  obtain ⟨N, hN⟩ : ∃ N : Nat, (N : Int) = a * b := ⟨(a * b).toNat, by omega⟩
  have hN1 : a * 4 ≤ a * b := Int.mul_le_mul_of_nonneg_left hbd.2.2.1 (by omega)
  have hl : logicalI a b d ≤ 100 := by
    obtain ⟨q1, q2⟩ := mul_bd (x := a - d - 3) (y := b) (lo := 1) (hi := 17) (by omega) (by omega) hbd.2.2.1 hbd.2.2.2.1 (by omega) (by omega)
    unfold logicalI
    omega
  obtain ⟨L, hL⟩ : ∃ L : Nat, (L : Int) = logicalI a b d := ⟨(logicalI a b d).toNat, by omega⟩
  refine (new_yes a b c d e L N w HM (Lib.hid hL.symm) hN (by omega) (by omega) (by omega) (by omega)).mono ?_
  rintro e' w' ⟨⟨m, g1, g2, rfl, hM, h1, h2, h3⟩, hb⟩
  exact ⟨⟨m, g1, g2, L, N, rfl, hM, h1, h2, h3, by omega, by omega, by omega, by omega, hN⟩, hb⟩
theorem MapW.drew {w : World} {m g1 g2 : Nat} {a b c d e : Int} {L N : Nat} {A W : List Int} (h : MapW w m g1 g2 a b c d e L N A W) : MapW w.drew m g1 g2 a b c d e L N A W := h.like rfl
theorem liveS_le (a b : Int) (A : List Int) : ∀ j, liveS a b A j ≤ j * b.toNat
  | 0 => by simp [liveS]
  | j + 1 => by
    rw [liveS_succ, Nat.succ_mul]
    have := liveS_le a b A j
    have := liveF_le a b A (j : Int) b.toNat
    omega
theorem ps_get {ps : List Int} {i : Nat} (h : i < ps.length) : ps[i]? = some (ps.getD i 0) := by
  rw [List.getD_eq_getElem?_getD, List.getElem?_eq_getElem h]
  rfl
set_option maxRecDepth 100000 in
set_option maxHeartbeats 8000000 in
theorem mturn_walk (a b c d e : Int) (A1 : Option Addr) (n k1 : Nat) (es : List (List Value)) (w : World) (_ : i64in a ∧ i64in b ∧ i64in c ∧ i64in d ∧ i64in e) (r1 : n = es.length ∧ n ≤ k1 ∧ k1 ≤ maxLen ∧ SlE 4 w w.heap.size A1 es ∧ ∀ x ∈ es, Flat ActF x) :
    Calls Try.prog 4 #[.agg #[.int .i64 a, .int .i64 b, .int .i64 c, .int .i64 d, .int .i64 e], .slice A1 n k1] w fun e' w' => e' = .returned (.bool true) ∧ Below w.heap.size w w' := by
  obtain ⟨e1, _, _, hs, hw⟩ := r1
  have HL : Hid (es.length = n) := Lib.hid e1.symm
  have HW := Lib.hid hw
  clear e1 hw
  have HB0 : Below w.heap.size w (w.alloc (.cells #[.int .i64 a, .int .i64 b, .int .i64 c, .int .i64 d, .int .i64 e] 23)) := (Below.refl _ _).alloc (Nat.le_refl _) _
  have G1 : Blk (w.alloc (.cells #[.int .i64 a, .int .i64 b, .int .i64 c, .int .i64 d, .int .i64 e] 23)) w.heap.size 23 #[.int .i64 a, .int .i64 b, .int .i64 c, .int .i64 d, .int .i64 e] := Blk.new_ _ _ _
  rcases (by cases hq : mayB a b c d e <;> simp : mayB a b c d e = false ∨ mayB a b c d e = true) with hm | hm
  · clear hs G1
    go_enter Try.func4, Try.ntmps4
    go_wp2_with (first
      | (go_at_call 7; ((with_reducible refine (new_no _ _ _ _ _ _ hm).mono ?_); rintro e' wN ⟨rfl, hb⟩; have HB0 := btr HB0 HB0.size hb))
      | (go_at_call 6; ((with_reducible refine (awake_any _).mono ?_); rintro e' wN ⟨rfl, hb⟩; have HB0 := btr HB0 HB0.size hb)))
    go_ret
    exact ⟨rfl, HB0⟩
  have HM := Lib.hid hm
  clear hm
  have NEWPLACE : True := trivial
  by_cases hn : 60 < n
  · have gn : (60 : Int) < (n : Int) := by omega
    clear hs G1 hn
    go_enter Try.func4, Try.ntmps4
    go_wp2_with (first
      | (go_at_call 7; ((with_reducible refine (new_b _ _ _ _ _ _ HM).mono ?_); rintro e' wN ⟨⟨m, g1, g2, L, N, rfl, -, -, -, -, -, -, -, -, -⟩, hb⟩; have HB0 := btr HB0 HB0.size hb))
      | (go_at_call 6; ((with_reducible refine (awake_any _).mono ?_); rintro e' wN ⟨rfl, hb⟩; have HB0 := btr HB0 HB0.size hb)))
    go_ret
    exact ⟨rfl, HB0⟩
  have gn : ¬ (60 : Int) < (n : Int) := by omega
  have hbd := may_bd HM.out
  obtain ⟨b4, b8⟩ : 4 ≤ b ∧ b ≤ 8 := ⟨hbd.2.2.1, hbd.2.2.2.1⟩
  obtain ⟨a8, a20⟩ : 8 ≤ a ∧ a ≤ 20 := ⟨hbd.1, hbd.2.1⟩
  clear hbd
  go_enter Try.func4, Try.ntmps4
  go_wp2_with (go_at_call 7; ((with_reducible refine (new_b _ _ _ _ _ _ HM).mono ?_); rintro e' wN ⟨⟨m, g1, g2, L, N, rfl, hM, hmm, hm1, hm2, L1, L2, N1, N2, hab⟩, hb⟩; have HB0 := btr HB0 HB0.size hb; have G1 := G1.below hb G1.lt))
  have HAB := Lib.hid hab
  have hbl : w.heap.size < (w.alloc (.cells #[.int .i64 a, .int .i64 b, .int .i64 c, .int .i64 d, .int .i64 e] 23)).heap.size := by simp
  obtain ⟨B, hB⟩ : ∃ B, (w.alloc (.cells #[.int .i64 a, .int .i64 b, .int .i64 c, .int .i64 d, .int .i64 e] 23)).heap.size = B := ⟨_, rfl⟩
  rw [hB] at hmm hm1 hm2 hbl hb
  have hBs := hb.size
  obtain ⟨w0, hw0⟩ : ∃ W : World, W = wN := ⟨_, rfl⟩
  rw [← hw0] at HB0 G1 hM hBs ⊢
  have H1 : SlE 4 w0 B A1 es := (hs.below HB0).mono (by omega)
  have hBw : B ≤ w0.heap.size := by
    rw [hw0]
    have := hb.size
    omega
  clear hs hb hw0 hab hB hBs
  obtain ⟨A0, hA0⟩ : ∃ A0 : List Int, List.replicate L (-1) = A0 := ⟨_, rfl⟩
  obtain ⟨W0, hW0⟩ : ∃ W0 : List Int, List.replicate N (-1) = W0 := ⟨_, rfl⟩
  rw [hA0, hW0] at hM
  clear hA0 hW0
  go_loopw [6] (fun s6 wr => ∃ (j : Nat) (A W : List Int), j ≤ n ∧ s6 = .int .i64 (j : Int) ∧ MapW wr m g1 g2 a b c d e L N A W ∧ Below B w0 wr) (fun i _ => n - (intOf i).toNat)
  case atStart => exact ⟨0, A0, W0, Nat.zero_le _, rfl, hM, Below.refl _ _⟩
  case round =>
    clear hM
    obtain ⟨j, A, W, hj, rfl, hM, hBr⟩ := hrel
    by_cases hlt : j < n
    · obtain ⟨z0, z1, z2, z3, hx, -⟩ := act_get HW.out (j := j) (by rw [HL.out]; exact hlt)
      obtain ⟨b1, o1, rfl, hb1, qq⟩ := H1.at_ (by rw [HL.out]; omega)
      have q0 : w0.cell? ⟨b1, o1 + j * 4, none⟩ = some (.int .i64 z0) := qq j _ hx 0 _ rfl
      have q1 : w0.cell? ⟨b1, o1 + j * 4 + 1, none⟩ = some (.int .i64 z1) := qq j _ hx 1 _ rfl
      have q2 : w0.cell? ⟨b1, o1 + j * 4 + 2, none⟩ = some (.int .i64 z2) := qq j _ hx 2 _ rfl
      have q3 : w0.cell? ⟨b1, o1 + j * 4 + 3, none⟩ = some (.int .i64 z3) := qq j _ hx 3 _ rfl
      have hc := fun i => hBr.cell (p := ⟨b1, i, none⟩) hb1
      have k0 := (hc _).trans q0
      have k1 := (hc _).trans q1
      have k2 := (hc _).trans q2
      have k3 := (hc _).trans q3
      have i0 : (0 : Int) ≤ (j : Int) := by omega
      have i1 : (j : Int) < (n : Int) := by omega
      clear qq hx hc
      by_cases hz : z0 = 1
      · subst hz
        go_wp2_with (go_at_call 10; ((with_reducible refine (drop_any _ _ _ _ _ _ _ _ _ _ _ _ _ _ hM (by omega) (by omega)).mono ?_); rintro e' wN ⟨rfl, ⟨W2, hM2⟩, hT⟩; skip))
        have HB2 := hBr.trans (hT.bel B hm1 hm2 (by have := hBr.size; omega))
        go_roundw
        case rel => exact ⟨j + 1, _, W2, by omega, by go_num, hM2, HB2⟩
        case measure => simp [intOf]; omega
      · have hzq : (z0 == 1) = false := by simp [hz]
        go_upto_region 9 with fail
        refine wp_region_noPanic ?_
        refine wp_region_held_drew (S := (fun w' => w'.cell? ⟨b1, o1 + j * 4 + 1, none⟩ = some (.int .i64 z1) ∧ w'.cell? ⟨b1, o1 + j * 4 + 2, none⟩ = some (.int .i64 z2) ∧ w'.cell? ⟨b1, o1 + j * 4 + 3, none⟩ = some (.int .i64 z3))) (by kernel_rfl) ?_ (fun hHeld => ?_)
        · (first | exact ⟨k1, k2, k3⟩ | exact ⟨k1', k2', k3'⟩ | assumption)
        refine wpAnyH_take (i := 0) (oi := { dst := some 44, op := Op.move (Operand.tmp 5), type := 26, pos := "law.go:92", after := #[], guard := none }) (v := ?_) rfl (by kernel_rfl) (by kernel_rfl) (by kernel_rfl) (fun _ _ _ h => h) (Or.inl ⟨by rfl, ?_⟩) (by assumption) ?_
        rotate_left
        · (intro wS hSw; (try dsimp only at hSw); go_simp; (try with_reducible rfl))
        try simp only [Act.put, List.setIfInBounds_toArray, List.set_cons_zero, List.set_cons_succ]
        refine wpAnyH_take (i := 1) (oi := { dst := some 45, op := Op.move (Operand.tmp 1), type := 24, pos := "law.go:92", after := #[], guard := none }) (v := ?_) rfl (by kernel_rfl) (by kernel_rfl) (by kernel_rfl) (fun _ _ _ h => h) (Or.inl ⟨by rfl, ?_⟩) (by assumption) ?_
        rotate_left
        · (intro wS hSw; (try dsimp only at hSw); go_simp; (try with_reducible rfl))
        try simp only [Act.put, List.setIfInBounds_toArray, List.set_cons_zero, List.set_cons_succ]
        refine wpAnyH_take (i := 2) (oi := { dst := some 46, op := Op.move (Operand.tmp 6), type := 3, pos := "law.go:92", after := #[], guard := none }) (v := ?_) rfl (by kernel_rfl) (by kernel_rfl) (by kernel_rfl) (fun _ _ _ h => h) (Or.inl ⟨by rfl, ?_⟩) (by assumption) ?_
        rotate_left
        · (intro wS hSw; (try dsimp only at hSw); go_simp; (try with_reducible rfl))
        try simp only [Act.put, List.setIfInBounds_toArray, List.set_cons_zero, List.set_cons_succ]
        refine wpAnyH_take (i := 3) (oi := { dst := some 47, op := Op.indexAddr 24 (Operand.tmp 45) (Operand.tmp 46), type := 0, pos := "law.go:92", after := #[{ on := 1, ground := Ground.data }, { on := 2, ground := Ground.data }], guard := none }) (v := ?_) rfl (by kernel_rfl) (by kernel_rfl) (by kernel_rfl) (fun _ _ _ h => h) (Or.inl ⟨by rfl, ?_⟩) (by assumption) ?_
        rotate_left
        · (intro wS hSw; (try dsimp only at hSw); go_simp; (try with_reducible rfl))
        try simp only [Act.put, List.setIfInBounds_toArray, List.set_cons_zero, List.set_cons_succ]
        refine wpAnyH_take (i := 4) (oi := { dst := some 48, op := Op.fieldAddr 33 (Operand.tmp 47) 1, type := 0, pos := "law.go:92", after := #[{ on := 3, ground := Ground.data }], guard := none }) (v := ?_) rfl (by kernel_rfl) (by kernel_rfl) (by kernel_rfl) (fun _ _ _ h => h) (Or.inl ⟨by rfl, ?_⟩) (by assumption) ?_
        rotate_left
        · (intro wS hSw; (try dsimp only at hSw); go_simp; (try with_reducible rfl))
        try simp only [Act.put, List.setIfInBounds_toArray, List.set_cons_zero, List.set_cons_succ]
        refine wpAnyH_take (i := 5) (oi := { dst := some 49, op := Op.load 3 (Operand.tmp 48), type := 3, pos := "law.go:92", after := #[{ on := 4, ground := Ground.data }], guard := none }) (v := ?_) rfl (by kernel_rfl) (by kernel_rfl) (by kernel_rfl) (fun _ _ _ h => h) (Or.inl ⟨by rfl, ?_⟩) (by assumption) ?_
        rotate_left
        · (intro wS hSw; (try dsimp only at hSw); go_simp; (try with_reducible rfl))
        try simp only [Act.put, List.setIfInBounds_toArray, List.set_cons_zero, List.set_cons_succ]
        refine wpAnyH_take (i := 6) (oi := { dst := some 50, op := Op.move (Operand.tmp 1), type := 24, pos := "law.go:92", after := #[], guard := none }) (v := ?_) rfl (by kernel_rfl) (by kernel_rfl) (by kernel_rfl) (fun _ _ _ h => h) (Or.inl ⟨by rfl, ?_⟩) (by assumption) ?_
        rotate_left
        · (intro wS hSw; (try dsimp only at hSw); go_simp; (try with_reducible rfl))
        try simp only [Act.put, List.setIfInBounds_toArray, List.set_cons_zero, List.set_cons_succ]
        refine wpAnyH_take (i := 7) (oi := { dst := some 51, op := Op.move (Operand.tmp 6), type := 3, pos := "law.go:92", after := #[], guard := none }) (v := ?_) rfl (by kernel_rfl) (by kernel_rfl) (by kernel_rfl) (fun _ _ _ h => h) (Or.inl ⟨by rfl, ?_⟩) (by assumption) ?_
        rotate_left
        · (intro wS hSw; (try dsimp only at hSw); go_simp; (try with_reducible rfl))
        try simp only [Act.put, List.setIfInBounds_toArray, List.set_cons_zero, List.set_cons_succ]
        refine wpAnyH_take (i := 8) (oi := { dst := some 52, op := Op.indexAddr 24 (Operand.tmp 50) (Operand.tmp 51), type := 0, pos := "law.go:92", after := #[{ on := 6, ground := Ground.data }, { on := 7, ground := Ground.data }], guard := none }) (v := ?_) rfl (by kernel_rfl) (by kernel_rfl) (by kernel_rfl) (fun _ _ _ h => h) (Or.inl ⟨by rfl, ?_⟩) (by assumption) ?_
        rotate_left
        · (intro wS hSw; (try dsimp only at hSw); go_simp; (try with_reducible rfl))
        try simp only [Act.put, List.setIfInBounds_toArray, List.set_cons_zero, List.set_cons_succ]
        refine wpAnyH_take (i := 9) (oi := { dst := some 53, op := Op.fieldAddr 33 (Operand.tmp 52) 2, type := 0, pos := "law.go:92", after := #[{ on := 8, ground := Ground.data }], guard := none }) (v := ?_) rfl (by kernel_rfl) (by kernel_rfl) (by kernel_rfl) (fun _ _ _ h => h) (Or.inl ⟨by rfl, ?_⟩) (by assumption) ?_
        rotate_left
        · (intro wS hSw; (try dsimp only at hSw); go_simp; (try with_reducible rfl))
        try simp only [Act.put, List.setIfInBounds_toArray, List.set_cons_zero, List.set_cons_succ]
        refine wpAnyH_take (i := 10) (oi := { dst := some 54, op := Op.load 31 (Operand.tmp 53), type := 31, pos := "law.go:92", after := #[{ on := 9, ground := Ground.data }], guard := none }) (v := ?_) rfl (by kernel_rfl) (by kernel_rfl) (by kernel_rfl) (fun _ _ _ h => h) (Or.inl ⟨by rfl, ?_⟩) (by assumption) ?_
        rotate_left
        · (intro wS hSw; (try dsimp only at hSw); go_simp; (try with_reducible rfl))
        try simp only [Act.put, List.setIfInBounds_toArray, List.set_cons_zero, List.set_cons_succ]
        refine wpAnyH_ready (rs := [11]) (by kernel_rfl) (by simp) ?_
        refine AllReadyH.cons (o := { dst := some 55, op := Op.call { callee := Callee.value (Operand.func 11), args := #[Operand.tmp 44, Operand.tmp 49, Operand.tmp 54], argTypes := #[26, 3, 31] }, type := 4, pos := "law.go:92", after := #[{ on := 0, ground := Ground.data }, { on := 5, ground := Ground.data }, { on := 10, ground := Ground.data }], guard := none }) rfl (fun K hK => ?_) AllReadyH.nil
        go_simp
        (go_at_call 11; ((with_reducible refine (put_any _ _ _ _ _ _ _ _ _ _ _ _ _ _ _ _ hM.drew HM (by omega) (by omega) HAB.out).mono ?_); rintro e' wN ⟨rfl, ⟨W2, hM2⟩, hT⟩; skip))
        have HL := hM2.len
        have HB2 := hBr.drew.trans (hT.bel B hm1 hm2 (by have := hBr.drew.size; omega))
        have hc := fun i => HB2.cell (p := ⟨b1, i, none⟩) hb1
        have k1' := (hc _).trans q1
        have k2' := (hc _).trans q2
        have k3' := (hc _).trans q3
        go_wp2_with fail
        refine hK.out _ _ ?_ (fun hNew => ?_)
        · (first | exact ⟨k1, k2, k3⟩ | exact ⟨k1', k2', k3'⟩ | assumption)
        clear hK K hHeld
        have hHeld := hNew
        clear hNew
        try simp only [Act.put, List.setIfInBounds_toArray, List.set_cons_zero, List.set_cons_succ]
        refine wpAnyH_done (by kernel_rfl) ?_ _
        refine NoPanic.normal ?_
        go_wp2_with fail
        go_roundw
        case rel => exact ⟨j + 1, _, W2, by omega, by go_num, hM2, HB2⟩
        case measure => simp [intOf]; omega
    · have hjn : j = n := by omega
      subst hjn
      clear hlt hj
      have HB1 := HB0.trans (hBr.mono (by omega))
      have G2 := G1.below hBr hbl
      go_wp2_with (go_at_call 18; ((with_reducible refine (pages_any _ _ _ _ _ _ _ _ _ _ _ _ _ hM (by omega)).mono ?_); rintro e' wN ⟨⟨v, rfl, ho⟩, hb⟩; obtain ⟨A3, c3, rfl, hkl, -, -, hS⟩ := own_sliceV ho; have hM := hM.below hb; have HB1 := btr HB1 HB1.size hb; have G2 := G2.below hb G2.lt; clear ho hb))
      rw [List.length_map] at hkl
      obtain ⟨ps, hps⟩ : ∃ ps, pagesF A L = ps := ⟨_, rfl⟩
      have HPS := Lib.hid hps
      rw [hps] at hkl hS ⊢
      obtain ⟨k, hk⟩ : ∃ k, ps.length = k := ⟨_, rfl⟩
      have HK := Lib.hid hk
      rw [hk] at ⊢
      have hkL : k ≤ L := by rw [← hk, ← hps]; exact pagesF_le A L
      obtain ⟨w2, hw2⟩ : ∃ W : World, W = wN := ⟨_, rfl⟩
      rw [← hw2] at HB1 G2 hM hS ⊢
      clear hw2 hkl hps hk
      go_loopw [8] (fun s8 wr => ∃ i : Nat, i ≤ k ∧ s8 = .int .i64 (i : Int) ∧ Below w2.heap.size w2 wr) (fun i _ => k - (intOf i).toNat)
      case atStart => exact ⟨0, Nat.zero_le _, rfl, Below.refl _ _⟩
      case round =>
        obtain ⟨i, hi, rfl, HBx⟩ := hrel
        have hM2 := hM
        have hM := hM.below HBx
        by_cases hik : i < k
        · obtain ⟨p, hp, hpy, hpz⟩ := pagesF_get (A := A) (L := L) (i := i) (by rw [HPS.out, HK.out]; exact hik)
          rw [HPS.out] at hpy
          obtain ⟨z, hz, hAz⟩ := numN hM.inv (by rw [hM.len]; exact hp) hpz
          have hat : Hid (atT b A (p : Int) = .tuple #[.agg #[.int .i64 ((z : Int) / b), .int .i64 ((z : Int) % b)], .bool true]) := Lib.hid (by
            unfold atT
            rw [if_pos (hasB_yes (by rw [hM.len]; exact hp) hpz), Int.toNat_natCast, hAz])
          have hdm : (z : Int) / b * b + (z : Int) % b = (z : Int) := by
            have := Int.mul_ediv_add_emod (z : Int) b
            rw [Int.mul_comm] at this
            exact this
          have hth : thereB a b ((z : Int) / b) ((z : Int) % b) = true := by
            have h1 : 0 ≤ (z : Int) / b := Int.ediv_nonneg (by omega) (by omega)
            have h2 : (z : Int) / b < a := Int.ediv_lt_of_lt_mul (by omega) (by have := HAB.out; omega)
            have h3 : 0 ≤ (z : Int) % b := Int.emod_nonneg _ (by omega)
            have h4 : (z : Int) % b < b := Int.emod_lt_of_pos _ (by omega)
            unfold thereB withinB
            simp
            omega
          have hwz : whoI A (z : Int) = (p : Int) := who_at hM.inv (by rw [hM.len]; exact hp) (by omega) hAz
          have hwb0 : whoB a b A ((z : Int) / b) ((z : Int) % b) = true := by
            unfold whoB
            rw [hth, hdm, hwz, decide_eq_true (by omega : (p : Int) ≠ -1)]
            rfl
          have hwr : Hid (whoR a b A ((z : Int) / b) ((z : Int) % b) = (p : Int)) := Lib.hid (by
            unfold whoR
            rw [hwb0, hdm, hwz]
            rfl)
          have hwb := Lib.hid hwb0
          obtain ⟨gp, op, rfl, hgp, qs⟩ := hS.at_ (by rw [List.length_map, HK.out]; omega)
          have cy0 : w2.cell? ⟨gp, op + i, none⟩ = some (.int .i64 (p : Int)) := qs i _ (by rw [List.getElem?_map, ps_get (by rw [HK.out]; exact hik), hpy]; rfl)
          obtain ⟨y, hy⟩ : ∃ y, (p : Int) = y := ⟨_, rfl⟩
          obtain ⟨u1, hu1⟩ : ∃ u1, (z : Int) / b = u1 := ⟨_, rfl⟩
          obtain ⟨u2, hu2⟩ : ∃ u2, (z : Int) % b = u2 := ⟨_, rfl⟩
          rw [hu1, hu2] at hat hwr hwb
          rw [hy] at hat hwr cy0 hpy
          have HPY := Lib.hid hpy
          have y0 : -1 ≤ y := by omega
          clear hwb0 hdm hth hwz hAz hpz hu1 hu2 hy hp hz hpy
          by_cases hi0 : i = 0
          · subst hi0
            rw [Nat.add_zero] at cy0
            have cy := (HBx.cell (p := ⟨gp, op, none⟩) hgp).trans cy0
            have i1 : (0 : Int) < (k : Int) := by omega
            have CY0 := Lib.hid cy0
            clear qs cy0
            go_upto_region 16 with (first
              | (go_at_call 14; ((with_reducible refine (at_b _ _ _ _ _ _ _ _ _ _ _ _ _ _ _ hM HM (by omega) (by omega) hat.out).mono ?_); rintro e' wN ⟨rfl, hb⟩; have HBx := btr HBx HBx.size hb; have hM := hM.below hb; have hba : Below wN.heap.size wN (wN.alloc (.cells #[.int .i64 u1, .int .i64 u2] 31)) := (Below.refl _ _).alloc (Nat.le_refl _) _; have HBx := btr HBx HBx.size hba; have hM := hM.below hba; have QB : Blk (wN.alloc (.cells #[.int .i64 u1, .int .i64 u2] 31)) wN.heap.size 31 #[.int .i64 u1, .int .i64 u2] := Blk.new_ _ _ _; clear hb hba; obtain ⟨qq0, qq1⟩ := cells2 QB))
              | (go_at_call 16; ((with_reducible refine (who_bb _ _ _ _ _ _ _ _ _ _ _ _ _ _ _ _ _ hM HM (by omega) HAB.out hwr.out hwb.out).mono ?_); rintro e' wN ⟨rfl, hb⟩; have HBx := btr HBx HBx.size hb; have hM := hM.below hb; clear hb)))
            have cy := (HBx.cell (p := ⟨gp, op, none⟩) hgp).trans CY0.out
            refine wp_region_noPanic ?_
            refine wp_region_held_drew (S := (fun w' => w'.cell? ⟨gp, op, none⟩ = some (.int .i64 y))) (by kernel_rfl) ?_ (fun hHeld => ?_)
            · (first | exact cy | assumption)
            refine wpAnyH_take (i := 0) (oi := { dst := some 79, op := Op.move (Operand.tmp 10), type := 4, pos := "law.go:99", after := #[], guard := none }) (v := ?_) rfl (by kernel_rfl) (by kernel_rfl) (by kernel_rfl) (fun _ _ _ h => h) (Or.inl ⟨by rfl, ?_⟩) (by assumption) ?_
            rotate_left
            · (intro wS hSw; (try dsimp only at hSw); go_simp; (try with_reducible rfl))
            try simp only [Act.put, List.setIfInBounds_toArray, List.set_cons_zero, List.set_cons_succ]
            refine wpAnyH_take (i := 1) (oi := { dst := some 80, op := Op.unOp UnOp.not 4 (Operand.tmp 79), type := 4, pos := "law.go:99", after := #[{ on := 0, ground := Ground.data }], guard := none }) (v := ?_) rfl (by kernel_rfl) (by kernel_rfl) (by kernel_rfl) (fun _ _ _ h => h) (Or.inl ⟨by rfl, ?_⟩) (by assumption) ?_
            rotate_left
            · (intro wS hSw; (try dsimp only at hSw); go_simp; (try with_reducible rfl))
            try simp only [Act.put, List.setIfInBounds_toArray, List.set_cons_zero, List.set_cons_succ]
            refine wpAnyH_take (i := 2) (oi := { dst := some 81, op := Op.move (Operand.tmp 80), type := 4, pos := "law.go:99", after := #[{ on := 1, ground := Ground.data }], guard := none }) (v := ?_) rfl (by kernel_rfl) (by kernel_rfl) (by kernel_rfl) (fun _ _ _ h => h) (Or.inl ⟨by rfl, ?_⟩) (by assumption) ?_
            rotate_left
            · (intro wS hSw; (try dsimp only at hSw); go_simp; (try with_reducible rfl))
            try simp only [Act.put, List.setIfInBounds_toArray, List.set_cons_zero, List.set_cons_succ]
            refine wpAnyH_take (i := 3) (oi := { dst := some 82, op := Op.move (Operand.tmp 12), type := 4, pos := "law.go:99", after := #[{ on := 2, ground := Ground.guard }], guard := some (2, false) }) (v := ?_) rfl (by kernel_rfl) (by kernel_rfl) (by kernel_rfl) (fun _ _ _ h => h) (Or.inl ⟨by rfl, ?_⟩) (by assumption) ?_
            rotate_left
            · (intro wS hSw; (try dsimp only at hSw); go_simp; (try with_reducible rfl))
            try simp only [Act.put, List.setIfInBounds_toArray, List.set_cons_zero, List.set_cons_succ]
            refine wpAnyH_take (i := 4) (oi := { dst := some 83, op := Op.unOp UnOp.not 4 (Operand.tmp 82), type := 4, pos := "law.go:99", after := #[{ on := 3, ground := Ground.data }, { on := 2, ground := Ground.guard }], guard := some (2, false) }) (v := ?_) rfl (by kernel_rfl) (by kernel_rfl) (by kernel_rfl) (fun _ _ _ h => h) (Or.inl ⟨by rfl, ?_⟩) (by assumption) ?_
            rotate_left
            · (intro wS hSw; (try dsimp only at hSw); go_simp; (try with_reducible rfl))
            try simp only [Act.put, List.setIfInBounds_toArray, List.set_cons_zero, List.set_cons_succ]
            refine wpAnyH_take (i := 5) (oi := { dst := some 84, op := Op.pick (Operand.tmp 81) (Operand.const (Value.bool true)) (Operand.tmp 83), type := 4, pos := "law.go:99", after := #[{ on := 2, ground := Ground.data }, { on := 4, ground := Ground.data }], guard := none }) (v := ?_) rfl (by kernel_rfl) (by kernel_rfl) (by kernel_rfl) (fun _ _ _ h => h) (Or.inl ⟨by rfl, ?_⟩) (by assumption) ?_
            rotate_left
            · (intro wS hSw; (try dsimp only at hSw); go_simp; (try with_reducible rfl))
            try simp only [Act.put, List.setIfInBounds_toArray, List.set_cons_zero, List.set_cons_succ]
            refine wpAnyH_take (i := 6) (oi := { dst := some 85, op := Op.move (Operand.tmp 84), type := 4, pos := "law.go:99", after := #[{ on := 5, ground := Ground.data }, { on := 2, ground := Ground.chain }], guard := none }) (v := ?_) rfl (by kernel_rfl) (by kernel_rfl) (by kernel_rfl) (fun _ _ _ h => h) (Or.inl ⟨by rfl, ?_⟩) (by assumption) ?_
            rotate_left
            · (intro wS hSw; (try dsimp only at hSw); go_simp; (try with_reducible rfl))
            try simp only [Act.put, List.setIfInBounds_toArray, List.set_cons_zero, List.set_cons_succ]
            refine wpAnyH_take (i := 7) (oi := { dst := some 86, op := Op.move (Operand.tmp 11), type := 3, pos := "law.go:99", after := #[{ on := 6, ground := Ground.guard }], guard := some (6, false) }) (v := ?_) rfl (by kernel_rfl) (by kernel_rfl) (by kernel_rfl) (fun _ _ _ h => h) (Or.inl ⟨by rfl, ?_⟩) (by assumption) ?_
            rotate_left
            · (intro wS hSw; (try dsimp only at hSw); go_simp; (try with_reducible rfl))
            try simp only [Act.put, List.setIfInBounds_toArray, List.set_cons_zero, List.set_cons_succ]
            refine wpAnyH_take (i := 8) (oi := { dst := some 87, op := Op.move (Operand.tmp 7), type := 41, pos := "law.go:99", after := #[{ on := 6, ground := Ground.guard }], guard := some (6, false) }) (v := ?_) rfl (by kernel_rfl) (by kernel_rfl) (by kernel_rfl) (fun _ _ _ h => h) (Or.inl ⟨by rfl, ?_⟩) (by assumption) ?_
            rotate_left
            · (intro wS hSw; (try dsimp only at hSw); go_simp; (try with_reducible rfl))
            try simp only [Act.put, List.setIfInBounds_toArray, List.set_cons_zero, List.set_cons_succ]
            refine wpAnyH_take (i := 9) (oi := { dst := some 88, op := Op.move (Operand.tmp 8), type := 3, pos := "law.go:99", after := #[{ on := 6, ground := Ground.guard }], guard := some (6, false) }) (v := ?_) rfl (by kernel_rfl) (by kernel_rfl) (by kernel_rfl) (fun _ _ _ h => h) (Or.inl ⟨by rfl, ?_⟩) (by assumption) ?_
            rotate_left
            · (intro wS hSw; (try dsimp only at hSw); go_simp; (try with_reducible rfl))
            try simp only [Act.put, List.setIfInBounds_toArray, List.set_cons_zero, List.set_cons_succ]
            refine wpAnyH_take (i := 10) (oi := { dst := some 89, op := Op.indexAddr 41 (Operand.tmp 87) (Operand.tmp 88), type := 0, pos := "law.go:99", after := #[{ on := 8, ground := Ground.data }, { on := 9, ground := Ground.data }, { on := 6, ground := Ground.guard }], guard := some (6, false) }) (v := ?_) rfl (by kernel_rfl) (by kernel_rfl) (by kernel_rfl) (fun _ _ _ h => h) (Or.inl ⟨by rfl, ?_⟩) (by assumption) ?_
            rotate_left
            · (intro wS hSw; (try dsimp only at hSw); go_simp; (try with_reducible rfl))
            try simp only [Act.put, List.setIfInBounds_toArray, List.set_cons_zero, List.set_cons_succ]
            refine wpAnyH_take (i := 11) (oi := { dst := some 90, op := Op.load 3 (Operand.tmp 89), type := 3, pos := "law.go:99", after := #[{ on := 10, ground := Ground.data }, { on := 6, ground := Ground.guard }], guard := some (6, false) }) (v := ?_) rfl (by kernel_rfl) (by kernel_rfl) (by kernel_rfl) (fun _ _ _ h => h) (Or.inl ⟨by rfl, ?_⟩) (by assumption) ?_
            rotate_left
            · (intro wS hSw; (try dsimp only at hSw); go_simp; (try with_reducible rfl))
            try simp only [Act.put, List.setIfInBounds_toArray, List.set_cons_zero, List.set_cons_succ]
            refine wpAnyH_take (i := 12) (oi := { dst := some 91, op := Op.binOp BinOp.neq 3 (Operand.tmp 86) (Operand.tmp 90) 3, type := 4, pos := "law.go:99", after := #[{ on := 7, ground := Ground.data }, { on := 11, ground := Ground.data }, { on := 6, ground := Ground.guard }], guard := some (6, false) }) (v := ?_) rfl (by kernel_rfl) (by kernel_rfl) (by kernel_rfl) (fun _ _ _ h => h) (Or.inl ⟨by rfl, ?_⟩) (by assumption) ?_
            rotate_left
            · (intro wS hSw; (try dsimp only at hSw); go_simp; (try with_reducible rfl))
            try simp only [Act.put, List.setIfInBounds_toArray, List.set_cons_zero, List.set_cons_succ]
            refine wpAnyH_take (i := 13) (oi := { dst := some 92, op := Op.pick (Operand.tmp 85) (Operand.const (Value.bool true)) (Operand.tmp 91), type := 4, pos := "law.go:99", after := #[{ on := 6, ground := Ground.data }, { on := 12, ground := Ground.data }], guard := none }) (v := ?_) rfl (by kernel_rfl) (by kernel_rfl) (by kernel_rfl) (fun _ _ _ h => h) (Or.inl ⟨by rfl, ?_⟩) (by assumption) ?_
            rotate_left
            · (intro wS hSw; (try dsimp only at hSw); go_simp; (try with_reducible rfl))
            try simp only [Act.put, List.setIfInBounds_toArray, List.set_cons_zero, List.set_cons_succ]
            refine wpAnyH_take (i := 14) (oi := { dst := some 93, op := Op.move (Operand.tmp 92), type := 4, pos := "law.go:99", after := #[{ on := 13, ground := Ground.data }, { on := 6, ground := Ground.chain }], guard := none }) (v := ?_) rfl (by kernel_rfl) (by kernel_rfl) (by kernel_rfl) (fun _ _ _ h => h) (Or.inl ⟨by rfl, ?_⟩) (by assumption) ?_
            rotate_left
            · (intro wS hSw; (try dsimp only at hSw); go_simp; (try with_reducible rfl))
            try simp only [Act.put, List.setIfInBounds_toArray, List.set_cons_zero, List.set_cons_succ]
            refine wpAnyH_take (i := 15) (oi := { dst := some 94, op := Op.move (Operand.tmp 8), type := 3, pos := "law.go:99", after := #[{ on := 14, ground := Ground.guard }], guard := some (14, false) }) (v := ?_) rfl (by kernel_rfl) (by kernel_rfl) (by kernel_rfl) (fun _ _ _ h => h) (Or.inl ⟨by rfl, ?_⟩) (by assumption) ?_
            rotate_left
            · (intro wS hSw; (try dsimp only at hSw); go_simp; (try with_reducible rfl))
            try simp only [Act.put, List.setIfInBounds_toArray, List.set_cons_zero, List.set_cons_succ]
            refine wpAnyH_take (i := 16) (oi := { dst := some 95, op := Op.binOp BinOp.gtr 3 (Operand.tmp 94) (Operand.const (Value.int IntKind.i64 0)) 3, type := 4, pos := "law.go:99", after := #[{ on := 15, ground := Ground.data }, { on := 14, ground := Ground.guard }], guard := some (14, false) }) (v := ?_) rfl (by kernel_rfl) (by kernel_rfl) (by kernel_rfl) (fun _ _ _ h => h) (Or.inl ⟨by rfl, ?_⟩) (by assumption) ?_
            rotate_left
            · (intro wS hSw; (try dsimp only at hSw); go_simp; (try with_reducible rfl))
            try simp only [Act.put, List.setIfInBounds_toArray, List.set_cons_zero, List.set_cons_succ]
            refine wpAnyH_take (i := 17) (oi := { dst := some 96, op := Op.move (Operand.tmp 95), type := 4, pos := "law.go:99", after := #[{ on := 16, ground := Ground.data }, { on := 14, ground := Ground.chain }, { on := 14, ground := Ground.guard }], guard := some (14, false) }) (v := ?_) rfl (by kernel_rfl) (by kernel_rfl) (by kernel_rfl) (fun _ _ _ h => h) (Or.inl ⟨by rfl, ?_⟩) (by assumption) ?_
            rotate_left
            · (intro wS hSw; (try dsimp only at hSw); go_simp; (try with_reducible rfl))
            try simp only [Act.put, List.setIfInBounds_toArray, List.set_cons_zero, List.set_cons_succ]
            refine wpAnyH_take (i := 18) (oi := { dst := some 97, op := Op.move (Operand.tmp 7), type := 41, pos := "law.go:99", after := #[{ on := 17, ground := Ground.guard }], guard := some (17, true) }) (v := undef) rfl (by kernel_rfl) (by kernel_rfl) (by kernel_rfl) (fun _ _ _ h => h) (Or.inr ⟨by rfl, rfl⟩) (by assumption) ?_
            try simp only [Act.put, List.setIfInBounds_toArray, List.set_cons_zero, List.set_cons_succ]
            refine wpAnyH_take (i := 19) (oi := { dst := some 98, op := Op.move (Operand.tmp 8), type := 3, pos := "law.go:99", after := #[{ on := 17, ground := Ground.guard }], guard := some (17, true) }) (v := undef) rfl (by kernel_rfl) (by kernel_rfl) (by kernel_rfl) (fun _ _ _ h => h) (Or.inr ⟨by rfl, rfl⟩) (by assumption) ?_
            try simp only [Act.put, List.setIfInBounds_toArray, List.set_cons_zero, List.set_cons_succ]
            refine wpAnyH_take (i := 20) (oi := { dst := some 99, op := Op.indexAddr 41 (Operand.tmp 97) (Operand.tmp 98), type := 0, pos := "law.go:99", after := #[{ on := 18, ground := Ground.data }, { on := 19, ground := Ground.data }, { on := 17, ground := Ground.guard }], guard := some (17, true) }) (v := undef) rfl (by kernel_rfl) (by kernel_rfl) (by kernel_rfl) (fun _ _ _ h => h) (Or.inr ⟨by rfl, rfl⟩) (by assumption) ?_
            try simp only [Act.put, List.setIfInBounds_toArray, List.set_cons_zero, List.set_cons_succ]
            refine wpAnyH_take (i := 21) (oi := { dst := some 100, op := Op.load 3 (Operand.tmp 99), type := 3, pos := "law.go:99", after := #[{ on := 20, ground := Ground.data }, { on := 17, ground := Ground.guard }], guard := some (17, true) }) (v := undef) rfl (by kernel_rfl) (by kernel_rfl) (by kernel_rfl) (fun _ _ _ h => h) (Or.inr ⟨by rfl, rfl⟩) (by assumption) ?_
            try simp only [Act.put, List.setIfInBounds_toArray, List.set_cons_zero, List.set_cons_succ]
            refine wpAnyH_take (i := 22) (oi := { dst := some 101, op := Op.move (Operand.tmp 7), type := 41, pos := "law.go:99", after := #[{ on := 17, ground := Ground.guard }], guard := some (17, true) }) (v := undef) rfl (by kernel_rfl) (by kernel_rfl) (by kernel_rfl) (fun _ _ _ h => h) (Or.inr ⟨by rfl, rfl⟩) (by assumption) ?_
            try simp only [Act.put, List.setIfInBounds_toArray, List.set_cons_zero, List.set_cons_succ]
            refine wpAnyH_take (i := 23) (oi := { dst := some 102, op := Op.move (Operand.tmp 8), type := 3, pos := "law.go:99", after := #[{ on := 17, ground := Ground.guard }], guard := some (17, true) }) (v := undef) rfl (by kernel_rfl) (by kernel_rfl) (by kernel_rfl) (fun _ _ _ h => h) (Or.inr ⟨by rfl, rfl⟩) (by assumption) ?_
            try simp only [Act.put, List.setIfInBounds_toArray, List.set_cons_zero, List.set_cons_succ]
            refine wpAnyH_take (i := 24) (oi := { dst := some 103, op := Op.binOp BinOp.sub 3 (Operand.tmp 102) (Operand.const (Value.int IntKind.i64 1)) 3, type := 3, pos := "law.go:99", after := #[{ on := 23, ground := Ground.data }, { on := 17, ground := Ground.guard }], guard := some (17, true) }) (v := undef) rfl (by kernel_rfl) (by kernel_rfl) (by kernel_rfl) (fun _ _ _ h => h) (Or.inr ⟨by rfl, rfl⟩) (by assumption) ?_
            try simp only [Act.put, List.setIfInBounds_toArray, List.set_cons_zero, List.set_cons_succ]
            refine wpAnyH_take (i := 25) (oi := { dst := some 104, op := Op.indexAddr 41 (Operand.tmp 101) (Operand.tmp 103), type := 0, pos := "law.go:99", after := #[{ on := 22, ground := Ground.data }, { on := 24, ground := Ground.data }, { on := 17, ground := Ground.guard }], guard := some (17, true) }) (v := undef) rfl (by kernel_rfl) (by kernel_rfl) (by kernel_rfl) (fun _ _ _ h => h) (Or.inr ⟨by rfl, rfl⟩) (by assumption) ?_
            try simp only [Act.put, List.setIfInBounds_toArray, List.set_cons_zero, List.set_cons_succ]
            refine wpAnyH_take (i := 26) (oi := { dst := some 105, op := Op.load 3 (Operand.tmp 104), type := 3, pos := "law.go:99", after := #[{ on := 25, ground := Ground.data }, { on := 17, ground := Ground.guard }], guard := some (17, true) }) (v := undef) rfl (by kernel_rfl) (by kernel_rfl) (by kernel_rfl) (fun _ _ _ h => h) (Or.inr ⟨by rfl, rfl⟩) (by assumption) ?_
            try simp only [Act.put, List.setIfInBounds_toArray, List.set_cons_zero, List.set_cons_succ]
            refine wpAnyH_take (i := 27) (oi := { dst := some 106, op := Op.binOp BinOp.leq 3 (Operand.tmp 100) (Operand.tmp 105) 3, type := 4, pos := "law.go:99", after := #[{ on := 21, ground := Ground.data }, { on := 26, ground := Ground.data }, { on := 17, ground := Ground.guard }], guard := some (17, true) }) (v := undef) rfl (by kernel_rfl) (by kernel_rfl) (by kernel_rfl) (fun _ _ _ h => h) (Or.inr ⟨by rfl, rfl⟩) (by assumption) ?_
            try simp only [Act.put, List.setIfInBounds_toArray, List.set_cons_zero, List.set_cons_succ]
            refine wpAnyH_take (i := 28) (oi := { dst := some 107, op := Op.pick (Operand.tmp 96) (Operand.tmp 106) (Operand.const (Value.bool false)), type := 4, pos := "law.go:99", after := #[{ on := 17, ground := Ground.data }, { on := 27, ground := Ground.data }, { on := 14, ground := Ground.guard }], guard := some (14, false) }) (v := ?_) rfl (by kernel_rfl) (by kernel_rfl) (by kernel_rfl) (fun _ _ _ h => h) (Or.inl ⟨by rfl, ?_⟩) (by assumption) ?_
            rotate_left
            · (intro wS hSw; (try dsimp only at hSw); go_simp; (try with_reducible rfl))
            try simp only [Act.put, List.setIfInBounds_toArray, List.set_cons_zero, List.set_cons_succ]
            refine wpAnyH_take (i := 29) (oi := { dst := some 108, op := Op.pick (Operand.tmp 93) (Operand.const (Value.bool true)) (Operand.tmp 107), type := 4, pos := "law.go:99", after := #[{ on := 14, ground := Ground.data }, { on := 28, ground := Ground.data }], guard := none }) (v := ?_) rfl (by kernel_rfl) (by kernel_rfl) (by kernel_rfl) (fun _ _ _ h => h) (Or.inl ⟨by rfl, ?_⟩) (by assumption) ?_
            rotate_left
            · (intro wS hSw; (try dsimp only at hSw); go_simp; (try with_reducible rfl))
            try simp only [Act.put, List.setIfInBounds_toArray, List.set_cons_zero, List.set_cons_succ]
            refine wpAnyH_done (by kernel_rfl) ?_ _
            refine NoPanic.normal ?_
            go_wp2_with fail
            go_roundw
            case rel => exact ⟨1, by omega, by go_num, HBx.drew⟩
            case measure => simp [intOf]; omega
          · obtain ⟨q, hq⟩ : ∃ q : Nat, q + 1 = i := ⟨i - 1, by omega⟩
            have hup := pagesF_up (A := A) (L := L) (i := q) (by rw [HPS.out, HK.out]; omega)
            rw [HPS.out, hq, HPY.out] at hup
            have cq0 : w2.cell? ⟨gp, op + q, none⟩ = some (.int .i64 (ps.getD q 0)) := qs q _ (by rw [List.getElem?_map, ps_get (by rw [HK.out]; omega)]; rfl)
            obtain ⟨y', hy'⟩ : ∃ y', ps.getD q 0 = y' := ⟨_, rfl⟩
            rw [hy'] at hup cq0
            have hdec : decide (y ≤ y') = false := decide_eq_false (by omega)
            have hsub : IntKind.i64.wrap ((i : Int) - 1) = (q : Int) := by rw [wrapS _ (by omega) (by omega)]; omega
            have cy := (HBx.cell (p := ⟨gp, op + i, none⟩) hgp).trans cy0
            have cy2 := (HBx.cell (p := ⟨gp, op + q, none⟩) hgp).trans cq0
            have i1 : (0 : Int) < (i : Int) := by omega
            have i5 : 0 < i := by omega
            have i2 : (i : Int) < (k : Int) := by omega
            have i3 : (q : Int) < (k : Int) := by omega
            have i4 : (0 : Int) ≤ (q : Int) := by omega
            have CY0 := Lib.hid cy0
            have CQ0 := Lib.hid cq0
            have HQ := Lib.hid hq
            clear qs cy0 cq0 hup hy' hq
            go_upto_region 16 with (first
              | (go_at_call 14; ((with_reducible refine (at_b _ _ _ _ _ _ _ _ _ _ _ _ _ _ _ hM HM (by omega) (by omega) hat.out).mono ?_); rintro e' wN ⟨rfl, hb⟩; have HBx := btr HBx HBx.size hb; have hM := hM.below hb; have hba : Below wN.heap.size wN (wN.alloc (.cells #[.int .i64 u1, .int .i64 u2] 31)) := (Below.refl _ _).alloc (Nat.le_refl _) _; have HBx := btr HBx HBx.size hba; have hM := hM.below hba; have QB : Blk (wN.alloc (.cells #[.int .i64 u1, .int .i64 u2] 31)) wN.heap.size 31 #[.int .i64 u1, .int .i64 u2] := Blk.new_ _ _ _; clear hb hba; obtain ⟨qq0, qq1⟩ := cells2 QB))
              | (go_at_call 16; ((with_reducible refine (who_bb _ _ _ _ _ _ _ _ _ _ _ _ _ _ _ _ _ hM HM (by omega) HAB.out hwr.out hwb.out).mono ?_); rintro e' wN ⟨rfl, hb⟩; have HBx := btr HBx HBx.size hb; have hM := hM.below hb; clear hb)))
            have cy := (HBx.cell (p := ⟨gp, op + i, none⟩) hgp).trans CY0.out
            have cy2 := (HBx.cell (p := ⟨gp, op + q, none⟩) hgp).trans CQ0.out
            refine wp_region_noPanic ?_
            refine wp_region_held_drew (S := (fun w' => w'.cell? ⟨gp, op + i, none⟩ = some (.int .i64 y) ∧ w'.cell? ⟨gp, op + q, none⟩ = some (.int .i64 y'))) (by kernel_rfl) ?_ (fun hHeld => ?_)
            · (first | exact ⟨cy, cy2⟩ | assumption)
            refine wpAnyH_take (i := 0) (oi := { dst := some 79, op := Op.move (Operand.tmp 10), type := 4, pos := "law.go:99", after := #[], guard := none }) (v := ?_) rfl (by kernel_rfl) (by kernel_rfl) (by kernel_rfl) (fun _ _ _ h => h) (Or.inl ⟨by rfl, ?_⟩) (by assumption) ?_
            rotate_left
            · (intro wS hSw; (try dsimp only at hSw); go_simp; (try with_reducible rfl))
            try simp only [Act.put, List.setIfInBounds_toArray, List.set_cons_zero, List.set_cons_succ]
            refine wpAnyH_take (i := 1) (oi := { dst := some 80, op := Op.unOp UnOp.not 4 (Operand.tmp 79), type := 4, pos := "law.go:99", after := #[{ on := 0, ground := Ground.data }], guard := none }) (v := ?_) rfl (by kernel_rfl) (by kernel_rfl) (by kernel_rfl) (fun _ _ _ h => h) (Or.inl ⟨by rfl, ?_⟩) (by assumption) ?_
            rotate_left
            · (intro wS hSw; (try dsimp only at hSw); go_simp; (try with_reducible rfl))
            try simp only [Act.put, List.setIfInBounds_toArray, List.set_cons_zero, List.set_cons_succ]
            refine wpAnyH_take (i := 2) (oi := { dst := some 81, op := Op.move (Operand.tmp 80), type := 4, pos := "law.go:99", after := #[{ on := 1, ground := Ground.data }], guard := none }) (v := ?_) rfl (by kernel_rfl) (by kernel_rfl) (by kernel_rfl) (fun _ _ _ h => h) (Or.inl ⟨by rfl, ?_⟩) (by assumption) ?_
            rotate_left
            · (intro wS hSw; (try dsimp only at hSw); go_simp; (try with_reducible rfl))
            try simp only [Act.put, List.setIfInBounds_toArray, List.set_cons_zero, List.set_cons_succ]
            refine wpAnyH_take (i := 3) (oi := { dst := some 82, op := Op.move (Operand.tmp 12), type := 4, pos := "law.go:99", after := #[{ on := 2, ground := Ground.guard }], guard := some (2, false) }) (v := ?_) rfl (by kernel_rfl) (by kernel_rfl) (by kernel_rfl) (fun _ _ _ h => h) (Or.inl ⟨by rfl, ?_⟩) (by assumption) ?_
            rotate_left
            · (intro wS hSw; (try dsimp only at hSw); go_simp; (try with_reducible rfl))
            try simp only [Act.put, List.setIfInBounds_toArray, List.set_cons_zero, List.set_cons_succ]
            refine wpAnyH_take (i := 4) (oi := { dst := some 83, op := Op.unOp UnOp.not 4 (Operand.tmp 82), type := 4, pos := "law.go:99", after := #[{ on := 3, ground := Ground.data }, { on := 2, ground := Ground.guard }], guard := some (2, false) }) (v := ?_) rfl (by kernel_rfl) (by kernel_rfl) (by kernel_rfl) (fun _ _ _ h => h) (Or.inl ⟨by rfl, ?_⟩) (by assumption) ?_
            rotate_left
            · (intro wS hSw; (try dsimp only at hSw); go_simp; (try with_reducible rfl))
            try simp only [Act.put, List.setIfInBounds_toArray, List.set_cons_zero, List.set_cons_succ]
            refine wpAnyH_take (i := 5) (oi := { dst := some 84, op := Op.pick (Operand.tmp 81) (Operand.const (Value.bool true)) (Operand.tmp 83), type := 4, pos := "law.go:99", after := #[{ on := 2, ground := Ground.data }, { on := 4, ground := Ground.data }], guard := none }) (v := ?_) rfl (by kernel_rfl) (by kernel_rfl) (by kernel_rfl) (fun _ _ _ h => h) (Or.inl ⟨by rfl, ?_⟩) (by assumption) ?_
            rotate_left
            · (intro wS hSw; (try dsimp only at hSw); go_simp; (try with_reducible rfl))
            try simp only [Act.put, List.setIfInBounds_toArray, List.set_cons_zero, List.set_cons_succ]
            refine wpAnyH_take (i := 6) (oi := { dst := some 85, op := Op.move (Operand.tmp 84), type := 4, pos := "law.go:99", after := #[{ on := 5, ground := Ground.data }, { on := 2, ground := Ground.chain }], guard := none }) (v := ?_) rfl (by kernel_rfl) (by kernel_rfl) (by kernel_rfl) (fun _ _ _ h => h) (Or.inl ⟨by rfl, ?_⟩) (by assumption) ?_
            rotate_left
            · (intro wS hSw; (try dsimp only at hSw); go_simp; (try with_reducible rfl))
            try simp only [Act.put, List.setIfInBounds_toArray, List.set_cons_zero, List.set_cons_succ]
            refine wpAnyH_take (i := 7) (oi := { dst := some 86, op := Op.move (Operand.tmp 11), type := 3, pos := "law.go:99", after := #[{ on := 6, ground := Ground.guard }], guard := some (6, false) }) (v := ?_) rfl (by kernel_rfl) (by kernel_rfl) (by kernel_rfl) (fun _ _ _ h => h) (Or.inl ⟨by rfl, ?_⟩) (by assumption) ?_
            rotate_left
            · (intro wS hSw; (try dsimp only at hSw); go_simp; (try with_reducible rfl))
            try simp only [Act.put, List.setIfInBounds_toArray, List.set_cons_zero, List.set_cons_succ]
            refine wpAnyH_take (i := 8) (oi := { dst := some 87, op := Op.move (Operand.tmp 7), type := 41, pos := "law.go:99", after := #[{ on := 6, ground := Ground.guard }], guard := some (6, false) }) (v := ?_) rfl (by kernel_rfl) (by kernel_rfl) (by kernel_rfl) (fun _ _ _ h => h) (Or.inl ⟨by rfl, ?_⟩) (by assumption) ?_
            rotate_left
            · (intro wS hSw; (try dsimp only at hSw); go_simp; (try with_reducible rfl))
            try simp only [Act.put, List.setIfInBounds_toArray, List.set_cons_zero, List.set_cons_succ]
            refine wpAnyH_take (i := 9) (oi := { dst := some 88, op := Op.move (Operand.tmp 8), type := 3, pos := "law.go:99", after := #[{ on := 6, ground := Ground.guard }], guard := some (6, false) }) (v := ?_) rfl (by kernel_rfl) (by kernel_rfl) (by kernel_rfl) (fun _ _ _ h => h) (Or.inl ⟨by rfl, ?_⟩) (by assumption) ?_
            rotate_left
            · (intro wS hSw; (try dsimp only at hSw); go_simp; (try with_reducible rfl))
            try simp only [Act.put, List.setIfInBounds_toArray, List.set_cons_zero, List.set_cons_succ]
            refine wpAnyH_take (i := 10) (oi := { dst := some 89, op := Op.indexAddr 41 (Operand.tmp 87) (Operand.tmp 88), type := 0, pos := "law.go:99", after := #[{ on := 8, ground := Ground.data }, { on := 9, ground := Ground.data }, { on := 6, ground := Ground.guard }], guard := some (6, false) }) (v := ?_) rfl (by kernel_rfl) (by kernel_rfl) (by kernel_rfl) (fun _ _ _ h => h) (Or.inl ⟨by rfl, ?_⟩) (by assumption) ?_
            rotate_left
            · (intro wS hSw; (try dsimp only at hSw); go_simp; (try with_reducible rfl))
            try simp only [Act.put, List.setIfInBounds_toArray, List.set_cons_zero, List.set_cons_succ]
            refine wpAnyH_take (i := 11) (oi := { dst := some 90, op := Op.load 3 (Operand.tmp 89), type := 3, pos := "law.go:99", after := #[{ on := 10, ground := Ground.data }, { on := 6, ground := Ground.guard }], guard := some (6, false) }) (v := ?_) rfl (by kernel_rfl) (by kernel_rfl) (by kernel_rfl) (fun _ _ _ h => h) (Or.inl ⟨by rfl, ?_⟩) (by assumption) ?_
            rotate_left
            · (intro wS hSw; (try dsimp only at hSw); go_simp; (try with_reducible rfl))
            try simp only [Act.put, List.setIfInBounds_toArray, List.set_cons_zero, List.set_cons_succ]
            refine wpAnyH_take (i := 12) (oi := { dst := some 91, op := Op.binOp BinOp.neq 3 (Operand.tmp 86) (Operand.tmp 90) 3, type := 4, pos := "law.go:99", after := #[{ on := 7, ground := Ground.data }, { on := 11, ground := Ground.data }, { on := 6, ground := Ground.guard }], guard := some (6, false) }) (v := ?_) rfl (by kernel_rfl) (by kernel_rfl) (by kernel_rfl) (fun _ _ _ h => h) (Or.inl ⟨by rfl, ?_⟩) (by assumption) ?_
            rotate_left
            · (intro wS hSw; (try dsimp only at hSw); go_simp; (try with_reducible rfl))
            try simp only [Act.put, List.setIfInBounds_toArray, List.set_cons_zero, List.set_cons_succ]
            refine wpAnyH_take (i := 13) (oi := { dst := some 92, op := Op.pick (Operand.tmp 85) (Operand.const (Value.bool true)) (Operand.tmp 91), type := 4, pos := "law.go:99", after := #[{ on := 6, ground := Ground.data }, { on := 12, ground := Ground.data }], guard := none }) (v := ?_) rfl (by kernel_rfl) (by kernel_rfl) (by kernel_rfl) (fun _ _ _ h => h) (Or.inl ⟨by rfl, ?_⟩) (by assumption) ?_
            rotate_left
            · (intro wS hSw; (try dsimp only at hSw); go_simp; (try with_reducible rfl))
            try simp only [Act.put, List.setIfInBounds_toArray, List.set_cons_zero, List.set_cons_succ]
            refine wpAnyH_take (i := 14) (oi := { dst := some 93, op := Op.move (Operand.tmp 92), type := 4, pos := "law.go:99", after := #[{ on := 13, ground := Ground.data }, { on := 6, ground := Ground.chain }], guard := none }) (v := ?_) rfl (by kernel_rfl) (by kernel_rfl) (by kernel_rfl) (fun _ _ _ h => h) (Or.inl ⟨by rfl, ?_⟩) (by assumption) ?_
            rotate_left
            · (intro wS hSw; (try dsimp only at hSw); go_simp; (try with_reducible rfl))
            try simp only [Act.put, List.setIfInBounds_toArray, List.set_cons_zero, List.set_cons_succ]
            refine wpAnyH_take (i := 15) (oi := { dst := some 94, op := Op.move (Operand.tmp 8), type := 3, pos := "law.go:99", after := #[{ on := 14, ground := Ground.guard }], guard := some (14, false) }) (v := ?_) rfl (by kernel_rfl) (by kernel_rfl) (by kernel_rfl) (fun _ _ _ h => h) (Or.inl ⟨by rfl, ?_⟩) (by assumption) ?_
            rotate_left
            · (intro wS hSw; (try dsimp only at hSw); go_simp; (try with_reducible rfl))
            try simp only [Act.put, List.setIfInBounds_toArray, List.set_cons_zero, List.set_cons_succ]
            refine wpAnyH_take (i := 16) (oi := { dst := some 95, op := Op.binOp BinOp.gtr 3 (Operand.tmp 94) (Operand.const (Value.int IntKind.i64 0)) 3, type := 4, pos := "law.go:99", after := #[{ on := 15, ground := Ground.data }, { on := 14, ground := Ground.guard }], guard := some (14, false) }) (v := ?_) rfl (by kernel_rfl) (by kernel_rfl) (by kernel_rfl) (fun _ _ _ h => h) (Or.inl ⟨by rfl, ?_⟩) (by assumption) ?_
            rotate_left
            · (intro wS hSw; (try dsimp only at hSw); go_simp; (try with_reducible rfl))
            try simp only [Act.put, List.setIfInBounds_toArray, List.set_cons_zero, List.set_cons_succ]
            refine wpAnyH_take (i := 17) (oi := { dst := some 96, op := Op.move (Operand.tmp 95), type := 4, pos := "law.go:99", after := #[{ on := 16, ground := Ground.data }, { on := 14, ground := Ground.chain }, { on := 14, ground := Ground.guard }], guard := some (14, false) }) (v := ?_) rfl (by kernel_rfl) (by kernel_rfl) (by kernel_rfl) (fun _ _ _ h => h) (Or.inl ⟨by rfl, ?_⟩) (by assumption) ?_
            rotate_left
            · (intro wS hSw; (try dsimp only at hSw); go_simp; (try with_reducible rfl))
            try simp only [Act.put, List.setIfInBounds_toArray, List.set_cons_zero, List.set_cons_succ]
            refine wpAnyH_take (i := 18) (oi := { dst := some 97, op := Op.move (Operand.tmp 7), type := 41, pos := "law.go:99", after := #[{ on := 17, ground := Ground.guard }], guard := some (17, true) }) (v := ?_) rfl (by kernel_rfl) (by kernel_rfl) (by kernel_rfl) (fun _ _ _ h => h) (Or.inl ⟨by rfl, ?_⟩) (by assumption) ?_
            rotate_left
            · (intro wS hSw; (try dsimp only at hSw); go_simp; (try with_reducible rfl))
            try simp only [Act.put, List.setIfInBounds_toArray, List.set_cons_zero, List.set_cons_succ]
            refine wpAnyH_take (i := 19) (oi := { dst := some 98, op := Op.move (Operand.tmp 8), type := 3, pos := "law.go:99", after := #[{ on := 17, ground := Ground.guard }], guard := some (17, true) }) (v := ?_) rfl (by kernel_rfl) (by kernel_rfl) (by kernel_rfl) (fun _ _ _ h => h) (Or.inl ⟨by rfl, ?_⟩) (by assumption) ?_
            rotate_left
            · (intro wS hSw; (try dsimp only at hSw); go_simp; (try with_reducible rfl))
            try simp only [Act.put, List.setIfInBounds_toArray, List.set_cons_zero, List.set_cons_succ]
            refine wpAnyH_take (i := 20) (oi := { dst := some 99, op := Op.indexAddr 41 (Operand.tmp 97) (Operand.tmp 98), type := 0, pos := "law.go:99", after := #[{ on := 18, ground := Ground.data }, { on := 19, ground := Ground.data }, { on := 17, ground := Ground.guard }], guard := some (17, true) }) (v := ?_) rfl (by kernel_rfl) (by kernel_rfl) (by kernel_rfl) (fun _ _ _ h => h) (Or.inl ⟨by rfl, ?_⟩) (by assumption) ?_
            rotate_left
            · (intro wS hSw; (try dsimp only at hSw); go_simp; (try with_reducible rfl))
            try simp only [Act.put, List.setIfInBounds_toArray, List.set_cons_zero, List.set_cons_succ]
            refine wpAnyH_take (i := 21) (oi := { dst := some 100, op := Op.load 3 (Operand.tmp 99), type := 3, pos := "law.go:99", after := #[{ on := 20, ground := Ground.data }, { on := 17, ground := Ground.guard }], guard := some (17, true) }) (v := ?_) rfl (by kernel_rfl) (by kernel_rfl) (by kernel_rfl) (fun _ _ _ h => h) (Or.inl ⟨by rfl, ?_⟩) (by assumption) ?_
            rotate_left
            · (intro wS hSw; (try dsimp only at hSw); go_simp; (try with_reducible rfl))
            try simp only [Act.put, List.setIfInBounds_toArray, List.set_cons_zero, List.set_cons_succ]
            refine wpAnyH_take (i := 22) (oi := { dst := some 101, op := Op.move (Operand.tmp 7), type := 41, pos := "law.go:99", after := #[{ on := 17, ground := Ground.guard }], guard := some (17, true) }) (v := ?_) rfl (by kernel_rfl) (by kernel_rfl) (by kernel_rfl) (fun _ _ _ h => h) (Or.inl ⟨by rfl, ?_⟩) (by assumption) ?_
            rotate_left
            · (intro wS hSw; (try dsimp only at hSw); go_simp; (try with_reducible rfl))
            try simp only [Act.put, List.setIfInBounds_toArray, List.set_cons_zero, List.set_cons_succ]
            refine wpAnyH_take (i := 23) (oi := { dst := some 102, op := Op.move (Operand.tmp 8), type := 3, pos := "law.go:99", after := #[{ on := 17, ground := Ground.guard }], guard := some (17, true) }) (v := ?_) rfl (by kernel_rfl) (by kernel_rfl) (by kernel_rfl) (fun _ _ _ h => h) (Or.inl ⟨by rfl, ?_⟩) (by assumption) ?_
            rotate_left
            · (intro wS hSw; (try dsimp only at hSw); go_simp; (try with_reducible rfl))
            try simp only [Act.put, List.setIfInBounds_toArray, List.set_cons_zero, List.set_cons_succ]
            refine wpAnyH_take (i := 24) (oi := { dst := some 103, op := Op.binOp BinOp.sub 3 (Operand.tmp 102) (Operand.const (Value.int IntKind.i64 1)) 3, type := 3, pos := "law.go:99", after := #[{ on := 23, ground := Ground.data }, { on := 17, ground := Ground.guard }], guard := some (17, true) }) (v := ?_) rfl (by kernel_rfl) (by kernel_rfl) (by kernel_rfl) (fun _ _ _ h => h) (Or.inl ⟨by rfl, ?_⟩) (by assumption) ?_
            rotate_left
            · (intro wS hSw; (try dsimp only at hSw); go_simp; (try with_reducible rfl))
            try simp only [Act.put, List.setIfInBounds_toArray, List.set_cons_zero, List.set_cons_succ]
            refine wpAnyH_take (i := 25) (oi := { dst := some 104, op := Op.indexAddr 41 (Operand.tmp 101) (Operand.tmp 103), type := 0, pos := "law.go:99", after := #[{ on := 22, ground := Ground.data }, { on := 24, ground := Ground.data }, { on := 17, ground := Ground.guard }], guard := some (17, true) }) (v := ?_) rfl (by kernel_rfl) (by kernel_rfl) (by kernel_rfl) (fun _ _ _ h => h) (Or.inl ⟨by rfl, ?_⟩) (by assumption) ?_
            rotate_left
            · (intro wS hSw; (try dsimp only at hSw); go_simp; (try with_reducible rfl))
            try simp only [Act.put, List.setIfInBounds_toArray, List.set_cons_zero, List.set_cons_succ]
            refine wpAnyH_take (i := 26) (oi := { dst := some 105, op := Op.load 3 (Operand.tmp 104), type := 3, pos := "law.go:99", after := #[{ on := 25, ground := Ground.data }, { on := 17, ground := Ground.guard }], guard := some (17, true) }) (v := ?_) rfl (by kernel_rfl) (by kernel_rfl) (by kernel_rfl) (fun _ _ _ h => h) (Or.inl ⟨by rfl, ?_⟩) (by assumption) ?_
            rotate_left
            · (intro wS hSw; (try dsimp only at hSw); go_simp; (try with_reducible rfl))
            try simp only [Act.put, List.setIfInBounds_toArray, List.set_cons_zero, List.set_cons_succ]
            refine wpAnyH_take (i := 27) (oi := { dst := some 106, op := Op.binOp BinOp.leq 3 (Operand.tmp 100) (Operand.tmp 105) 3, type := 4, pos := "law.go:99", after := #[{ on := 21, ground := Ground.data }, { on := 26, ground := Ground.data }, { on := 17, ground := Ground.guard }], guard := some (17, true) }) (v := ?_) rfl (by kernel_rfl) (by kernel_rfl) (by kernel_rfl) (fun _ _ _ h => h) (Or.inl ⟨by rfl, ?_⟩) (by assumption) ?_
            rotate_left
            · (intro wS hSw; (try dsimp only at hSw); go_simp; (try with_reducible rfl))
            try simp only [Act.put, List.setIfInBounds_toArray, List.set_cons_zero, List.set_cons_succ]
            refine wpAnyH_take (i := 28) (oi := { dst := some 107, op := Op.pick (Operand.tmp 96) (Operand.tmp 106) (Operand.const (Value.bool false)), type := 4, pos := "law.go:99", after := #[{ on := 17, ground := Ground.data }, { on := 27, ground := Ground.data }, { on := 14, ground := Ground.guard }], guard := some (14, false) }) (v := ?_) rfl (by kernel_rfl) (by kernel_rfl) (by kernel_rfl) (fun _ _ _ h => h) (Or.inl ⟨by rfl, ?_⟩) (by assumption) ?_
            rotate_left
            · (intro wS hSw; (try dsimp only at hSw); go_simp; (try with_reducible rfl))
            try simp only [Act.put, List.setIfInBounds_toArray, List.set_cons_zero, List.set_cons_succ]
            refine wpAnyH_take (i := 29) (oi := { dst := some 108, op := Op.pick (Operand.tmp 93) (Operand.const (Value.bool true)) (Operand.tmp 107), type := 4, pos := "law.go:99", after := #[{ on := 14, ground := Ground.data }, { on := 28, ground := Ground.data }], guard := none }) (v := ?_) rfl (by kernel_rfl) (by kernel_rfl) (by kernel_rfl) (fun _ _ _ h => h) (Or.inl ⟨by rfl, ?_⟩) (by assumption) ?_
            rotate_left
            · (intro wS hSw; (try dsimp only at hSw); go_simp; (try with_reducible rfl))
            try simp only [Act.put, List.setIfInBounds_toArray, List.set_cons_zero, List.set_cons_succ]
            refine wpAnyH_done (by kernel_rfl) ?_ _
            refine NoPanic.normal ?_
            go_wp2_with fail
            go_roundw
            case rel => exact ⟨i + 1, by omega, by go_num, HBx.drew⟩
            case measure => simp [intOf]; omega
        · have hik2 : i = k := by omega
          subst hik2
          clear hik hi
          have HB1 := HB1.trans (HBx.mono HB1.size)
          have G3 := G2.below HBx G2.lt
          go_wp2_with fail
          obtain ⟨w3, hw3⟩ : ∃ W : World, W = wr := ⟨_, rfl⟩
          rw [← hw3] at HB1 G3 hM ⊢
          clear hw3 HBx hM2 hS G2 hBr HB0 G1 H1
          have hall := live_all hM.inv hM.len (by omega) (by omega) HAB.out
          rw [HPS.out, HK.out] at hall
          have HALL := Lib.hid hall
          clear hall
          go_loopw [13, 14] (fun s13 s14 wq => ∃ x : Nat, (x : Int) ≤ a ∧ s14 = .int .i64 (x : Int) ∧ s13 = .int .i64 ((liveS a b A x : Nat) : Int) ∧ Below w3.heap.size w3 wq) (fun _ i _ => a.toNat - (intOf i).toNat)
          case atStart => exact ⟨0, by omega, rfl, rfl, Below.refl _ _⟩
          case round =>
            obtain ⟨x, hx, rfl, rfl, HBr⟩ := hrel
            have hMr := hM.below HBr
            have Gr := G3.below HBr G3.lt
            have y0 : wr.cell? ⟨w.heap.size, 0, none⟩ = some (.int .i64 a) := Gr.cell_ 0
            have hls := liveS_succ a b A x
            have hlb := liveS_le a b A x
            have hlf' := liveF_le a b A (x : Int) b.toNat
            have hxb : x * b.toNat ≤ 20 * 8 := Nat.mul_le_mul (by omega) (by omega)
            obtain ⟨Q, hQ⟩ : ∃ Q, liveS a b A x = Q := ⟨_, rfl⟩
            obtain ⟨F, hF⟩ : ∃ F, liveF a b A (x : Int) b.toNat = F := ⟨_, rfl⟩
            rw [hQ] at hls hlb ⊢
            rw [hF] at hls hlf'
            have hlf := Lib.hid hF
            have HLS := Lib.hid hls
            have HQ2 := Lib.hid hQ
            have Q1 : (Q : Int) ≤ 1000 := by omega
            have F1 : (F : Int) ≤ 1000 := by omega
            have Q0 : (0 : Int) ≤ (Q : Int) := by omega
            have F0 : (0 : Int) ≤ (F : Int) := by omega
            have x0 : (0 : Int) ≤ (x : Int) := by omega
            clear hls hlb hlf' hxb hQ hF
            by_cases hxa : (x : Int) < a
            · go_wp2_with (go_at_call 19; ((with_reducible refine (live_b _ _ _ _ _ _ _ _ _ _ _ _ _ _ _ hMr HM (by omega) HAB.out hlf.out).mono ?_); rintro e' wN ⟨rfl, hb⟩; have HBr := btr HBr HBr.size hb; clear hb))
              go_roundw
              case rel => exact ⟨x + 1, by omega, by go_num, by rw [HLS.out]; go_num, HBr⟩
              case measure => simp [intOf]; omega
            · have hxe : x = a.toNat := by omega
              have hQk : Q = i := by
                rw [← HQ2.out, hxe]
                exact HALL.out
              subst hQk
              have lm1 := liveF_out (a := a) (b := b) A (x := -1) (Or.inl (by omega)) b.toNat
              have lm2 := liveF_out (a := a) (b := b) A (x := a) (Or.inr (Int.le_refl _)) b.toNat
              have LM1 := Lib.hid lm1
              have LM2 := Lib.hid lm2
              clear lm1 lm2 hxe HLS hlf HQ2 HALL
              go_wp2_with (first
                | (go_at_call 19; ((with_reducible refine (live_b _ _ _ _ _ _ _ _ _ _ _ _ (-1) 0 _ hMr HM (by omega) HAB.out LM1.out).mono ?_); rintro e' wN ⟨rfl, hb⟩; have HBr := btr HBr HBr.size hb; have hMr := hMr.below hb; have Gr := Gr.below hb Gr.lt; clear hb y0; have y0 : wN.cell? ⟨w.heap.size, 0, none⟩ = some (.int .i64 a) := Gr.cell_ 0))
                | (go_at_call 19; ((with_reducible refine (live_b _ _ _ _ _ _ _ _ _ _ _ _ a 0 _ hMr HM (by omega) HAB.out LM2.out).mono ?_); rintro e' wN ⟨rfl, hb⟩; have HBr := btr HBr HBr.size hb; have hMr := hMr.below hb; have Gr := Gr.below hb Gr.lt; clear hb y0; have y0 : wN.cell? ⟨w.heap.size, 0, none⟩ = some (.int .i64 a) := Gr.cell_ 0))
                | (go_at_call 6; ((with_reducible refine (awake_any _).mono ?_); rintro e' wN ⟨rfl, hb⟩; have HBr := btr HBr HBr.size hb)))
              go_ret
              exact ⟨rfl, HB1.trans (HBr.mono HB1.size)⟩
end Go.Proofs.Ytfefjjebjjfkdaa
