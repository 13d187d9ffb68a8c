/- Chapter 13's own map in a world: Who, Place, Drop, Put. -/
import Derived.Test.YtfefjjebjjfkdaaMapRP
import Derived.Test.YtfefjjebjjfkdaaMapD
namespace Go.Proofs.Ytfefjjebjjfkdaa
open Go.ChangeShapes Go.WideShapes Go.ChangeAt Go.RowKit
set_option linter.unusedSimpArgs false
set_option linter.unusedVariables false

structure RefW (w : World) (r g : Nat) (a b c d e : Int) (L : Nat) (A : List Int) : Prop where
  blk : ∃ c1, Blk w r 54 #[.int .i64 a, .int .i64 b, .int .i64 c, .int .i64 d, .int .i64 e, .slice (some ⟨g, 0, none⟩) L c1]
  row : Row w g A
  n1 : r ≠ g
  len : A.length = L
theorem RefW.get {w : World} {r g : Nat} {a b c d e : Int} {L : Nat} {A : List Int} (h : RefW w r g a b c d e L A) : ∃ c1,
    w.cell? ⟨r, 0, none⟩ = some (.int .i64 a) ∧ w.cell? ⟨r, 1, none⟩ = some (.int .i64 b) ∧ w.cell? ⟨r, 2, none⟩ = some (.int .i64 c) ∧ w.cell? ⟨r, 3, none⟩ = some (.int .i64 d) ∧ w.cell? ⟨r, 4, none⟩ = some (.int .i64 e) ∧
    w.cell? ⟨r, 5, none⟩ = some (.slice (some ⟨g, 0, none⟩) L c1) ∧ (∀ i, i < L → w.cell? ⟨g, i, none⟩ = some (.int .i64 (A.getD i (-1)))) ∧
    (∀ i, w.frozen? ⟨g, i, none⟩ = false) ∧ (∀ i, w.frozen? ⟨r, i, none⟩ = false) := by
  obtain ⟨c1, hb⟩ := h.blk
  refine ⟨c1, ?_, ?_, ?_, ?_, ?_, ?_, fun i hi => h.row.cell_ (by rw [h.len]; exact hi), h.row.free, hb.free⟩
  all_goals
    rw [hb.cell_]
    simp
theorem RefW.keep {w w' : World} {r g : Nat} {a b c d e : Int} {L : Nat} {A : List Int} (h : RefW w r g a b c d e L A) (hm : w'.heap[r]? = w.heap[r]?) (h1 : w'.heap[g]? = w.heap[g]?) : RefW w' r g a b c d e L A := by
  obtain ⟨⟨c1, hb⟩, row, n1, len⟩ := h
  exact ⟨⟨c1, hm.trans hb⟩, row.keep h1, n1, len⟩
theorem RefW.lt {w : World} {r g : Nat} {a b c d e : Int} {L : Nat} {A : List Int} (h : RefW w r g a b c d e L A) : r < w.heap.size ∧ g < w.heap.size := by
  obtain ⟨⟨c1, hb⟩, row, _⟩ := h
  exact ⟨hb.lt, row.lt⟩
theorem RefW.below {w w' : World} {r g : Nat} {a b c d e : Int} {L : Nat} {A : List Int} (h : RefW w r g a b c d e L A) (hb : Below w.heap.size w w') : RefW w' r g a b c d e L A :=
  h.keep (hb.block _ h.lt.1) (hb.block _ h.lt.2)
theorem RefW.like {w w' : World} {r g : Nat} {a b c d e : Int} {L : Nat} {A : List Int} (h : RefW w r g a b c d e L A) (e1 : w'.heap = w.heap) : RefW w' r g a b c d e L A :=
  h.keep (by rw [e1]) (by rw [e1])
theorem RefW.set {w : World} {r g : Nat} {a b c d e : Int} {L : Nat} {A A' : List Int} (h : RefW w r g a b c d e L A) {i : Nat} (hi : i < L) (u : Int) (hA : A' = A.set i u) :
    RefW (w.setCell ⟨g, i, none⟩ (.int .i64 u)) r g a b c d e L A' := by
  obtain ⟨⟨c1, hb⟩, row, n1, len⟩ := h
  subst hA
  exact ⟨⟨c1, hb.far n1 _⟩, row.set_ (by rw [len]; exact hi) u, n1, by rw [List.length_set]; exact len⟩
theorem num_rb (a b c d e x y n : Int) (w : World) (hm : Hid (mayB a b c d e = true)) (hn : Hid (numberI a b x y = n)) :
    Calls Try.prog 34 #[.agg #[.int .i64 a, .int .i64 b, .int .i64 c, .int .i64 d, .int .i64 e], .agg #[.int .i64 x, .int .i64 y]] w fun e' w' => e' = .returned (.int .i64 n) ∧ Below w.heap.size w w' := by
  have q := rNumber_any a b c d e x y w
  rwa [ifMay_yes _ hm.out, hn.out] at q
theorem there_rb (a b c d e x y : Int) (B : Bool) (w : World) (hm : Hid (mayB a b c d e = true)) (hn : Hid (thereB a b x y = B)) :
    Calls Try.prog 33 #[.agg #[.int .i64 a, .int .i64 b, .int .i64 c, .int .i64 d, .int .i64 e], .agg #[.int .i64 x, .int .i64 y]] w fun e' w' => e' = .returned (.bool B) ∧ Below w.heap.size w w' := by
  have q := rThere_any a b c d e x y w
  rwa [hm.out, hn.out] at q
theorem number_bd {a b x y : Int} {N : Nat} (hb : 0 ≤ b) (hab : (N : Int) = a * b) : numberI a b x y = -1 ∧ thereB a b x y = false ∨ ∃ n : Nat, n < N ∧ thereB a b x y = true ∧ numberI a b x y = (n : Int) ∧ x * b + y = (n : Int) := by
  cases hh : thereB a b x y
  · left
    exact ⟨number_no hh, rfl⟩
  · right
    obtain ⟨p1, p2⟩ := num_bd hh hb
    exact ⟨(x * b + y).toNat, by omega, rfl, by rw [number_yes hh]; omega, by omega⟩
theorem rwho_any (r g : Nat) (a b c d e : Int) (L N : Nat) (A W : List Int) (x y : Int) (w : World) (hM : RefW w r g a b c d e L A) (hI : InvM N A W) (HM : Hid (mayB a b c d e = true)) (hL : L ≤ 1000) (hN : N ≤ 1000) (hab : (N : Int) = a * b) :
    Calls Try.prog 17 #[.pointer (some ⟨r, 0, none⟩), .agg #[.int .i64 x, .int .i64 y]] w fun e' w' => e' = .returned (.tuple #[.int .i64 (whoR a b A x y), .bool (whoB a b A x y)]) ∧ Below w.heap.size w w' := by
  have hbd := may_bd HM.out
  obtain ⟨z, hz⟩ : ∃ z, numberI a b x y = z := ⟨_, rfl⟩
  have hn := Lib.hid hz
  have hzz : -1 ≤ z ∧ z ≤ 1000 := by
    rcases number_bd (x := x) (y := y) (by omega) hab with ⟨h1, _⟩ | ⟨n, h1, _, h2, _⟩ <;> omega
  obtain ⟨zl, zh⟩ := hzz
  have hfin : Hid ((z = -1 → whoR a b A x y = 0 ∧ whoB a b A x y = false) ∧ (0 ≤ z → whoI A z = -1 → whoR a b A x y = 0 ∧ whoB a b A x y = false) ∧ ∀ j : Nat, 0 ≤ z → j < A.length → A.getD j (-1) = z → whoR a b A x y = (j : Int) ∧ whoB a b A x y = true) := by
    refine Lib.hid ⟨?_, ?_, ?_⟩
    · intro hz1
      rcases number_bd (x := x) (y := y) (by omega) hab with ⟨_, h1⟩ | ⟨n, h1, _, h2, _⟩
      · have h2 : whoB a b A x y = false := by simp [whoB, h1]
        exact ⟨by simp [whoR, h2], h2⟩
      · omega
    · intro hz0 hw
      rcases number_bd (x := x) (y := y) (by omega) hab with ⟨_, h1⟩ | ⟨n, h1, h3, h2, h4⟩
      · have h2 : whoB a b A x y = false := by simp [whoB, h1]
        exact ⟨by simp [whoR, h2], h2⟩
      · have h5 : whoB a b A x y = false := by
          have h6 : whoI A (n : Int) = -1 := by rw [← h2, hz]; exact hw
          unfold whoB
          rw [h4, h6]
          simp
        exact ⟨by simp [whoR, h5], h5⟩
    · intro j hz0 hj hA
      rcases number_bd (x := x) (y := y) (by omega) hab with ⟨h1, _⟩ | ⟨n, h1, h3, h2, h4⟩
      · omega
      · have h6 : whoI A (n : Int) = (j : Int) := who_at hI hj (by omega) (by rw [hA, ← hz, h2])
        have h5 : whoB a b A x y = true := by
          unfold whoB
          rw [h4, h6, h3, decide_eq_true (by omega : (j : Int) ≠ -1)]
          rfl
        exact ⟨by unfold whoR; rw [h5, h4, h6]; rfl, h5⟩
  have hlen := Lib.hid hM.len
  clear hz hab hbd hI
  have HB0 : Below w.heap.size w (w.alloc (.cells #[.int .i64 x, .int .i64 y] 31)) := (Below.refl _ _).alloc (Nat.le_refl _) _
  have G1 : Blk (w.alloc (.cells #[.int .i64 x, .int .i64 y] 31)) w.heap.size 31 #[.int .i64 x, .int .i64 y] := Blk.new_ _ _ _
  have z0 : (w.alloc (.cells #[.int .i64 x, .int .i64 y] 31)).cell? ⟨w.heap.size, 0, none⟩ = some (.int .i64 x) := G1.cell_ 0
  have z1 : (w.alloc (.cells #[.int .i64 x, .int .i64 y] 31)).cell? ⟨w.heap.size, 1, none⟩ = some (.int .i64 y) := G1.cell_ 1
  have hM := hM.below HB0
  obtain ⟨c1, y0, y1, y2, y3, y4, y5, ya, fa, fr⟩ := hM.get
  go_enter Try.func17, Try.ntmps17
  go_upto_region 1 with fail
  refine wp_region_noPanic ?_
  refine wp_region_held_drew (S := (fun w' => w'.cell? ⟨r, 0, none⟩ = some (.int .i64 a) ∧ w'.cell? ⟨r, 1, none⟩ = some (.int .i64 b) ∧ w'.cell? ⟨r, 2, none⟩ = some (.int .i64 c) ∧ w'.cell? ⟨r, 3, none⟩ = some (.int .i64 d) ∧ w'.cell? ⟨r, 4, none⟩ = some (.int .i64 e) ∧ w'.cell? ⟨w.heap.size, 0, none⟩ = some (.int .i64 x) ∧ w'.cell? ⟨w.heap.size, 1, none⟩ = some (.int .i64 y))) (by kernel_rfl) ?_ (fun hHeld => ?_)
  · (first | exact ⟨y0, y1, y2, y3, y4, z0, z1⟩ | assumption)
  refine wpAnyH_take (i := 0) (oi := { dst := some 8, op := Op.move (Operand.tmp 0), type := 28, pos := "ref.go:29", after := #[], guard := none }) (v := ?_) rfl (by kernel_rfl) (by kernel_rfl) (by kernel_rfl) (fun _ _ _ h => h) (Or.inl ⟨by rfl, ?_⟩) (by assumption) ?_
  rotate_left
  · (intro wS hSw; (try dsimp only at hSw); go_simp; (try with_reducible rfl))
  try simp only [Act.put, List.setIfInBounds_toArray, List.set_cons_zero, List.set_cons_succ]
  refine wpAnyH_take (i := 1) (oi := { dst := some 9, op := Op.nilCheck (Operand.tmp 8), type := 0, pos := "ref.go:29", after := #[{ on := 0, ground := Ground.data }], guard := none }) (v := ?_) rfl (by kernel_rfl) (by kernel_rfl) (by kernel_rfl) (fun _ _ _ h => h) (Or.inl ⟨by rfl, ?_⟩) (by assumption) ?_
  rotate_left
  · (intro wS hSw; (try dsimp only at hSw); go_simp; (try with_reducible rfl))
  try simp only [Act.put, List.setIfInBounds_toArray, List.set_cons_zero, List.set_cons_succ]
  refine wpAnyH_take (i := 2) (oi := { dst := some 10, op := Op.fieldAddr 54 (Operand.tmp 9) 0, type := 0, pos := "ref.go:29", after := #[{ on := 1, ground := Ground.data }], guard := none }) (v := ?_) rfl (by kernel_rfl) (by kernel_rfl) (by kernel_rfl) (fun _ _ _ h => h) (Or.inl ⟨by rfl, ?_⟩) (by assumption) ?_
  rotate_left
  · (intro wS hSw; (try dsimp only at hSw); go_simp; (try with_reducible rfl))
  try simp only [Act.put, List.setIfInBounds_toArray, List.set_cons_zero, List.set_cons_succ]
  refine wpAnyH_take (i := 3) (oi := { dst := some 11, op := Op.load 23 (Operand.tmp 10), type := 23, pos := "ref.go:29", after := #[{ on := 2, ground := Ground.data }], guard := none }) (v := ?_) rfl (by kernel_rfl) (by kernel_rfl) (by kernel_rfl) (fun _ _ _ h => h) (Or.inl ⟨by rfl, ?_⟩) (by assumption) ?_
  rotate_left
  · (intro wS hSw; (try dsimp only at hSw); go_simp; (try with_reducible rfl))
  try simp only [Act.put, List.setIfInBounds_toArray, List.set_cons_zero, List.set_cons_succ]
  refine wpAnyH_take (i := 4) (oi := { dst := some 12, op := Op.load 31 (Operand.tmp 3), type := 31, pos := "ref.go:29", after := #[], guard := none }) (v := ?_) rfl (by kernel_rfl) (by kernel_rfl) (by kernel_rfl) (fun _ _ _ h => h) (Or.inl ⟨by rfl, ?_⟩) (by assumption) ?_
  rotate_left
  · (intro wS hSw; (try dsimp only at hSw); go_simp; (try with_reducible rfl))
  try simp only [Act.put, List.setIfInBounds_toArray, List.set_cons_zero, List.set_cons_succ]
  refine wpAnyH_ready (rs := [5]) (by kernel_rfl) (by simp) ?_
  refine AllReadyH.cons (o := { dst := some 13, op := Op.call { callee := Callee.value (Operand.func 34), args := #[Operand.tmp 11, Operand.tmp 12], argTypes := #[23, 31] }, type := 3, pos := "ref.go:29", after := #[{ on := 3, ground := Ground.data }, { on := 4, ground := Ground.data }], guard := none }) rfl (fun K hK => ?_) AllReadyH.nil
  go_simp
  (go_at_call 34; ((with_reducible refine (num_rb _ _ _ _ _ _ _ _ _ HM hn).mono ?_); rintro e' wN ⟨rfl, hb⟩; have hb := undrew hb; have hM := hM.below hb; have HB0 := btr HB0 HB0.size hb; have G1 := G1.below hb G1.lt; clear y0 y1 y2 y3 y4 y5 ya fa fr z0 z1; obtain ⟨c1, y0, y1, y2, y3, y4, y5, ya, fa, fr⟩ := hM.get; have z0 := G1.cell_ 0; have z1 := G1.cell_ 1; simp at z0 z1))
  go_wp2_with fail
  refine hK.out _ _ ?_ (fun hNew => ?_)
  · (first | exact ⟨y0, y1, y2, y3, y4, z0, z1⟩ | assumption)
  clear hK K hHeld
  have hHeld := hNew
  clear hNew
  try simp only [Act.put, List.setIfInBounds_toArray, List.set_cons_zero, List.set_cons_succ]
  refine wpAnyH_take (i := 6) (oi := { dst := some 6, op := Op.assign (Operand.tmp 13), type := 3, pos := "ref.go:29", after := #[{ on := 5, ground := Ground.data }, { on := 5, ground := Ground.chain }, { on := 0, ground := Ground.phase }, { on := 1, ground := Ground.phase }, { on := 2, ground := Ground.phase }, { on := 3, ground := Ground.phase }, { on := 4, ground := Ground.phase }, { on := 5, ground := Ground.phase }], guard := none }) (v := ?_) rfl (by kernel_rfl) (by kernel_rfl) (by kernel_rfl) (fun _ _ _ h => h) (Or.inl ⟨by rfl, ?_⟩) (by assumption) ?_
  rotate_left
  · (intro wS hSw; (try dsimp only at hSw); go_simp; (try with_reducible rfl))
  try simp only [Act.put, List.setIfInBounds_toArray, List.set_cons_zero, List.set_cons_succ]
  refine wpAnyH_done (by kernel_rfl) ?_ _
  refine NoPanic.normal ?_
  go_wp2_with fail
  obtain ⟨w1, hw1⟩ : ∃ V : World, V = wN := ⟨_, rfl⟩
  go_loopw [7] (fun s7 wr => ∃ j : Nat, j ≤ L ∧ s7 = .int .i64 (j : Int) ∧ Hid (∀ p, p < j → A.getD p (-1) ≠ z) ∧ RefW wr r g a b c d e L A ∧ Below w.heap.size w wr) (fun i _ => L - (intOf i).toNat)
  case atStart => exact ⟨0, Nat.zero_le _, rfl, Lib.hid (fun p hp => absurd hp (Nat.not_lt_zero _)), hM, HB0⟩
  case round =>
    clear y0 y1 y2 y3 y4 y5 ya fa fr z0 z1 hM
    obtain ⟨j, hj, rfl, hp, hM, HBr⟩ := hrel
    obtain ⟨c1, y0, y1, y2, y3, y4, y5, ya, fa, fr⟩ := hM.get
    clear y0 y1 y2 y3 y4 fa fr
    rcases (by omega : z = -1 ∨ 0 ≤ z) with hz | hz
    · subst hz
      have HF := Lib.hid (hfin.out.1 rfl)
      by_cases hlt : j < L
      · have i1 : (j : Int) < (L : Int) := by omega
        clear ya
        go_wp2_with fail
        go_ret2
        rw [HF.out.1, HF.out.2]
        exact ⟨rfl, HBr⟩
      · have i1 : ¬ (j : Int) < (L : Int) := by omega
        clear ya
        go_wp2_with fail
        go_ret2
        rw [HF.out.1, HF.out.2]
        exact ⟨rfl, HBr⟩
    · by_cases hlt : j < L
      · have cz := ya j hlt
        have i0 : (0 : Int) ≤ (j : Int) := by omega
        have i1 : (j : Int) < (L : Int) := by omega
        by_cases hq : A.getD j (-1) = z
        · have hf := hfin.out.2.2 j hz (by rw [hlen.out]; exact hlt) hq
          rw [hq] at cz
          have HF := Lib.hid hf
          clear ya hq hf
          go_wp2_with fail
          go_ret2
          rw [HF.out.1, HF.out.2]
          exact ⟨rfl, HBr⟩
        · have hp' : Hid (∀ p, p < j + 1 → A.getD p (-1) ≠ z) := Lib.hid (fun p hpl => by
            rcases Nat.lt_or_ge p j with h | h
            · exact hp.out p h
            · have : p = j := by omega
              rw [this]
              exact hq)
          obtain ⟨u, hu⟩ : ∃ u, A.getD j (-1) = u := ⟨_, rfl⟩
          rw [hu] at cz hq
          have hqq : (u == z) = false := by simp [hq]
          have M1 := Lib.hid hM
          clear ya hq hu hM
          go_wp2_with fail
          go_roundw
          case rel => exact ⟨j + 1, by omega, by go_num, hp', M1.out, HBr⟩
          case measure => simp [intOf]; omega
      · have hjL : j = L := by omega
        subst hjL
        have hf := hfin.out.2.1 hz (who_none (fun p hpl => hp.out p (by have := hlen.out; omega)))
        have HF := Lib.hid hf
        clear ya hf
        go_wp2_with fail
        go_ret2
        rw [HF.out.1, HF.out.2]
        exact ⟨rfl, HBr⟩
end Go.Proofs.Ytfefjjebjjfkdaa
