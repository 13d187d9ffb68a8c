/- found, three, SameFounds, GreatFounds. -/
import Derived.Test.YtofeijlejljbdaaRkD
import Derived.Deep.RegionHeld3
import Derived.Deep.DrawnRows
namespace Go.Proofs.Ytofeijlejljbdaa
open Go.ChangeShapes Go.WideShapes Go.ChangeAt Go.RowKit
set_option linter.unusedSimpArgs false
set_option linter.unusedVariables false

def x0F : Fd := ⟨4, 0, 1, 3, 4, 1⟩
def x1F : Fd := ⟨5, 0, 3, 0, 5, 1⟩
def x2F : Fd := ⟨6, 0, 1, 3, 6, 2⟩
def threeL : List Fd := [x0F, x1F, x2F]
set_option maxRecDepth 100000 in
set_option maxHeartbeats 4000000 in
theorem found_any (k p e s : Int) (w : World) : Calls Try.prog 15 #[.int .i64 k, .int .i64 p, .int .i64 e, .int .i64 s] w fun e' w' => e' = .returned (.agg #[.int .i64 s, .int .i64 0, .int .i64 k, .int .i64 p, .int .i64 s, .int .i64 e]) ∧ Below w.heap.size w w' := by
  have hB : Below w.heap.size w (w.alloc (.cells #[.int .i64 s, .int .i64 0, .int .i64 k, .int .i64 p, .int .i64 s, .int .i64 e] 30)) := (Below.refl _ _).alloc (Nat.le_refl _) _
  go_enter Try.func15, Try.ntmps15
  go_wp2
  refine bodyPost_ret (v := .agg #[.int .i64 s, .int .i64 0, .int .i64 k, .int .i64 p, .int .i64 s, .int .i64 e]) ?_ rfl ⟨rfl, hB⟩
  simp [results, Try.results15, go_sem]
theorem build_3 (x y z : Fd) (w : World) : (Instr.buildSlice 22 3 #[(0, (.agg #[.int .i64 x.b, .int .i64 x.g, .int .i64 x.k, .int .i64 x.p, .int .i64 x.s, .int .i64 x.e])), (1, (.agg #[.int .i64 y.b, .int .i64 y.g, .int .i64 y.k, .int .i64 y.p, .int .i64 y.s, .int .i64 y.e])), (2, (.agg #[.int .i64 z.b, .int .i64 z.g, .int .i64 z.k, .int .i64 z.p, .int .i64 z.s, .int .i64 z.e]))]).run Try.prog w = .ok (.slice (some ⟨w.heap.size, 0, none⟩) 3 3) (w.alloc (.cells #[.int .i64 x.b, .int .i64 x.g, .int .i64 x.k, .int .i64 x.p, .int .i64 x.s, .int .i64 x.e, .int .i64 y.b, .int .i64 y.g, .int .i64 y.k, .int .i64 y.p, .int .i64 y.s, .int .i64 y.e, .int .i64 z.b, .int .i64 z.g, .int .i64 z.k, .int .i64 z.p, .int .i64 z.s, .int .i64 z.e] 30)) := by kernel_rfl
theorem sl_new (w : World) (L : List Fd) {g : Nat} (hg : g = w.heap.size) : SlFd (w.alloc (.cells (L.flatMap fCs).toArray 30)) (w.alloc (.cells (L.flatMap fCs).toArray 30)).heap.size (some ⟨g, 0, none⟩) L := by
  subst hg
  refine Or.inr ⟨_, 0, rfl, by simp, fun k x hx j u hu => ?_⟩
  rw [List.getElem?_map] at hx
  obtain ⟨y, hy, rfl⟩ := Option.map_eq_some_iff.1 hx
  have hj : j < 6 := (List.getElem?_eq_some_iff.1 hu).1
  rw [Joins.cell_of_block (heap_alloc_new w _), Nat.zero_add]
  have e := flat_get L k j y hy hj
  rw [hu] at e
  simpa using e
set_option maxRecDepth 100000 in
set_option maxHeartbeats 4000000 in
theorem three_any (w : World) : Calls Try.prog 18 #[] w fun e' w' => (∃ g, e' = .returned (.slice (some ⟨g, 0, none⟩) 3 3) ∧ Blk w' g 30 #[.int .i64 4, .int .i64 0, .int .i64 1, .int .i64 3, .int .i64 4, .int .i64 1, .int .i64 5, .int .i64 0, .int .i64 3, .int .i64 0, .int .i64 5, .int .i64 1, .int .i64 6, .int .i64 0, .int .i64 1, .int .i64 3, .int .i64 6, .int .i64 2] ∧ w.heap.size ≤ g) ∧ Below w.heap.size w w' := by
  have hbd := build_3 x0F x1F x2F
  unfold x0F x1F x2F at hbd
  dsimp only at hbd
  go_enter Try.func18, Try.ntmps18
  go_wp2_with (first
    | (go_at_call 15; go_loud (((with_reducible refine (found_any 1 3 1 4 _).mono ?_); rintro e' w1 ⟨rfl, hb1⟩)))
    | (go_at_call 15; go_loud (((with_reducible refine (found_any 3 0 1 5 _).mono ?_); rintro e' w2 ⟨rfl, hb2⟩)))
    | (go_at_call 15; go_loud (((with_reducible refine (found_any 1 3 2 6 _).mono ?_); rintro e' w3 ⟨rfl, hb3⟩))))
  go_ret
  have hB := btr (btr hb1 hb1.size hb2) (Nat.le_trans hb1.size hb2.size) hb3
  exact ⟨⟨w3.heap.size, rfl, Blk.new_ _ _ _, hB.size⟩, hB.alloc hB.size _⟩
theorem blk_sl {w : World} {g : Nat} (h : Blk w g 30 #[.int .i64 4, .int .i64 0, .int .i64 1, .int .i64 3, .int .i64 4, .int .i64 1, .int .i64 5, .int .i64 0, .int .i64 3, .int .i64 0, .int .i64 5, .int .i64 1, .int .i64 6, .int .i64 0, .int .i64 1, .int .i64 3, .int .i64 6, .int .i64 2]) : SlFd w w.heap.size (some ⟨g, 0, none⟩) threeL := by
  refine Or.inr ⟨g, 0, rfl, h.lt, fun k x hx j u hu => ?_⟩
  rw [List.getElem?_map] at hx
  obtain ⟨y, hy, rfl⟩ := Option.map_eq_some_iff.1 hx
  have hj : j < 6 := (List.getElem?_eq_some_iff.1 hu).1
  have e := flat_get threeL k j y hy hj
  rw [hu] at e
  rw [h.cell_, Nat.zero_add]
  show ((threeL.flatMap fCs).toArray)[k * 6 + j]? = some u
  simpa using e
theorem blk_sl1 {w : World} {g : Nat} (h : Blk w g 30 #[.int .i64 4, .int .i64 0, .int .i64 1, .int .i64 3, .int .i64 4, .int .i64 1, .int .i64 5, .int .i64 0, .int .i64 3, .int .i64 0, .int .i64 5, .int .i64 1, .int .i64 6, .int .i64 0, .int .i64 1, .int .i64 3, .int .i64 6, .int .i64 2]) : SlFd w w.heap.size (some ⟨g, 0, none⟩) [x0F] := by
  refine Or.inr ⟨g, 0, rfl, h.lt, fun k x hx j u hu => ?_⟩
  match k, hx with
  | 0, hx =>
    obtain rfl : fCs x0F = x := by simpa using hx
    have hj : j < 6 := (List.getElem?_eq_some_iff.1 hu).1
    have e := flat_get threeL 0 j x0F rfl hj
    rw [hu] at e
    rw [h.cell_]
    show ((threeL.flatMap fCs).toArray)[0 + 0 * 6 + j]? = some u
    simpa using e
theorem blk_sl2 {w : World} {g : Nat} (h : Blk w g 30 #[.int .i64 4, .int .i64 0, .int .i64 1, .int .i64 3, .int .i64 4, .int .i64 1, .int .i64 5, .int .i64 0, .int .i64 3, .int .i64 0, .int .i64 5, .int .i64 1, .int .i64 6, .int .i64 0, .int .i64 1, .int .i64 3, .int .i64 6, .int .i64 2]) : SlFd w w.heap.size (some ⟨g, 12, none⟩) [x2F] := by
  refine Or.inr ⟨g, 12, rfl, h.lt, fun k x hx j u hu => ?_⟩
  match k, hx with
  | 0, hx =>
    obtain rfl : fCs x2F = x := by simpa using hx
    have hj : j < 6 := (List.getElem?_eq_some_iff.1 hu).1
    have e := flat_get threeL 2 j x2F rfl hj
    rw [hu] at e
    rw [h.cell_]
    show ((threeL.flatMap fCs).toArray)[12 + 0 * 6 + j]? = some u
    have e2 : 12 + 0 * 6 + j = 2 * 6 + j := by omega
    rw [e2]
    simpa using e
set_option maxRecDepth 100000 in
set_option maxHeartbeats 4000000 in
theorem great_any (A : Option Addr) (n c : Nat) (m : Int) (w : World) : Calls Try.prog 8 #[.slice A n c, .int .i64 m] w fun e' w' => e' = .returned (.bool (decide (m < (n : Int)))) ∧ w = w' := by
  rcases (by cases hq : decide (m < (n : Int)) <;> simp : decide (m < (n : Int)) = true ∨ decide (m < (n : Int)) = false) with hs | hs
  all_goals
    rw [hs]
    go_enter Try.func8, Try.ntmps8
    go_wp2
    go_ret
    exact ⟨rfl, rfl⟩
set_option maxRecDepth 100000 in
set_option maxHeartbeats 4000000 in
theorem same_yes (L : List Fd) (A B : Option Addr) (n c d : Nat) (w : World) (hn : L.length = n) (n1 : n ≤ 1000000) (h1 : SlFd w w.heap.size A L) (h2 : SlFd w w.heap.size B L) : Calls Try.prog 13 #[.slice A n c, .slice B n d] w fun e' w' => e' = .returned (.bool true) ∧ Below w.heap.size w w' := by
  have HN := Lib.hid hn
  have H1 := Lib.hid h1
  have H2 := Lib.hid h2
  clear hn h1 h2
  go_enter Try.func13, Try.ntmps13
  go_wp2
  go_loopw [5] (fun s5 wr => ∃ k : Nat, k ≤ n ∧ s5 = .int .i64 (k : Int) ∧ Below w.heap.size w wr) (fun s5 _ => n - (iOf s5).toNat)
  case atStart => exact ⟨0, Nat.zero_le _, rfl, Below.refl _ _⟩
  case round =>
    obtain ⟨k, hk, rfl, hB⟩ := hrel
    by_cases hlt : k < n
    · obtain ⟨b1, o1, rfl, l1, q1⟩ := (H1.out.below hB).at_ (by have := HN.out; omega)
      obtain ⟨b2, o2, rfl, l2, q2⟩ := (H2.out.below hB).at_ (by have := HN.out; omega)
      obtain ⟨x, hx⟩ : ∃ x, L[k]? = some x := ⟨_, List.getElem?_eq_getElem (by have := HN.out; omega)⟩
      obtain ⟨x0, x1, x2, x3, x4, x5⟩ := q1 k x hx
      obtain ⟨y0, y1, y2, y3, y4, y5⟩ := q2 k x hx
      have k0 : (0 : Int) ≤ (k : Int) := by omega
      have k1 : (k : Int) < (n : Int) := by omega
      clear hx q1 q2
      go_upto_region 6 with fail
      refine wp_region_noPanic ?_
      refine wp_region_held_drew (S := (fun w' => w'.cell? ⟨b1, o1 + k * 6, none⟩ = some (.int .i64 x.b) ∧ w'.cell? ⟨b1, o1 + k * 6 + 1, none⟩ = some (.int .i64 x.g) ∧ w'.cell? ⟨b1, o1 + k * 6 + 2, none⟩ = some (.int .i64 x.k) ∧ w'.cell? ⟨b1, o1 + k * 6 + 3, none⟩ = some (.int .i64 x.p) ∧ w'.cell? ⟨b1, o1 + k * 6 + 4, none⟩ = some (.int .i64 x.s) ∧ w'.cell? ⟨b1, o1 + k * 6 + 5, none⟩ = some (.int .i64 x.e) ∧ w'.cell? ⟨b2, o2 + k * 6, none⟩ = some (.int .i64 x.b) ∧ w'.cell? ⟨b2, o2 + k * 6 + 1, none⟩ = some (.int .i64 x.g) ∧ w'.cell? ⟨b2, o2 + k * 6 + 2, none⟩ = some (.int .i64 x.k) ∧ w'.cell? ⟨b2, o2 + k * 6 + 3, none⟩ = some (.int .i64 x.p) ∧ w'.cell? ⟨b2, o2 + k * 6 + 4, none⟩ = some (.int .i64 x.s) ∧ w'.cell? ⟨b2, o2 + k * 6 + 5, none⟩ = some (.int .i64 x.e))) (by kernel_rfl) ?_ (fun hHeld => ?_)
      · (first | exact ⟨x0, x1, x2, x3, x4, x5, y0, y1, y2, y3, y4, y5⟩ | assumption)
      refine wpAnyH_take (i := 0) (oi := { dst := some 17, op := Op.move (Operand.tmp 0), type := 22, pos := "same.go:148", after := #[], guard := none }) (v := ?_) rfl (by kernel_rfl) (by kernel_rfl) (by kernel_rfl) (fun _ _ _ h => h) (Or.inl ⟨by rfl, ?_⟩) (by assumption) ?_
      rotate_left
      · (intro wS hSw; (try dsimp only at hSw); go_simp; (try with_reducible rfl))
      try simp only [Act.put, List.setIfInBounds_toArray, List.set_cons_zero, List.set_cons_succ]
      refine wpAnyH_take (i := 1) (oi := { dst := some 18, op := Op.move (Operand.tmp 5), type := 3, pos := "same.go:148", after := #[], guard := none }) (v := ?_) rfl (by kernel_rfl) (by kernel_rfl) (by kernel_rfl) (fun _ _ _ h => h) (Or.inl ⟨by rfl, ?_⟩) (by assumption) ?_
      rotate_left
      · (intro wS hSw; (try dsimp only at hSw); go_simp; (try with_reducible rfl))
      try simp only [Act.put, List.setIfInBounds_toArray, List.set_cons_zero, List.set_cons_succ]
      refine wpAnyH_take (i := 2) (oi := { dst := some 19, op := Op.indexAddr 22 (Operand.tmp 17) (Operand.tmp 18), type := 0, pos := "same.go:148", after := #[{ on := 0, ground := Ground.data }, { on := 1, ground := Ground.data }], guard := none }) (v := ?_) rfl (by kernel_rfl) (by kernel_rfl) (by kernel_rfl) (fun _ _ _ h => h) (Or.inl ⟨by rfl, ?_⟩) (by assumption) ?_
      rotate_left
      · (intro wS hSw; (try dsimp only at hSw); go_simp; (try with_reducible rfl))
      try simp only [Act.put, List.setIfInBounds_toArray, List.set_cons_zero, List.set_cons_succ]
      refine wpAnyH_take (i := 3) (oi := { dst := some 20, op := Op.load 30 (Operand.tmp 19), type := 30, pos := "same.go:148", after := #[{ on := 2, ground := Ground.data }], guard := none }) (v := ?_) rfl (by kernel_rfl) (by kernel_rfl) (by kernel_rfl) (fun _ _ _ h => h) (Or.inl ⟨by rfl, ?_⟩) (by assumption) ?_
      rotate_left
      · (intro wS hSw; (try dsimp only at hSw); go_simp; (try with_reducible rfl))
      try simp only [Act.put, List.setIfInBounds_toArray, List.set_cons_zero, List.set_cons_succ]
      refine wpAnyH_take (i := 4) (oi := { dst := some 21, op := Op.move (Operand.tmp 1), type := 22, pos := "same.go:148", after := #[], guard := none }) (v := ?_) rfl (by kernel_rfl) (by kernel_rfl) (by kernel_rfl) (fun _ _ _ h => h) (Or.inl ⟨by rfl, ?_⟩) (by assumption) ?_
      rotate_left
      · (intro wS hSw; (try dsimp only at hSw); go_simp; (try with_reducible rfl))
      try simp only [Act.put, List.setIfInBounds_toArray, List.set_cons_zero, List.set_cons_succ]
      refine wpAnyH_take (i := 5) (oi := { dst := some 22, op := Op.move (Operand.tmp 5), type := 3, pos := "same.go:148", after := #[], guard := none }) (v := ?_) rfl (by kernel_rfl) (by kernel_rfl) (by kernel_rfl) (fun _ _ _ h => h) (Or.inl ⟨by rfl, ?_⟩) (by assumption) ?_
      rotate_left
      · (intro wS hSw; (try dsimp only at hSw); go_simp; (try with_reducible rfl))
      try simp only [Act.put, List.setIfInBounds_toArray, List.set_cons_zero, List.set_cons_succ]
      refine wpAnyH_take (i := 6) (oi := { dst := some 23, op := Op.indexAddr 22 (Operand.tmp 21) (Operand.tmp 22), type := 0, pos := "same.go:148", after := #[{ on := 4, ground := Ground.data }, { on := 5, ground := Ground.data }], guard := none }) (v := ?_) rfl (by kernel_rfl) (by kernel_rfl) (by kernel_rfl) (fun _ _ _ h => h) (Or.inl ⟨by rfl, ?_⟩) (by assumption) ?_
      rotate_left
      · (intro wS hSw; (try dsimp only at hSw); go_simp; (try with_reducible rfl))
      try simp only [Act.put, List.setIfInBounds_toArray, List.set_cons_zero, List.set_cons_succ]
      refine wpAnyH_take (i := 7) (oi := { dst := some 24, op := Op.load 30 (Operand.tmp 23), type := 30, pos := "same.go:148", after := #[{ on := 6, ground := Ground.data }], guard := none }) (v := ?_) rfl (by kernel_rfl) (by kernel_rfl) (by kernel_rfl) (fun _ _ _ h => h) (Or.inl ⟨by rfl, ?_⟩) (by assumption) ?_
      rotate_left
      · (intro wS hSw; (try dsimp only at hSw); go_simp; (try with_reducible rfl))
      try simp only [Act.put, List.setIfInBounds_toArray, List.set_cons_zero, List.set_cons_succ]
      refine wpAnyH_take (i := 8) (oi := { dst := some 25, op := Op.binOp BinOp.neq 30 (Operand.tmp 20) (Operand.tmp 24) 30, type := 4, pos := "same.go:148", after := #[{ on := 3, ground := Ground.data }, { on := 7, ground := Ground.data }], guard := none }) (v := ?_) rfl (by kernel_rfl) (by kernel_rfl) (by kernel_rfl) (fun _ _ _ h => h) (Or.inl ⟨by rfl, ?_⟩) (by assumption) ?_
      rotate_left
      · (intro wS hSw; (try dsimp only at hSw); go_simp; (try with_reducible rfl))
      try simp only [Act.put, List.setIfInBounds_toArray, List.set_cons_zero, List.set_cons_succ]
      refine wpAnyH_done (by kernel_rfl) ?_ _
      refine NoPanic.normal ?_
      go_wp2_with fail
      go_roundw
      case rel => exact ⟨k + 1, by omega, by go_num, (by first | exact hB | exact hB.drew)⟩
      case measure => simp [iOf]; omega
    · obtain rfl : k = n := by omega
      go_wp2
      go_ret
      exact ⟨rfl, hB⟩
end Go.Proofs.Ytofeijlejljbdaa
