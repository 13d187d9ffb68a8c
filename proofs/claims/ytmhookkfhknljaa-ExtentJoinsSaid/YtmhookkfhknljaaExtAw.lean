/- awake of stage 15. -/
import Derived.Test.YtmhookkfhknljaaExtB
import Derived.Test.YtmhookkfhknljaaExtD
namespace Go.Proofs.Ytmhookkfhknljaa
open Go.ChangeShapes Go.WideShapes Go.ChangeAt Go.RowKit
set_option linter.unusedSimpArgs false
set_option linter.unusedVariables false
section
variable {P : Program} (w : World)
theorem wp_make {o : Oper} {a : Act} {K : Act → World → Prop} {Q : Exit → Act → World → Prop} (l c : Operand) (t : TypeId) (hop : o.op = Op.makeSlice t l c)
    (base : Nat) (e : TypeId) (i : TypeInfo) (z : Value) (size : Nat) (h1 : P.underlying t = some (.slice e)) (h2 : P.info? e = some i) (h3 : i.zero = some z) (h4 : i.size = size)
    (kl kc : IntKind) (L C : Int) (n : Nat) (hl : a.eval l = .int kl L) (hc : a.eval c = .int kc C) (hL : L = (n : Int)) (hC : C = (n : Int)) (b2 : i.bytes * n ≤ 281474976710656) (b3 : n ≤ maxLen) (b4 : base ≤ w.heap.size)
    (hK : ∀ w', w'.ownsRow base e size (.slice (some ⟨w.heap.size, 0, none⟩) n n) n (madeCells z.cells (n * size)).toList → w.grownBy w' none → K (a.put o.dst (.slice (some ⟨w.heap.size, 0, none⟩) n n)) w') :
    o.wp P a w K Q := by
  obtain ⟨w', hrun, r1, r2⟩ := run_make_full (P := P) w base t e i z size h1 h2 h3 h4 kl kc n b2 b3 b4
  subst hL
  subst hC
  unfold Oper.wp
  simp [execOp, hop, hl, hc, hrun, Result.andThen]
  exact hK w' r1 r2
end
theorem below_grown_none {w w' : World} (h : w.grownBy w' none) : Below w.heap.size w w' := (Below.refl _ _).grown h (Nat.le_refl _) (fun j hj => by cases hj)
theorem wanted_then {c : Prop} [Decidable c] {A E : Prop} (h : c) (ha : A) : if c then A else E := by
  rw [if_pos h]
  exact ha
theorem own_two (w : World) (base : Nat) (e : TypeId) (u v : Value) (hb : base ≤ w.heap.size) : (w.alloc (.cells #[u, v] e)).ownsRow base e 1 (.slice (some ⟨w.heap.size, 0, none⟩) 2 2) 2 [u, v] := by
  refine ⟨by simp, Or.inr ⟨w.heap.size, 2, #[u, v], rfl, hb, heap_alloc_new w _, by omega, by unfold maxLen; omega, by simp, by simp⟩⟩
theorem own_one (w : World) (base : Nat) (e : TypeId) (u : Value) (hb : base ≤ w.heap.size) : (w.alloc (.cells #[u] e)).ownsRow base e 1 (.slice (some ⟨w.heap.size, 0, none⟩) 1 1) 1 [u] := by
  refine ⟨by simp, Or.inr ⟨w.heap.size, 1, #[u], rfl, hb, heap_alloc_new w _, by omega, by unfold maxLen; omega, by simp, by simp⟩⟩
theorem build_two (y z : Int) (w : World) : (Instr.buildSlice 34 2 #[(0, .int .i64 y), (1, .int .i64 z)]).run Try.prog w = .ok (.slice (some ⟨w.heap.size, 0, none⟩) 2 2) (w.alloc (.cells #[.int .i64 y, .int .i64 z] 3)) := by kernel_rfl
theorem build_one (z : Int) (w : World) : (Instr.buildSlice 34 1 #[(0, .int .i64 z)]).run Try.prog w = .ok (.slice (some ⟨w.heap.size, 0, none⟩) 1 1) (w.alloc (.cells #[.int .i64 z] 3)) := by kernel_rfl
theorem wp_build2 {w : World} {o : Oper} {a : Act} {K : Act → World → Prop} {Q : Exit → Act → World → Prop} (x y : Operand) (hop : o.op = Op.buildSlice 34 2 #[(0, x), (1, y)])
    (p q : Int) (hx : a.eval x = .int .i64 p) (hy : a.eval y = .int .i64 q) (base : Nat) (hb : base ≤ w.heap.size)
    (hK : ∀ w' u, w'.ownsRow base 3 1 u 2 [.int .i64 p, .int .i64 q] → w.grownBy w' none → u = .slice (some ⟨w.heap.size, 0, none⟩) 2 2 → K (a.put o.dst u) w') : Oper.wp Try.prog o a w K Q := by
  have hrun := build_two p q w
  unfold Oper.wp
  simp [execOp, hop, hx, hy, hrun, Result.andThen]
  exact hK _ _ (own_two w base 3 _ _ hb) (World.grownBy_alloc w _ none) rfl
theorem wp_build1 {w : World} {o : Oper} {a : Act} {K : Act → World → Prop} {Q : Exit → Act → World → Prop} (x : Operand) (hop : o.op = Op.buildSlice 34 1 #[(0, x)])
    (z : Int) (hx : a.eval x = .int .i64 z) (base : Nat) (hb : base ≤ w.heap.size)
    (hK : ∀ w' u, w'.ownsRow base 3 1 u 1 [.int .i64 z] → w.grownBy w' none → (u.ownBlock = none ∨ u.ownBlock = some w.heap.size) → u = .slice (some ⟨w.heap.size, 0, none⟩) 1 1 → K (a.put o.dst u) w') : Oper.wp Try.prog o a w K Q := by
  have hrun := build_one z w
  unfold Oper.wp
  simp [execOp, hop, hx, hrun, Result.andThen]
  exact hK _ _ (own_one w base 3 _ hb) (World.grownBy_alloc w _ none) (Or.inr rfl) rfl
def zeros33 : List Nat := List.replicate 33 0
theorem hm8 : Hid (mayB 8 4 32 0 2 = true) := Lib.hid (by decide)
theorem eidx_nil (w : World) : Calls Try.prog 14 #[.agg #[.int .i64 8, .int .i64 4, .int .i64 32, .int .i64 0, .int .i64 2], .slice none 0 0] w fun e' w' => e' = .returned (.int .i64 1) ∧ Below w.heap.size w w' :=
  eidx_any 8 4 32 0 2 [] 0 1 none 0 w hm8 rfl (by omega) (by decide) (Or.inl rfl) (by decide)
set_option maxRecDepth 100000 in
set_option maxHeartbeats 4000000 in
theorem awake_any (w : World) : Calls Try.prog 7 #[] w fun e' w' => e' = .returned (.bool true) ∧ Below w.heap.size w w' := by
  go_enter Try.func7, Try.ntmps7
  go_wp2_with fail
  refine wp_region_noPanic ?_
  refine wp_region_held_drew (S := (fun w' => Below w.heap.size w w')) (by kernel_rfl) ?_ (fun hHeld => ?_)
  · (first | exact (Below.refl _ _).drew | assumption | exact btr hHeld hHeld.size hb)
  refine wpAnyH_ready (rs := [0]) (by kernel_rfl) (by simp) ?_
  refine AllReadyH.cons (o := { dst := some 1, op := Op.call { callee := Callee.value (Operand.func 18), args := #[], argTypes := #[] }, type := 23, pos := "law.go:19", after := #[], guard := none }) rfl (fun K hK => ?_) AllReadyH.nil
  go_simp
  (first
      | (go_at_call 18; ((with_reducible refine (small_any _).mono ?_); rintro e' w3 ⟨rfl, hb⟩; (try have SB := SB.next hb); (try have SZ := SZ.next hb)))
      | (go_at_call 10; ((with_reducible refine (pages_any 8 4 32 0 2 33 2 _ hm8 (by omega) (by omega) (by decide)).mono ?_); rintro e' w3 ⟨rfl, hb⟩))
      | (go_at_call 13; ((with_reducible refine (eneed_any 8 4 32 0 2 [33, 0] 2 4 _ _ _ hm8 rfl (by omega) (by decide) SB (by decide)).mono ?_); rintro e' w3 ⟨rfl, hb⟩))
      | (go_at_call 14; ((with_reducible refine (eidx_nil _).mono ?_); rintro e' w3 ⟨rfl, hb⟩))
      | (go_at_call 8; ((with_reducible refine (cut_any 8 4 32 0 2 zeros33 33 32 2 _ 33 _ hm8 (by simp [zeros33]) (by omega) (by omega) (by unfold maxLen; omega) rfl (by decide) (fun h => by cases h) SZ).mono ?_); rintro e' w3 ⟨A7, c7, vals7, rfl, -, -, -, -, hb⟩)))
  go_wp2_with fail
  refine hK.out _ _ ?_ (fun hNew => ?_)
  · (first | exact (Below.refl _ _).drew | assumption | exact btr hHeld hHeld.size hb)
  clear hK K hHeld
  have hHeld := hNew
  clear hNew
  try simp only [Act.put, List.setIfInBounds_toArray, List.set_cons_zero, List.set_cons_succ]
  refine wpAnyH_ready (rs := [1]) (by kernel_rfl) (by simp) ?_
  refine AllReadyH.cons (o := { dst := some 2, op := Op.call { callee := Callee.value (Operand.func 10), args := #[Operand.tmp 1, Operand.const (Value.int IntKind.i64 33)], argTypes := #[23, 3] }, type := 3, pos := "law.go:19", after := #[{ on := 0, ground := Ground.data }, { on := 0, ground := Ground.chain }], guard := none }) rfl (fun K hK => ?_) AllReadyH.nil
  go_simp
  (first
      | (go_at_call 18; ((with_reducible refine (small_any _).mono ?_); rintro e' w3 ⟨rfl, hb⟩; (try have SB := SB.next hb); (try have SZ := SZ.next hb)))
      | (go_at_call 10; ((with_reducible refine (pages_any 8 4 32 0 2 33 2 _ hm8 (by omega) (by omega) (by decide)).mono ?_); rintro e' w3 ⟨rfl, hb⟩))
      | (go_at_call 13; ((with_reducible refine (eneed_any 8 4 32 0 2 [33, 0] 2 4 _ _ _ hm8 rfl (by omega) (by decide) SB (by decide)).mono ?_); rintro e' w3 ⟨rfl, hb⟩))
      | (go_at_call 14; ((with_reducible refine (eidx_nil _).mono ?_); rintro e' w3 ⟨rfl, hb⟩))
      | (go_at_call 8; ((with_reducible refine (cut_any 8 4 32 0 2 zeros33 33 32 2 _ 33 _ hm8 (by simp [zeros33]) (by omega) (by omega) (by unfold maxLen; omega) rfl (by decide) (fun h => by cases h) SZ).mono ?_); rintro e' w3 ⟨A7, c7, vals7, rfl, -, -, -, -, hb⟩)))
  go_wp2_with fail
  refine hK.out _ _ ?_ (fun hNew => ?_)
  · (first | exact (Below.refl _ _).drew | assumption | exact btr hHeld hHeld.size hb)
  clear hK K hHeld
  have hHeld := hNew
  clear hNew
  try simp only [Act.put, List.setIfInBounds_toArray, List.set_cons_zero, List.set_cons_succ]
  refine wpAnyH_take (i := 2) (oi := { dst := some 3, op := Op.binOp BinOp.eql 3 (Operand.tmp 2) (Operand.const (Value.int IntKind.i64 2)) 3, type := 4, pos := "law.go:19", after := #[{ on := 1, ground := Ground.data }], guard := none }) (v := ?_) rfl (by kernel_rfl) (by kernel_rfl) (by kernel_rfl) (fun _ _ _ h => h) (Or.inl ⟨by rfl, ?_⟩) (by assumption) ?_
  rotate_left
  · (intro wS hSw; (try dsimp only at hSw); go_simp; (try with_reducible rfl))
  try simp only [Act.put, List.setIfInBounds_toArray, List.set_cons_zero, List.set_cons_succ]
  refine wpAnyH_take (i := 3) (oi := { dst := some 4, op := Op.move (Operand.tmp 3), type := 4, pos := "law.go:19", after := #[{ on := 2, ground := Ground.data }, { on := 1, ground := Ground.chain }], guard := none }) (v := ?_) rfl (by kernel_rfl) (by kernel_rfl) (by kernel_rfl) (fun _ _ _ h => h) (Or.inl ⟨by rfl, ?_⟩) (by assumption) ?_
  rotate_left
  · (intro wS hSw; (try dsimp only at hSw); go_simp; (try with_reducible rfl))
  try simp only [Act.put, List.setIfInBounds_toArray, List.set_cons_zero, List.set_cons_succ]
  refine wpAnyH_ready (rs := [4, 5]) (by kernel_rfl) (by simp) ?_
  refine (AllReadyH.cons (o := { dst := some 5, op := Op.call { callee := Callee.value (Operand.func 18), args := #[], argTypes := #[] }, type := 23, pos := "law.go:19", after := #[{ on := 3, ground := Ground.chain }, { on := 3, ground := Ground.guard }], guard := some (3, true) }) rfl (fun K hK => ?_) (AllReadyH.cons (o := { dst := some 6, op := Op.buildSlice 34 2 #[(0, Operand.const (Value.int IntKind.i64 33)), (1, Operand.const (Value.int IntKind.i64 0))], type := 34, pos := "law.go:19", after := #[{ on := 3, ground := Ground.guard }], guard := some (3, true) }) rfl (fun K hK => ?_) AllReadyH.nil))
  · go_simp
    (first
        | (go_at_call 18; ((with_reducible refine (small_any _).mono ?_); rintro e' w3 ⟨rfl, hb⟩; (try have SB := SB.next hb); (try have SZ := SZ.next hb)))
        | (go_at_call 10; ((with_reducible refine (pages_any 8 4 32 0 2 33 2 _ hm8 (by omega) (by omega) (by decide)).mono ?_); rintro e' w3 ⟨rfl, hb⟩))
        | (go_at_call 13; ((with_reducible refine (eneed_any 8 4 32 0 2 [33, 0] 2 4 _ _ _ hm8 rfl (by omega) (by decide) SB (by decide)).mono ?_); rintro e' w3 ⟨rfl, hb⟩))
        | (go_at_call 14; ((with_reducible refine (eidx_nil _).mono ?_); rintro e' w3 ⟨rfl, hb⟩))
        | (go_at_call 8; ((with_reducible refine (cut_any 8 4 32 0 2 zeros33 33 32 2 _ 33 _ hm8 (by simp [zeros33]) (by omega) (by omega) (by unfold maxLen; omega) rfl (by decide) (fun h => by cases h) SZ).mono ?_); rintro e' w3 ⟨A7, c7, vals7, rfl, -, -, -, -, hb⟩)))
    go_wp2_with fail
    refine hK.out _ _ ?_ (fun hNew => ?_)
    · (first | exact (Below.refl _ _).drew | assumption | exact btr hHeld hHeld.size hb)
    clear hK K hHeld
    have hHeld := hNew
    clear hNew
    try simp only [Act.put, List.setIfInBounds_toArray, List.set_cons_zero, List.set_cons_succ]
    refine wpAnyH_ready (rs := [5]) (by kernel_rfl) (by simp) ?_
    refine AllReadyH.cons (o := { dst := some 6, op := Op.buildSlice 34 2 #[(0, Operand.const (Value.int IntKind.i64 33)), (1, Operand.const (Value.int IntKind.i64 0))], type := 34, pos := "law.go:19", after := #[{ on := 3, ground := Ground.guard }], guard := some (3, true) }) rfl (fun K hK => ?_) AllReadyH.nil
    refine wanted_then (by rfl) ?_
    refine wp_build2 _ _ rfl 33 0 rfl rfl w.heap.size hHeld.size ?_
    intro w3 u3 ho3 hg3 hu3
    subst hu3
    have hb := below_grown_none hg3
    have SB : Sl w3 w3.heap.size _ (([33, 0] : List Int).map (Value.int .i64)) := Sl.of_own ho3
    refine hK.out _ _ ?_ (fun hNew => ?_)
    · (first | exact (Below.refl _ _).drew | assumption | exact btr hHeld hHeld.size hb)
    clear hK K hHeld
    have hHeld := hNew
    clear hNew
    try simp only [Act.put, List.setIfInBounds_toArray, List.set_cons_zero, List.set_cons_succ]
    refine wpAnyH_ready (rs := [6]) (by kernel_rfl) (by simp) ?_
    refine AllReadyH.cons (o := { dst := some 7, op := Op.call { callee := Callee.value (Operand.func 13), args := #[Operand.tmp 5, Operand.tmp 6], argTypes := #[23, 34] }, type := 3, pos := "law.go:19", after := #[{ on := 4, ground := Ground.data }, { on := 5, ground := Ground.data }, { on := 4, ground := Ground.chain }, { on := 3, ground := Ground.guard }], guard := some (3, true) }) rfl (fun K hK => ?_) AllReadyH.nil
    go_simp
    (first
        | (go_at_call 18; ((with_reducible refine (small_any _).mono ?_); rintro e' w3 ⟨rfl, hb⟩; (try have SB := SB.next hb); (try have SZ := SZ.next hb)))
        | (go_at_call 10; ((with_reducible refine (pages_any 8 4 32 0 2 33 2 _ hm8 (by omega) (by omega) (by decide)).mono ?_); rintro e' w3 ⟨rfl, hb⟩))
        | (go_at_call 13; ((with_reducible refine (eneed_any 8 4 32 0 2 [33, 0] 2 4 _ _ _ hm8 rfl (by omega) (by decide) SB (by decide)).mono ?_); rintro e' w3 ⟨rfl, hb⟩))
        | (go_at_call 14; ((with_reducible refine (eidx_nil _).mono ?_); rintro e' w3 ⟨rfl, hb⟩))
        | (go_at_call 8; ((with_reducible refine (cut_any 8 4 32 0 2 zeros33 33 32 2 _ 33 _ hm8 (by simp [zeros33]) (by omega) (by omega) (by unfold maxLen; omega) rfl (by decide) (fun h => by cases h) SZ).mono ?_); rintro e' w3 ⟨A7, c7, vals7, rfl, -, -, -, -, hb⟩)))
    go_wp2_with fail
    refine hK.out _ _ ?_ (fun hNew => ?_)
    · (first | exact (Below.refl _ _).drew | assumption | exact btr hHeld hHeld.size hb)
    clear hK K hHeld
    have hHeld := hNew
    clear hNew
    try simp only [Act.put, List.setIfInBounds_toArray, List.set_cons_zero, List.set_cons_succ]
    refine wpAnyH_take (i := 7) (oi := { dst := some 8, op := Op.binOp BinOp.eql 3 (Operand.tmp 7) (Operand.const (Value.int IntKind.i64 4)) 3, type := 4, pos := "law.go:19", after := #[{ on := 6, ground := Ground.data }, { on := 3, ground := Ground.guard }], guard := some (3, true) }) (v := ?_) rfl (by kernel_rfl) (by kernel_rfl) (by kernel_rfl) (fun _ _ _ h => h) (Or.inl ⟨by rfl, ?_⟩) (by assumption) ?_
    rotate_left
    · (intro wS hSw; (try dsimp only at hSw); go_simp; (try with_reducible rfl))
    try simp only [Act.put, List.setIfInBounds_toArray, List.set_cons_zero, List.set_cons_succ]
    refine wpAnyH_take (i := 8) (oi := { dst := some 9, op := Op.pick (Operand.tmp 4) (Operand.tmp 8) (Operand.const (Value.bool false)), type := 4, pos := "law.go:19", after := #[{ on := 3, ground := Ground.data }, { on := 7, ground := Ground.data }], guard := none }) (v := ?_) rfl (by kernel_rfl) (by kernel_rfl) (by kernel_rfl) (fun _ _ _ h => h) (Or.inl ⟨by rfl, ?_⟩) (by assumption) ?_
    rotate_left
    · (intro wS hSw; (try dsimp only at hSw); go_simp; (try with_reducible rfl))
    try simp only [Act.put, List.setIfInBounds_toArray, List.set_cons_zero, List.set_cons_succ]
    refine wpAnyH_take (i := 9) (oi := { dst := some 10, op := Op.move (Operand.tmp 9), type := 4, pos := "law.go:19", after := #[{ on := 8, ground := Ground.data }, { on := 6, ground := Ground.chain }], guard := none }) (v := ?_) rfl (by kernel_rfl) (by kernel_rfl) (by kernel_rfl) (fun _ _ _ h => h) (Or.inl ⟨by rfl, ?_⟩) (by assumption) ?_
    rotate_left
    · (intro wS hSw; (try dsimp only at hSw); go_simp; (try with_reducible rfl))
    try simp only [Act.put, List.setIfInBounds_toArray, List.set_cons_zero, List.set_cons_succ]
    refine wpAnyH_ready (rs := [10]) (by kernel_rfl) (by simp) ?_
    refine AllReadyH.cons (o := { dst := some 11, op := Op.call { callee := Callee.value (Operand.func 18), args := #[], argTypes := #[] }, type := 23, pos := "law.go:19", after := #[{ on := 9, ground := Ground.chain }, { on := 9, ground := Ground.guard }], guard := some (9, true) }) rfl (fun K hK => ?_) AllReadyH.nil
    go_simp
    (first
        | (go_at_call 18; ((with_reducible refine (small_any _).mono ?_); rintro e' w3 ⟨rfl, hb⟩; (try have SB := SB.next hb); (try have SZ := SZ.next hb)))
        | (go_at_call 10; ((with_reducible refine (pages_any 8 4 32 0 2 33 2 _ hm8 (by omega) (by omega) (by decide)).mono ?_); rintro e' w3 ⟨rfl, hb⟩))
        | (go_at_call 13; ((with_reducible refine (eneed_any 8 4 32 0 2 [33, 0] 2 4 _ _ _ hm8 rfl (by omega) (by decide) SB (by decide)).mono ?_); rintro e' w3 ⟨rfl, hb⟩))
        | (go_at_call 14; ((with_reducible refine (eidx_nil _).mono ?_); rintro e' w3 ⟨rfl, hb⟩))
        | (go_at_call 8; ((with_reducible refine (cut_any 8 4 32 0 2 zeros33 33 32 2 _ 33 _ hm8 (by simp [zeros33]) (by omega) (by omega) (by unfold maxLen; omega) rfl (by decide) (fun h => by cases h) SZ).mono ?_); rintro e' w3 ⟨A7, c7, vals7, rfl, -, -, -, -, hb⟩)))
    go_wp2_with fail
    refine hK.out _ _ ?_ (fun hNew => ?_)
    · (first | exact (Below.refl _ _).drew | assumption | exact btr hHeld hHeld.size hb)
    clear hK K hHeld
    have hHeld := hNew
    clear hNew
    try simp only [Act.put, List.setIfInBounds_toArray, List.set_cons_zero, List.set_cons_succ]
    refine wpAnyH_ready (rs := [11]) (by kernel_rfl) (by simp) ?_
    refine AllReadyH.cons (o := { dst := some 12, op := Op.call { callee := Callee.value (Operand.func 14), args := #[Operand.tmp 11, Operand.const (Value.slice none 0 0)], argTypes := #[23, 34] }, type := 3, pos := "law.go:19", after := #[{ on := 10, ground := Ground.data }, { on := 10, ground := Ground.chain }, { on := 9, ground := Ground.guard }], guard := some (9, true) }) rfl (fun K hK => ?_) AllReadyH.nil
    go_simp
    (first
        | (go_at_call 18; ((with_reducible refine (small_any _).mono ?_); rintro e' w3 ⟨rfl, hb⟩; (try have SB := SB.next hb); (try have SZ := SZ.next hb)))
        | (go_at_call 10; ((with_reducible refine (pages_any 8 4 32 0 2 33 2 _ hm8 (by omega) (by omega) (by decide)).mono ?_); rintro e' w3 ⟨rfl, hb⟩))
        | (go_at_call 13; ((with_reducible refine (eneed_any 8 4 32 0 2 [33, 0] 2 4 _ _ _ hm8 rfl (by omega) (by decide) SB (by decide)).mono ?_); rintro e' w3 ⟨rfl, hb⟩))
        | (go_at_call 14; ((with_reducible refine (eidx_nil _).mono ?_); rintro e' w3 ⟨rfl, hb⟩))
        | (go_at_call 8; ((with_reducible refine (cut_any 8 4 32 0 2 zeros33 33 32 2 _ 33 _ hm8 (by simp [zeros33]) (by omega) (by omega) (by unfold maxLen; omega) rfl (by decide) (fun h => by cases h) SZ).mono ?_); rintro e' w3 ⟨A7, c7, vals7, rfl, -, -, -, -, hb⟩)))
    go_wp2_with fail
    refine hK.out _ _ ?_ (fun hNew => ?_)
    · (first | exact (Below.refl _ _).drew | assumption | exact btr hHeld hHeld.size hb)
    clear hK K hHeld
    have hHeld := hNew
    clear hNew
    try simp only [Act.put, List.setIfInBounds_toArray, List.set_cons_zero, List.set_cons_succ]
    refine wpAnyH_take (i := 12) (oi := { dst := some 13, op := Op.binOp BinOp.eql 3 (Operand.tmp 12) (Operand.const (Value.int IntKind.i64 1)) 3, type := 4, pos := "law.go:19", after := #[{ on := 11, ground := Ground.data }, { on := 9, ground := Ground.guard }], guard := some (9, true) }) (v := ?_) rfl (by kernel_rfl) (by kernel_rfl) (by kernel_rfl) (fun _ _ _ h => h) (Or.inl ⟨by rfl, ?_⟩) (by assumption) ?_
    rotate_left
    · (intro wS hSw; (try dsimp only at hSw); go_simp; (try with_reducible rfl))
    try simp only [Act.put, List.setIfInBounds_toArray, List.set_cons_zero, List.set_cons_succ]
    refine wpAnyH_take (i := 13) (oi := { dst := some 14, op := Op.pick (Operand.tmp 10) (Operand.tmp 13) (Operand.const (Value.bool false)), type := 4, pos := "law.go:19", after := #[{ on := 9, ground := Ground.data }, { on := 12, ground := Ground.data }], guard := none }) (v := ?_) rfl (by kernel_rfl) (by kernel_rfl) (by kernel_rfl) (fun _ _ _ h => h) (Or.inl ⟨by rfl, ?_⟩) (by assumption) ?_
    rotate_left
    · (intro wS hSw; (try dsimp only at hSw); go_simp; (try with_reducible rfl))
    try simp only [Act.put, List.setIfInBounds_toArray, List.set_cons_zero, List.set_cons_succ]
    refine wpAnyH_take (i := 14) (oi := { dst := some 15, op := Op.move (Operand.tmp 14), type := 4, pos := "law.go:19", after := #[{ on := 13, ground := Ground.data }, { on := 11, ground := Ground.chain }], guard := none }) (v := ?_) rfl (by kernel_rfl) (by kernel_rfl) (by kernel_rfl) (fun _ _ _ h => h) (Or.inl ⟨by rfl, ?_⟩) (by assumption) ?_
    rotate_left
    · (intro wS hSw; (try dsimp only at hSw); go_simp; (try with_reducible rfl))
    try simp only [Act.put, List.setIfInBounds_toArray, List.set_cons_zero, List.set_cons_succ]
    refine wpAnyH_ready (rs := [15, 16]) (by kernel_rfl) (by simp) ?_
    refine (AllReadyH.cons (o := { dst := some 16, op := Op.call { callee := Callee.value (Operand.func 18), args := #[], argTypes := #[] }, type := 23, pos := "law.go:19", after := #[{ on := 14, ground := Ground.chain }, { on := 14, ground := Ground.guard }], guard := some (14, true) }) rfl (fun K hK => ?_) (AllReadyH.cons (o := { dst := some 17, op := Op.makeSlice 24 (Operand.const (Value.int IntKind.i64 33)) (Operand.const (Value.int IntKind.i64 33)), type := 24, pos := "law.go:19", after := #[{ on := 14, ground := Ground.guard }], guard := some (14, true) }) rfl (fun K hK => ?_) AllReadyH.nil))
    · go_simp
      (first
          | (go_at_call 18; ((with_reducible refine (small_any _).mono ?_); rintro e' w3 ⟨rfl, hb⟩; (try have SB := SB.next hb); (try have SZ := SZ.next hb)))
          | (go_at_call 10; ((with_reducible refine (pages_any 8 4 32 0 2 33 2 _ hm8 (by omega) (by omega) (by decide)).mono ?_); rintro e' w3 ⟨rfl, hb⟩))
          | (go_at_call 13; ((with_reducible refine (eneed_any 8 4 32 0 2 [33, 0] 2 4 _ _ _ hm8 rfl (by omega) (by decide) SB (by decide)).mono ?_); rintro e' w3 ⟨rfl, hb⟩))
          | (go_at_call 14; ((with_reducible refine (eidx_nil _).mono ?_); rintro e' w3 ⟨rfl, hb⟩))
          | (go_at_call 8; ((with_reducible refine (cut_any 8 4 32 0 2 zeros33 33 32 2 _ 33 _ hm8 (by simp [zeros33]) (by omega) (by omega) (by unfold maxLen; omega) rfl (by decide) (fun h => by cases h) SZ).mono ?_); rintro e' w3 ⟨A7, c7, vals7, rfl, -, -, -, -, hb⟩)))
      go_wp2_with fail
      refine hK.out _ _ ?_ (fun hNew => ?_)
      · (first | exact (Below.refl _ _).drew | assumption | exact btr hHeld hHeld.size hb)
      clear hK K hHeld
      have hHeld := hNew
      clear hNew
      try simp only [Act.put, List.setIfInBounds_toArray, List.set_cons_zero, List.set_cons_succ]
      refine wpAnyH_ready (rs := [16]) (by kernel_rfl) (by simp) ?_
      refine AllReadyH.cons (o := { dst := some 17, op := Op.makeSlice 24 (Operand.const (Value.int IntKind.i64 33)) (Operand.const (Value.int IntKind.i64 33)), type := 24, pos := "law.go:19", after := #[{ on := 14, ground := Ground.guard }], guard := some (14, true) }) rfl (fun K hK => ?_) AllReadyH.nil
      refine wanted_then (by rfl) ?_
      obtain ⟨ti0, hi, hz0, hz1, hz2⟩ := info_parts infoByte
      refine wp_make _ _ _ _ rfl w.heap.size 5 ti0 (.int .u8 0) 1 Try.underlying24 hi hz0 hz1 .i64 .i64 _ _ 33 rfl rfl rfl rfl (by rw [hz2]; omega) (by unfold maxLen; omega) hHeld.size ?_
      intro w3 ho3 hg3
      have hb := below_grown_none hg3
      rw [show (madeCells (Value.int .u8 0).cells (33 * 1)).toList = zeros33.map byteV from (toList_madeCells_one _ _).trans (by simp [zeros33, byteV])] at ho3
      have SZ := Sl.of_own ho3
      clear hi hz0 hz1 hz2
      refine hK.out _ _ ?_ (fun hNew => ?_)
      · (first | exact (Below.refl _ _).drew | assumption | exact btr hHeld hHeld.size hb)
      clear hK K hHeld
      have hHeld := hNew
      clear hNew
      try simp only [Act.put, List.setIfInBounds_toArray, List.set_cons_zero, List.set_cons_succ]
      refine wpAnyH_ready (rs := [17]) (by kernel_rfl) (by simp) ?_
      refine AllReadyH.cons (o := { dst := some 18, op := Op.call { callee := Callee.value (Operand.func 8), args := #[Operand.tmp 16, Operand.tmp 17], argTypes := #[23, 24] }, type := 27, pos := "law.go:19", after := #[{ on := 15, ground := Ground.data }, { on := 16, ground := Ground.data }, { on := 15, ground := Ground.chain }, { on := 14, ground := Ground.guard }], guard := some (14, true) }) rfl (fun K hK => ?_) AllReadyH.nil
      go_simp
      (first
          | (go_at_call 18; ((with_reducible refine (small_any _).mono ?_); rintro e' w3 ⟨rfl, hb⟩; (try have SB := SB.next hb); (try have SZ := SZ.next hb)))
          | (go_at_call 10; ((with_reducible refine (pages_any 8 4 32 0 2 33 2 _ hm8 (by omega) (by omega) (by decide)).mono ?_); rintro e' w3 ⟨rfl, hb⟩))
          | (go_at_call 13; ((with_reducible refine (eneed_any 8 4 32 0 2 [33, 0] 2 4 _ _ _ hm8 rfl (by omega) (by decide) SB (by decide)).mono ?_); rintro e' w3 ⟨rfl, hb⟩))
          | (go_at_call 14; ((with_reducible refine (eidx_nil _).mono ?_); rintro e' w3 ⟨rfl, hb⟩))
          | (go_at_call 8; ((with_reducible refine (cut_any 8 4 32 0 2 zeros33 33 32 2 _ 33 _ hm8 (by simp [zeros33]) (by omega) (by omega) (by unfold maxLen; omega) rfl (by decide) (fun h => by cases h) SZ).mono ?_); rintro e' w3 ⟨A7, c7, vals7, rfl, -, -, -, -, hb⟩)))
      go_wp2_with fail
      refine hK.out _ _ ?_ (fun hNew => ?_)
      · (first | exact (Below.refl _ _).drew | assumption | exact btr hHeld hHeld.size hb)
      clear hK K hHeld
      have hHeld := hNew
      clear hNew
      try simp only [Act.put, List.setIfInBounds_toArray, List.set_cons_zero, List.set_cons_succ]
      refine wpAnyH_take (i := 18) (oi := { dst := some 19, op := Op.call { callee := Callee.builtin Builtin.len, args := #[Operand.tmp 18], argTypes := #[27] }, type := 3, pos := "law.go:19", after := #[{ on := 17, ground := Ground.data }, { on := 14, ground := Ground.guard }], guard := some (14, true) }) (v := ?_) rfl (by kernel_rfl) (by kernel_rfl) (by kernel_rfl) (fun _ _ _ h => h) (Or.inl ⟨by rfl, ?_⟩) (by assumption) ?_
      rotate_left
      · (intro wS hSw; (try dsimp only at hSw); go_simp; (try with_reducible rfl))
      try simp only [Act.put, List.setIfInBounds_toArray, List.set_cons_zero, List.set_cons_succ]
      refine wpAnyH_take (i := 19) (oi := { dst := some 20, op := Op.binOp BinOp.eql 3 (Operand.tmp 19) (Operand.const (Value.int IntKind.i64 2)) 3, type := 4, pos := "law.go:19", after := #[{ on := 18, ground := Ground.data }, { on := 14, ground := Ground.guard }], guard := some (14, true) }) (v := ?_) rfl (by kernel_rfl) (by kernel_rfl) (by kernel_rfl) (fun _ _ _ h => h) (Or.inl ⟨by rfl, ?_⟩) (by assumption) ?_
      rotate_left
      · (intro wS hSw; (try dsimp only at hSw); go_simp; (try with_reducible rfl))
      try simp only [Act.put, List.setIfInBounds_toArray, List.set_cons_zero, List.set_cons_succ]
      refine wpAnyH_take (i := 20) (oi := { dst := some 21, op := Op.pick (Operand.tmp 15) (Operand.tmp 20) (Operand.const (Value.bool false)), type := 4, pos := "law.go:19", after := #[{ on := 14, ground := Ground.data }, { on := 19, ground := Ground.data }], guard := none }) (v := ?_) rfl (by kernel_rfl) (by kernel_rfl) (by kernel_rfl) (fun _ _ _ h => h) (Or.inl ⟨by rfl, ?_⟩) (by assumption) ?_
      rotate_left
      · (intro wS hSw; (try dsimp only at hSw); go_simp; (try with_reducible rfl))
      try simp only [Act.put, List.setIfInBounds_toArray, List.set_cons_zero, List.set_cons_succ]
      refine wpAnyH_take (i := 21) (oi := { dst := some 0, op := Op.assign (Operand.tmp 21), type := 4, pos := "law.go:19", after := #[{ on := 20, ground := Ground.data }, { on := 17, ground := Ground.chain }, { on := 0, ground := Ground.phase }, { on := 1, ground := Ground.phase }, { on := 2, ground := Ground.phase }, { on := 3, ground := Ground.phase }, { on := 4, ground := Ground.phase }, { on := 5, ground := Ground.phase }, { on := 6, ground := Ground.phase }, { on := 7, ground := Ground.phase }, { on := 8, ground := Ground.phase }, { on := 9, ground := Ground.phase }, { on := 10, ground := Ground.phase }, { on := 11, ground := Ground.phase }, { on := 12, ground := Ground.phase }, { on := 13, ground := Ground.phase }, { on := 14, ground := Ground.phase }, { on := 15, ground := Ground.phase }, { on := 16, ground := Ground.phase }, { on := 17, ground := Ground.phase }, { on := 18, ground := Ground.phase }, { on := 19, ground := Ground.phase }, { on := 20, ground := Ground.phase }], guard := none }) (v := ?_) rfl (by kernel_rfl) (by kernel_rfl) (by kernel_rfl) (fun _ _ _ h => h) (Or.inl ⟨by rfl, ?_⟩) (by assumption) ?_
      rotate_left
      · (intro wS hSw; (try dsimp only at hSw); go_simp; (try with_reducible rfl))
      try simp only [Act.put, List.setIfInBounds_toArray, List.set_cons_zero, List.set_cons_succ]
      refine wpAnyH_done (by kernel_rfl) ?_ _
      refine NoPanic.normal ?_
      go_wp2_with fail
      go_ret
      exact ⟨rfl, hHeld⟩
    · refine wanted_then (by rfl) ?_
      obtain ⟨ti0, hi, hz0, hz1, hz2⟩ := info_parts infoByte
      refine wp_make _ _ _ _ rfl w.heap.size 5 ti0 (.int .u8 0) 1 Try.underlying24 hi hz0 hz1 .i64 .i64 _ _ 33 rfl rfl rfl rfl (by rw [hz2]; omega) (by unfold maxLen; omega) hHeld.size ?_
      intro w3 ho3 hg3
      have hb := below_grown_none hg3
      rw [show (madeCells (Value.int .u8 0).cells (33 * 1)).toList = zeros33.map byteV from (toList_madeCells_one _ _).trans (by simp [zeros33, byteV])] at ho3
      have SZ := Sl.of_own ho3
      clear hi hz0 hz1 hz2
      refine hK.out _ _ ?_ (fun hNew => ?_)
      · (first | exact (Below.refl _ _).drew | assumption | exact btr hHeld hHeld.size hb)
      clear hK K hHeld
      have hHeld := hNew
      clear hNew
      try simp only [Act.put, List.setIfInBounds_toArray, List.set_cons_zero, List.set_cons_succ]
      refine wpAnyH_ready (rs := [15]) (by kernel_rfl) (by simp) ?_
      refine AllReadyH.cons (o := { dst := some 16, op := Op.call { callee := Callee.value (Operand.func 18), args := #[], argTypes := #[] }, type := 23, pos := "law.go:19", after := #[{ on := 14, ground := Ground.chain }, { on := 14, ground := Ground.guard }], guard := some (14, true) }) rfl (fun K hK => ?_) AllReadyH.nil
      go_simp
      (first
          | (go_at_call 18; ((with_reducible refine (small_any _).mono ?_); rintro e' w3 ⟨rfl, hb⟩; (try have SB := SB.next hb); (try have SZ := SZ.next hb)))
          | (go_at_call 10; ((with_reducible refine (pages_any 8 4 32 0 2 33 2 _ hm8 (by omega) (by omega) (by decide)).mono ?_); rintro e' w3 ⟨rfl, hb⟩))
          | (go_at_call 13; ((with_reducible refine (eneed_any 8 4 32 0 2 [33, 0] 2 4 _ _ _ hm8 rfl (by omega) (by decide) SB (by decide)).mono ?_); rintro e' w3 ⟨rfl, hb⟩))
          | (go_at_call 14; ((with_reducible refine (eidx_nil _).mono ?_); rintro e' w3 ⟨rfl, hb⟩))
          | (go_at_call 8; ((with_reducible refine (cut_any 8 4 32 0 2 zeros33 33 32 2 _ 33 _ hm8 (by simp [zeros33]) (by omega) (by omega) (by unfold maxLen; omega) rfl (by decide) (fun h => by cases h) SZ).mono ?_); rintro e' w3 ⟨A7, c7, vals7, rfl, -, -, -, -, hb⟩)))
      go_wp2_with fail
      refine hK.out _ _ ?_ (fun hNew => ?_)
      · (first | exact (Below.refl _ _).drew | assumption | exact btr hHeld hHeld.size hb)
      clear hK K hHeld
      have hHeld := hNew
      clear hNew
      try simp only [Act.put, List.setIfInBounds_toArray, List.set_cons_zero, List.set_cons_succ]
      refine wpAnyH_ready (rs := [17]) (by kernel_rfl) (by simp) ?_
      refine AllReadyH.cons (o := { dst := some 18, op := Op.call { callee := Callee.value (Operand.func 8), args := #[Operand.tmp 16, Operand.tmp 17], argTypes := #[23, 24] }, type := 27, pos := "law.go:19", after := #[{ on := 15, ground := Ground.data }, { on := 16, ground := Ground.data }, { on := 15, ground := Ground.chain }, { on := 14, ground := Ground.guard }], guard := some (14, true) }) rfl (fun K hK => ?_) AllReadyH.nil
      go_simp
      (first
          | (go_at_call 18; ((with_reducible refine (small_any _).mono ?_); rintro e' w3 ⟨rfl, hb⟩; (try have SB := SB.next hb); (try have SZ := SZ.next hb)))
          | (go_at_call 10; ((with_reducible refine (pages_any 8 4 32 0 2 33 2 _ hm8 (by omega) (by omega) (by decide)).mono ?_); rintro e' w3 ⟨rfl, hb⟩))
          | (go_at_call 13; ((with_reducible refine (eneed_any 8 4 32 0 2 [33, 0] 2 4 _ _ _ hm8 rfl (by omega) (by decide) SB (by decide)).mono ?_); rintro e' w3 ⟨rfl, hb⟩))
          | (go_at_call 14; ((with_reducible refine (eidx_nil _).mono ?_); rintro e' w3 ⟨rfl, hb⟩))
          | (go_at_call 8; ((with_reducible refine (cut_any 8 4 32 0 2 zeros33 33 32 2 _ 33 _ hm8 (by simp [zeros33]) (by omega) (by omega) (by unfold maxLen; omega) rfl (by decide) (fun h => by cases h) SZ).mono ?_); rintro e' w3 ⟨A7, c7, vals7, rfl, -, -, -, -, hb⟩)))
      go_wp2_with fail
      refine hK.out _ _ ?_ (fun hNew => ?_)
      · (first | exact (Below.refl _ _).drew | assumption | exact btr hHeld hHeld.size hb)
      clear hK K hHeld
      have hHeld := hNew
      clear hNew
      try simp only [Act.put, List.setIfInBounds_toArray, List.set_cons_zero, List.set_cons_succ]
      refine wpAnyH_take (i := 18) (oi := { dst := some 19, op := Op.call { callee := Callee.builtin Builtin.len, args := #[Operand.tmp 18], argTypes := #[27] }, type := 3, pos := "law.go:19", after := #[{ on := 17, ground := Ground.data }, { on := 14, ground := Ground.guard }], guard := some (14, true) }) (v := ?_) rfl (by kernel_rfl) (by kernel_rfl) (by kernel_rfl) (fun _ _ _ h => h) (Or.inl ⟨by rfl, ?_⟩) (by assumption) ?_
      rotate_left
      · (intro wS hSw; (try dsimp only at hSw); go_simp; (try with_reducible rfl))
      try simp only [Act.put, List.setIfInBounds_toArray, List.set_cons_zero, List.set_cons_succ]
      refine wpAnyH_take (i := 19) (oi := { dst := some 20, op := Op.binOp BinOp.eql 3 (Operand.tmp 19) (Operand.const (Value.int IntKind.i64 2)) 3, type := 4, pos := "law.go:19", after := #[{ on := 18, ground := Ground.data }, { on := 14, ground := Ground.guard }], guard := some (14, true) }) (v := ?_) rfl (by kernel_rfl) (by kernel_rfl) (by kernel_rfl) (fun _ _ _ h => h) (Or.inl ⟨by rfl, ?_⟩) (by assumption) ?_
      rotate_left
      · (intro wS hSw; (try dsimp only at hSw); go_simp; (try with_reducible rfl))
      try simp only [Act.put, List.setIfInBounds_toArray, List.set_cons_zero, List.set_cons_succ]
      refine wpAnyH_take (i := 20) (oi := { dst := some 21, op := Op.pick (Operand.tmp 15) (Operand.tmp 20) (Operand.const (Value.bool false)), type := 4, pos := "law.go:19", after := #[{ on := 14, ground := Ground.data }, { on := 19, ground := Ground.data }], guard := none }) (v := ?_) rfl (by kernel_rfl) (by kernel_rfl) (by kernel_rfl) (fun _ _ _ h => h) (Or.inl ⟨by rfl, ?_⟩) (by assumption) ?_
      rotate_left
      · (intro wS hSw; (try dsimp only at hSw); go_simp; (try with_reducible rfl))
      try simp only [Act.put, List.setIfInBounds_toArray, List.set_cons_zero, List.set_cons_succ]
      refine wpAnyH_take (i := 21) (oi := { dst := some 0, op := Op.assign (Operand.tmp 21), type := 4, pos := "law.go:19", after := #[{ on := 20, ground := Ground.data }, { on := 17, ground := Ground.chain }, { on := 0, ground := Ground.phase }, { on := 1, ground := Ground.phase }, { on := 2, ground := Ground.phase }, { on := 3, ground := Ground.phase }, { on := 4, ground := Ground.phase }, { on := 5, ground := Ground.phase }, { on := 6, ground := Ground.phase }, { on := 7, ground := Ground.phase }, { on := 8, ground := Ground.phase }, { on := 9, ground := Ground.phase }, { on := 10, ground := Ground.phase }, { on := 11, ground := Ground.phase }, { on := 12, ground := Ground.phase }, { on := 13, ground := Ground.phase }, { on := 14, ground := Ground.phase }, { on := 15, ground := Ground.phase }, { on := 16, ground := Ground.phase }, { on := 17, ground := Ground.phase }, { on := 18, ground := Ground.phase }, { on := 19, ground := Ground.phase }, { on := 20, ground := Ground.phase }], guard := none }) (v := ?_) rfl (by kernel_rfl) (by kernel_rfl) (by kernel_rfl) (fun _ _ _ h => h) (Or.inl ⟨by rfl, ?_⟩) (by assumption) ?_
      rotate_left
      · (intro wS hSw; (try dsimp only at hSw); go_simp; (try with_reducible rfl))
      try simp only [Act.put, List.setIfInBounds_toArray, List.set_cons_zero, List.set_cons_succ]
      refine wpAnyH_done (by kernel_rfl) ?_ _
      refine NoPanic.normal ?_
      go_wp2_with fail
      go_ret
      exact ⟨rfl, hHeld⟩
  · refine wanted_then (by rfl) ?_
    refine wp_build2 _ _ rfl 33 0 rfl rfl w.heap.size hHeld.size ?_
    intro w3 u3 ho3 hg3 hu3
    subst hu3
    have hb := below_grown_none hg3
    have SB : Sl w3 w3.heap.size _ (([33, 0] : List Int).map (Value.int .i64)) := Sl.of_own ho3
    refine hK.out _ _ ?_ (fun hNew => ?_)
    · (first | exact (Below.refl _ _).drew | assumption | exact btr hHeld hHeld.size hb)
    clear hK K hHeld
    have hHeld := hNew
    clear hNew
    try simp only [Act.put, List.setIfInBounds_toArray, List.set_cons_zero, List.set_cons_succ]
    refine wpAnyH_ready (rs := [4]) (by kernel_rfl) (by simp) ?_
    refine AllReadyH.cons (o := { dst := some 5, op := Op.call { callee := Callee.value (Operand.func 18), args := #[], argTypes := #[] }, type := 23, pos := "law.go:19", after := #[{ on := 3, ground := Ground.chain }, { on := 3, ground := Ground.guard }], guard := some (3, true) }) rfl (fun K hK => ?_) AllReadyH.nil
    go_simp
    (first
        | (go_at_call 18; ((with_reducible refine (small_any _).mono ?_); rintro e' w3 ⟨rfl, hb⟩; (try have SB := SB.next hb); (try have SZ := SZ.next hb)))
        | (go_at_call 10; ((with_reducible refine (pages_any 8 4 32 0 2 33 2 _ hm8 (by omega) (by omega) (by decide)).mono ?_); rintro e' w3 ⟨rfl, hb⟩))
        | (go_at_call 13; ((with_reducible refine (eneed_any 8 4 32 0 2 [33, 0] 2 4 _ _ _ hm8 rfl (by omega) (by decide) SB (by decide)).mono ?_); rintro e' w3 ⟨rfl, hb⟩))
        | (go_at_call 14; ((with_reducible refine (eidx_nil _).mono ?_); rintro e' w3 ⟨rfl, hb⟩))
        | (go_at_call 8; ((with_reducible refine (cut_any 8 4 32 0 2 zeros33 33 32 2 _ 33 _ hm8 (by simp [zeros33]) (by omega) (by omega) (by unfold maxLen; omega) rfl (by decide) (fun h => by cases h) SZ).mono ?_); rintro e' w3 ⟨A7, c7, vals7, rfl, -, -, -, -, hb⟩)))
    go_wp2_with fail
    refine hK.out _ _ ?_ (fun hNew => ?_)
    · (first | exact (Below.refl _ _).drew | assumption | exact btr hHeld hHeld.size hb)
    clear hK K hHeld
    have hHeld := hNew
    clear hNew
    try simp only [Act.put, List.setIfInBounds_toArray, List.set_cons_zero, List.set_cons_succ]
    refine wpAnyH_ready (rs := [6]) (by kernel_rfl) (by simp) ?_
    refine AllReadyH.cons (o := { dst := some 7, op := Op.call { callee := Callee.value (Operand.func 13), args := #[Operand.tmp 5, Operand.tmp 6], argTypes := #[23, 34] }, type := 3, pos := "law.go:19", after := #[{ on := 4, ground := Ground.data }, { on := 5, ground := Ground.data }, { on := 4, ground := Ground.chain }, { on := 3, ground := Ground.guard }], guard := some (3, true) }) rfl (fun K hK => ?_) AllReadyH.nil
    go_simp
    (first
        | (go_at_call 18; ((with_reducible refine (small_any _).mono ?_); rintro e' w3 ⟨rfl, hb⟩; (try have SB := SB.next hb); (try have SZ := SZ.next hb)))
        | (go_at_call 10; ((with_reducible refine (pages_any 8 4 32 0 2 33 2 _ hm8 (by omega) (by omega) (by decide)).mono ?_); rintro e' w3 ⟨rfl, hb⟩))
        | (go_at_call 13; ((with_reducible refine (eneed_any 8 4 32 0 2 [33, 0] 2 4 _ _ _ hm8 rfl (by omega) (by decide) SB (by decide)).mono ?_); rintro e' w3 ⟨rfl, hb⟩))
        | (go_at_call 14; ((with_reducible refine (eidx_nil _).mono ?_); rintro e' w3 ⟨rfl, hb⟩))
        | (go_at_call 8; ((with_reducible refine (cut_any 8 4 32 0 2 zeros33 33 32 2 _ 33 _ hm8 (by simp [zeros33]) (by omega) (by omega) (by unfold maxLen; omega) rfl (by decide) (fun h => by cases h) SZ).mono ?_); rintro e' w3 ⟨A7, c7, vals7, rfl, -, -, -, -, hb⟩)))
    go_wp2_with fail
    refine hK.out _ _ ?_ (fun hNew => ?_)
    · (first | exact (Below.refl _ _).drew | assumption | exact btr hHeld hHeld.size hb)
    clear hK K hHeld
    have hHeld := hNew
    clear hNew
    try simp only [Act.put, List.setIfInBounds_toArray, List.set_cons_zero, List.set_cons_succ]
    refine wpAnyH_take (i := 7) (oi := { dst := some 8, op := Op.binOp BinOp.eql 3 (Operand.tmp 7) (Operand.const (Value.int IntKind.i64 4)) 3, type := 4, pos := "law.go:19", after := #[{ on := 6, ground := Ground.data }, { on := 3, ground := Ground.guard }], guard := some (3, true) }) (v := ?_) rfl (by kernel_rfl) (by kernel_rfl) (by kernel_rfl) (fun _ _ _ h => h) (Or.inl ⟨by rfl, ?_⟩) (by assumption) ?_
    rotate_left
    · (intro wS hSw; (try dsimp only at hSw); go_simp; (try with_reducible rfl))
    try simp only [Act.put, List.setIfInBounds_toArray, List.set_cons_zero, List.set_cons_succ]
    refine wpAnyH_take (i := 8) (oi := { dst := some 9, op := Op.pick (Operand.tmp 4) (Operand.tmp 8) (Operand.const (Value.bool false)), type := 4, pos := "law.go:19", after := #[{ on := 3, ground := Ground.data }, { on := 7, ground := Ground.data }], guard := none }) (v := ?_) rfl (by kernel_rfl) (by kernel_rfl) (by kernel_rfl) (fun _ _ _ h => h) (Or.inl ⟨by rfl, ?_⟩) (by assumption) ?_
    rotate_left
    · (intro wS hSw; (try dsimp only at hSw); go_simp; (try with_reducible rfl))
    try simp only [Act.put, List.setIfInBounds_toArray, List.set_cons_zero, List.set_cons_succ]
    refine wpAnyH_take (i := 9) (oi := { dst := some 10, op := Op.move (Operand.tmp 9), type := 4, pos := "law.go:19", after := #[{ on := 8, ground := Ground.data }, { on := 6, ground := Ground.chain }], guard := none }) (v := ?_) rfl (by kernel_rfl) (by kernel_rfl) (by kernel_rfl) (fun _ _ _ h => h) (Or.inl ⟨by rfl, ?_⟩) (by assumption) ?_
    rotate_left
    · (intro wS hSw; (try dsimp only at hSw); go_simp; (try with_reducible rfl))
    try simp only [Act.put, List.setIfInBounds_toArray, List.set_cons_zero, List.set_cons_succ]
    refine wpAnyH_ready (rs := [10]) (by kernel_rfl) (by simp) ?_
    refine AllReadyH.cons (o := { dst := some 11, op := Op.call { callee := Callee.value (Operand.func 18), args := #[], argTypes := #[] }, type := 23, pos := "law.go:19", after := #[{ on := 9, ground := Ground.chain }, { on := 9, ground := Ground.guard }], guard := some (9, true) }) rfl (fun K hK => ?_) AllReadyH.nil
    go_simp
    (first
        | (go_at_call 18; ((with_reducible refine (small_any _).mono ?_); rintro e' w3 ⟨rfl, hb⟩; (try have SB := SB.next hb); (try have SZ := SZ.next hb)))
        | (go_at_call 10; ((with_reducible refine (pages_any 8 4 32 0 2 33 2 _ hm8 (by omega) (by omega) (by decide)).mono ?_); rintro e' w3 ⟨rfl, hb⟩))
        | (go_at_call 13; ((with_reducible refine (eneed_any 8 4 32 0 2 [33, 0] 2 4 _ _ _ hm8 rfl (by omega) (by decide) SB (by decide)).mono ?_); rintro e' w3 ⟨rfl, hb⟩))
        | (go_at_call 14; ((with_reducible refine (eidx_nil _).mono ?_); rintro e' w3 ⟨rfl, hb⟩))
        | (go_at_call 8; ((with_reducible refine (cut_any 8 4 32 0 2 zeros33 33 32 2 _ 33 _ hm8 (by simp [zeros33]) (by omega) (by omega) (by unfold maxLen; omega) rfl (by decide) (fun h => by cases h) SZ).mono ?_); rintro e' w3 ⟨A7, c7, vals7, rfl, -, -, -, -, hb⟩)))
    go_wp2_with fail
    refine hK.out _ _ ?_ (fun hNew => ?_)
    · (first | exact (Below.refl _ _).drew | assumption | exact btr hHeld hHeld.size hb)
    clear hK K hHeld
    have hHeld := hNew
    clear hNew
    try simp only [Act.put, List.setIfInBounds_toArray, List.set_cons_zero, List.set_cons_succ]
    refine wpAnyH_ready (rs := [11]) (by kernel_rfl) (by simp) ?_
    refine AllReadyH.cons (o := { dst := some 12, op := Op.call { callee := Callee.value (Operand.func 14), args := #[Operand.tmp 11, Operand.const (Value.slice none 0 0)], argTypes := #[23, 34] }, type := 3, pos := "law.go:19", after := #[{ on := 10, ground := Ground.data }, { on := 10, ground := Ground.chain }, { on := 9, ground := Ground.guard }], guard := some (9, true) }) rfl (fun K hK => ?_) AllReadyH.nil
    go_simp
    (first
        | (go_at_call 18; ((with_reducible refine (small_any _).mono ?_); rintro e' w3 ⟨rfl, hb⟩; (try have SB := SB.next hb); (try have SZ := SZ.next hb)))
        | (go_at_call 10; ((with_reducible refine (pages_any 8 4 32 0 2 33 2 _ hm8 (by omega) (by omega) (by decide)).mono ?_); rintro e' w3 ⟨rfl, hb⟩))
        | (go_at_call 13; ((with_reducible refine (eneed_any 8 4 32 0 2 [33, 0] 2 4 _ _ _ hm8 rfl (by omega) (by decide) SB (by decide)).mono ?_); rintro e' w3 ⟨rfl, hb⟩))
        | (go_at_call 14; ((with_reducible refine (eidx_nil _).mono ?_); rintro e' w3 ⟨rfl, hb⟩))
        | (go_at_call 8; ((with_reducible refine (cut_any 8 4 32 0 2 zeros33 33 32 2 _ 33 _ hm8 (by simp [zeros33]) (by omega) (by omega) (by unfold maxLen; omega) rfl (by decide) (fun h => by cases h) SZ).mono ?_); rintro e' w3 ⟨A7, c7, vals7, rfl, -, -, -, -, hb⟩)))
    go_wp2_with fail
    refine hK.out _ _ ?_ (fun hNew => ?_)
    · (first | exact (Below.refl _ _).drew | assumption | exact btr hHeld hHeld.size hb)
    clear hK K hHeld
    have hHeld := hNew
    clear hNew
    try simp only [Act.put, List.setIfInBounds_toArray, List.set_cons_zero, List.set_cons_succ]
    refine wpAnyH_take (i := 12) (oi := { dst := some 13, op := Op.binOp BinOp.eql 3 (Operand.tmp 12) (Operand.const (Value.int IntKind.i64 1)) 3, type := 4, pos := "law.go:19", after := #[{ on := 11, ground := Ground.data }, { on := 9, ground := Ground.guard }], guard := some (9, true) }) (v := ?_) rfl (by kernel_rfl) (by kernel_rfl) (by kernel_rfl) (fun _ _ _ h => h) (Or.inl ⟨by rfl, ?_⟩) (by assumption) ?_
    rotate_left
    · (intro wS hSw; (try dsimp only at hSw); go_simp; (try with_reducible rfl))
    try simp only [Act.put, List.setIfInBounds_toArray, List.set_cons_zero, List.set_cons_succ]
    refine wpAnyH_take (i := 13) (oi := { dst := some 14, op := Op.pick (Operand.tmp 10) (Operand.tmp 13) (Operand.const (Value.bool false)), type := 4, pos := "law.go:19", after := #[{ on := 9, ground := Ground.data }, { on := 12, ground := Ground.data }], guard := none }) (v := ?_) rfl (by kernel_rfl) (by kernel_rfl) (by kernel_rfl) (fun _ _ _ h => h) (Or.inl ⟨by rfl, ?_⟩) (by assumption) ?_
    rotate_left
    · (intro wS hSw; (try dsimp only at hSw); go_simp; (try with_reducible rfl))
    try simp only [Act.put, List.setIfInBounds_toArray, List.set_cons_zero, List.set_cons_succ]
    refine wpAnyH_take (i := 14) (oi := { dst := some 15, op := Op.move (Operand.tmp 14), type := 4, pos := "law.go:19", after := #[{ on := 13, ground := Ground.data }, { on := 11, ground := Ground.chain }], guard := none }) (v := ?_) rfl (by kernel_rfl) (by kernel_rfl) (by kernel_rfl) (fun _ _ _ h => h) (Or.inl ⟨by rfl, ?_⟩) (by assumption) ?_
    rotate_left
    · (intro wS hSw; (try dsimp only at hSw); go_simp; (try with_reducible rfl))
    try simp only [Act.put, List.setIfInBounds_toArray, List.set_cons_zero, List.set_cons_succ]
    refine wpAnyH_ready (rs := [15, 16]) (by kernel_rfl) (by simp) ?_
    refine (AllReadyH.cons (o := { dst := some 16, op := Op.call { callee := Callee.value (Operand.func 18), args := #[], argTypes := #[] }, type := 23, pos := "law.go:19", after := #[{ on := 14, ground := Ground.chain }, { on := 14, ground := Ground.guard }], guard := some (14, true) }) rfl (fun K hK => ?_) (AllReadyH.cons (o := { dst := some 17, op := Op.makeSlice 24 (Operand.const (Value.int IntKind.i64 33)) (Operand.const (Value.int IntKind.i64 33)), type := 24, pos := "law.go:19", after := #[{ on := 14, ground := Ground.guard }], guard := some (14, true) }) rfl (fun K hK => ?_) AllReadyH.nil))
    · go_simp
      (first
          | (go_at_call 18; ((with_reducible refine (small_any _).mono ?_); rintro e' w3 ⟨rfl, hb⟩; (try have SB := SB.next hb); (try have SZ := SZ.next hb)))
          | (go_at_call 10; ((with_reducible refine (pages_any 8 4 32 0 2 33 2 _ hm8 (by omega) (by omega) (by decide)).mono ?_); rintro e' w3 ⟨rfl, hb⟩))
          | (go_at_call 13; ((with_reducible refine (eneed_any 8 4 32 0 2 [33, 0] 2 4 _ _ _ hm8 rfl (by omega) (by decide) SB (by decide)).mono ?_); rintro e' w3 ⟨rfl, hb⟩))
          | (go_at_call 14; ((with_reducible refine (eidx_nil _).mono ?_); rintro e' w3 ⟨rfl, hb⟩))
          | (go_at_call 8; ((with_reducible refine (cut_any 8 4 32 0 2 zeros33 33 32 2 _ 33 _ hm8 (by simp [zeros33]) (by omega) (by omega) (by unfold maxLen; omega) rfl (by decide) (fun h => by cases h) SZ).mono ?_); rintro e' w3 ⟨A7, c7, vals7, rfl, -, -, -, -, hb⟩)))
      go_wp2_with fail
      refine hK.out _ _ ?_ (fun hNew => ?_)
      · (first | exact (Below.refl _ _).drew | assumption | exact btr hHeld hHeld.size hb)
      clear hK K hHeld
      have hHeld := hNew
      clear hNew
      try simp only [Act.put, List.setIfInBounds_toArray, List.set_cons_zero, List.set_cons_succ]
      refine wpAnyH_ready (rs := [16]) (by kernel_rfl) (by simp) ?_
      refine AllReadyH.cons (o := { dst := some 17, op := Op.makeSlice 24 (Operand.const (Value.int IntKind.i64 33)) (Operand.const (Value.int IntKind.i64 33)), type := 24, pos := "law.go:19", after := #[{ on := 14, ground := Ground.guard }], guard := some (14, true) }) rfl (fun K hK => ?_) AllReadyH.nil
      refine wanted_then (by rfl) ?_
      obtain ⟨ti0, hi, hz0, hz1, hz2⟩ := info_parts infoByte
      refine wp_make _ _ _ _ rfl w.heap.size 5 ti0 (.int .u8 0) 1 Try.underlying24 hi hz0 hz1 .i64 .i64 _ _ 33 rfl rfl rfl rfl (by rw [hz2]; omega) (by unfold maxLen; omega) hHeld.size ?_
      intro w3 ho3 hg3
      have hb := below_grown_none hg3
      rw [show (madeCells (Value.int .u8 0).cells (33 * 1)).toList = zeros33.map byteV from (toList_madeCells_one _ _).trans (by simp [zeros33, byteV])] at ho3
      have SZ := Sl.of_own ho3
      clear hi hz0 hz1 hz2
      refine hK.out _ _ ?_ (fun hNew => ?_)
      · (first | exact (Below.refl _ _).drew | assumption | exact btr hHeld hHeld.size hb)
      clear hK K hHeld
      have hHeld := hNew
      clear hNew
      try simp only [Act.put, List.setIfInBounds_toArray, List.set_cons_zero, List.set_cons_succ]
      refine wpAnyH_ready (rs := [17]) (by kernel_rfl) (by simp) ?_
      refine AllReadyH.cons (o := { dst := some 18, op := Op.call { callee := Callee.value (Operand.func 8), args := #[Operand.tmp 16, Operand.tmp 17], argTypes := #[23, 24] }, type := 27, pos := "law.go:19", after := #[{ on := 15, ground := Ground.data }, { on := 16, ground := Ground.data }, { on := 15, ground := Ground.chain }, { on := 14, ground := Ground.guard }], guard := some (14, true) }) rfl (fun K hK => ?_) AllReadyH.nil
      go_simp
      (first
          | (go_at_call 18; ((with_reducible refine (small_any _).mono ?_); rintro e' w3 ⟨rfl, hb⟩; (try have SB := SB.next hb); (try have SZ := SZ.next hb)))
          | (go_at_call 10; ((with_reducible refine (pages_any 8 4 32 0 2 33 2 _ hm8 (by omega) (by omega) (by decide)).mono ?_); rintro e' w3 ⟨rfl, hb⟩))
          | (go_at_call 13; ((with_reducible refine (eneed_any 8 4 32 0 2 [33, 0] 2 4 _ _ _ hm8 rfl (by omega) (by decide) SB (by decide)).mono ?_); rintro e' w3 ⟨rfl, hb⟩))
          | (go_at_call 14; ((with_reducible refine (eidx_nil _).mono ?_); rintro e' w3 ⟨rfl, hb⟩))
          | (go_at_call 8; ((with_reducible refine (cut_any 8 4 32 0 2 zeros33 33 32 2 _ 33 _ hm8 (by simp [zeros33]) (by omega) (by omega) (by unfold maxLen; omega) rfl (by decide) (fun h => by cases h) SZ).mono ?_); rintro e' w3 ⟨A7, c7, vals7, rfl, -, -, -, -, hb⟩)))
      go_wp2_with fail
      refine hK.out _ _ ?_ (fun hNew => ?_)
      · (first | exact (Below.refl _ _).drew | assumption | exact btr hHeld hHeld.size hb)
      clear hK K hHeld
      have hHeld := hNew
      clear hNew
      try simp only [Act.put, List.setIfInBounds_toArray, List.set_cons_zero, List.set_cons_succ]
      refine wpAnyH_take (i := 18) (oi := { dst := some 19, op := Op.call { callee := Callee.builtin Builtin.len, args := #[Operand.tmp 18], argTypes := #[27] }, type := 3, pos := "law.go:19", after := #[{ on := 17, ground := Ground.data }, { on := 14, ground := Ground.guard }], guard := some (14, true) }) (v := ?_) rfl (by kernel_rfl) (by kernel_rfl) (by kernel_rfl) (fun _ _ _ h => h) (Or.inl ⟨by rfl, ?_⟩) (by assumption) ?_
      rotate_left
      · (intro wS hSw; (try dsimp only at hSw); go_simp; (try with_reducible rfl))
      try simp only [Act.put, List.setIfInBounds_toArray, List.set_cons_zero, List.set_cons_succ]
      refine wpAnyH_take (i := 19) (oi := { dst := some 20, op := Op.binOp BinOp.eql 3 (Operand.tmp 19) (Operand.const (Value.int IntKind.i64 2)) 3, type := 4, pos := "law.go:19", after := #[{ on := 18, ground := Ground.data }, { on := 14, ground := Ground.guard }], guard := some (14, true) }) (v := ?_) rfl (by kernel_rfl) (by kernel_rfl) (by kernel_rfl) (fun _ _ _ h => h) (Or.inl ⟨by rfl, ?_⟩) (by assumption) ?_
      rotate_left
      · (intro wS hSw; (try dsimp only at hSw); go_simp; (try with_reducible rfl))
      try simp only [Act.put, List.setIfInBounds_toArray, List.set_cons_zero, List.set_cons_succ]
      refine wpAnyH_take (i := 20) (oi := { dst := some 21, op := Op.pick (Operand.tmp 15) (Operand.tmp 20) (Operand.const (Value.bool false)), type := 4, pos := "law.go:19", after := #[{ on := 14, ground := Ground.data }, { on := 19, ground := Ground.data }], guard := none }) (v := ?_) rfl (by kernel_rfl) (by kernel_rfl) (by kernel_rfl) (fun _ _ _ h => h) (Or.inl ⟨by rfl, ?_⟩) (by assumption) ?_
      rotate_left
      · (intro wS hSw; (try dsimp only at hSw); go_simp; (try with_reducible rfl))
      try simp only [Act.put, List.setIfInBounds_toArray, List.set_cons_zero, List.set_cons_succ]
      refine wpAnyH_take (i := 21) (oi := { dst := some 0, op := Op.assign (Operand.tmp 21), type := 4, pos := "law.go:19", after := #[{ on := 20, ground := Ground.data }, { on := 17, ground := Ground.chain }, { on := 0, ground := Ground.phase }, { on := 1, ground := Ground.phase }, { on := 2, ground := Ground.phase }, { on := 3, ground := Ground.phase }, { on := 4, ground := Ground.phase }, { on := 5, ground := Ground.phase }, { on := 6, ground := Ground.phase }, { on := 7, ground := Ground.phase }, { on := 8, ground := Ground.phase }, { on := 9, ground := Ground.phase }, { on := 10, ground := Ground.phase }, { on := 11, ground := Ground.phase }, { on := 12, ground := Ground.phase }, { on := 13, ground := Ground.phase }, { on := 14, ground := Ground.phase }, { on := 15, ground := Ground.phase }, { on := 16, ground := Ground.phase }, { on := 17, ground := Ground.phase }, { on := 18, ground := Ground.phase }, { on := 19, ground := Ground.phase }, { on := 20, ground := Ground.phase }], guard := none }) (v := ?_) rfl (by kernel_rfl) (by kernel_rfl) (by kernel_rfl) (fun _ _ _ h => h) (Or.inl ⟨by rfl, ?_⟩) (by assumption) ?_
      rotate_left
      · (intro wS hSw; (try dsimp only at hSw); go_simp; (try with_reducible rfl))
      try simp only [Act.put, List.setIfInBounds_toArray, List.set_cons_zero, List.set_cons_succ]
      refine wpAnyH_done (by kernel_rfl) ?_ _
      refine NoPanic.normal ?_
      go_wp2_with fail
      go_ret
      exact ⟨rfl, hHeld⟩
    · refine wanted_then (by rfl) ?_
      obtain ⟨ti0, hi, hz0, hz1, hz2⟩ := info_parts infoByte
      refine wp_make _ _ _ _ rfl w.heap.size 5 ti0 (.int .u8 0) 1 Try.underlying24 hi hz0 hz1 .i64 .i64 _ _ 33 rfl rfl rfl rfl (by rw [hz2]; omega) (by unfold maxLen; omega) hHeld.size ?_
      intro w3 ho3 hg3
      have hb := below_grown_none hg3
      rw [show (madeCells (Value.int .u8 0).cells (33 * 1)).toList = zeros33.map byteV from (toList_madeCells_one _ _).trans (by simp [zeros33, byteV])] at ho3
      have SZ := Sl.of_own ho3
      clear hi hz0 hz1 hz2
      refine hK.out _ _ ?_ (fun hNew => ?_)
      · (first | exact (Below.refl _ _).drew | assumption | exact btr hHeld hHeld.size hb)
      clear hK K hHeld
      have hHeld := hNew
      clear hNew
      try simp only [Act.put, List.setIfInBounds_toArray, List.set_cons_zero, List.set_cons_succ]
      refine wpAnyH_ready (rs := [15]) (by kernel_rfl) (by simp) ?_
      refine AllReadyH.cons (o := { dst := some 16, op := Op.call { callee := Callee.value (Operand.func 18), args := #[], argTypes := #[] }, type := 23, pos := "law.go:19", after := #[{ on := 14, ground := Ground.chain }, { on := 14, ground := Ground.guard }], guard := some (14, true) }) rfl (fun K hK => ?_) AllReadyH.nil
      go_simp
      (first
          | (go_at_call 18; ((with_reducible refine (small_any _).mono ?_); rintro e' w3 ⟨rfl, hb⟩; (try have SB := SB.next hb); (try have SZ := SZ.next hb)))
          | (go_at_call 10; ((with_reducible refine (pages_any 8 4 32 0 2 33 2 _ hm8 (by omega) (by omega) (by decide)).mono ?_); rintro e' w3 ⟨rfl, hb⟩))
          | (go_at_call 13; ((with_reducible refine (eneed_any 8 4 32 0 2 [33, 0] 2 4 _ _ _ hm8 rfl (by omega) (by decide) SB (by decide)).mono ?_); rintro e' w3 ⟨rfl, hb⟩))
          | (go_at_call 14; ((with_reducible refine (eidx_nil _).mono ?_); rintro e' w3 ⟨rfl, hb⟩))
          | (go_at_call 8; ((with_reducible refine (cut_any 8 4 32 0 2 zeros33 33 32 2 _ 33 _ hm8 (by simp [zeros33]) (by omega) (by omega) (by unfold maxLen; omega) rfl (by decide) (fun h => by cases h) SZ).mono ?_); rintro e' w3 ⟨A7, c7, vals7, rfl, -, -, -, -, hb⟩)))
      go_wp2_with fail
      refine hK.out _ _ ?_ (fun hNew => ?_)
      · (first | exact (Below.refl _ _).drew | assumption | exact btr hHeld hHeld.size hb)
      clear hK K hHeld
      have hHeld := hNew
      clear hNew
      try simp only [Act.put, List.setIfInBounds_toArray, List.set_cons_zero, List.set_cons_succ]
      refine wpAnyH_ready (rs := [17]) (by kernel_rfl) (by simp) ?_
      refine AllReadyH.cons (o := { dst := some 18, op := Op.call { callee := Callee.value (Operand.func 8), args := #[Operand.tmp 16, Operand.tmp 17], argTypes := #[23, 24] }, type := 27, pos := "law.go:19", after := #[{ on := 15, ground := Ground.data }, { on := 16, ground := Ground.data }, { on := 15, ground := Ground.chain }, { on := 14, ground := Ground.guard }], guard := some (14, true) }) rfl (fun K hK => ?_) AllReadyH.nil
      go_simp
      (first
          | (go_at_call 18; ((with_reducible refine (small_any _).mono ?_); rintro e' w3 ⟨rfl, hb⟩; (try have SB := SB.next hb); (try have SZ := SZ.next hb)))
          | (go_at_call 10; ((with_reducible refine (pages_any 8 4 32 0 2 33 2 _ hm8 (by omega) (by omega) (by decide)).mono ?_); rintro e' w3 ⟨rfl, hb⟩))
          | (go_at_call 13; ((with_reducible refine (eneed_any 8 4 32 0 2 [33, 0] 2 4 _ _ _ hm8 rfl (by omega) (by decide) SB (by decide)).mono ?_); rintro e' w3 ⟨rfl, hb⟩))
          | (go_at_call 14; ((with_reducible refine (eidx_nil _).mono ?_); rintro e' w3 ⟨rfl, hb⟩))
          | (go_at_call 8; ((with_reducible refine (cut_any 8 4 32 0 2 zeros33 33 32 2 _ 33 _ hm8 (by simp [zeros33]) (by omega) (by omega) (by unfold maxLen; omega) rfl (by decide) (fun h => by cases h) SZ).mono ?_); rintro e' w3 ⟨A7, c7, vals7, rfl, -, -, -, -, hb⟩)))
      go_wp2_with fail
      refine hK.out _ _ ?_ (fun hNew => ?_)
      · (first | exact (Below.refl _ _).drew | assumption | exact btr hHeld hHeld.size hb)
      clear hK K hHeld
      have hHeld := hNew
      clear hNew
      try simp only [Act.put, List.setIfInBounds_toArray, List.set_cons_zero, List.set_cons_succ]
      refine wpAnyH_take (i := 18) (oi := { dst := some 19, op := Op.call { callee := Callee.builtin Builtin.len, args := #[Operand.tmp 18], argTypes := #[27] }, type := 3, pos := "law.go:19", after := #[{ on := 17, ground := Ground.data }, { on := 14, ground := Ground.guard }], guard := some (14, true) }) (v := ?_) rfl (by kernel_rfl) (by kernel_rfl) (by kernel_rfl) (fun _ _ _ h => h) (Or.inl ⟨by rfl, ?_⟩) (by assumption) ?_
      rotate_left
      · (intro wS hSw; (try dsimp only at hSw); go_simp; (try with_reducible rfl))
      try simp only [Act.put, List.setIfInBounds_toArray, List.set_cons_zero, List.set_cons_succ]
      refine wpAnyH_take (i := 19) (oi := { dst := some 20, op := Op.binOp BinOp.eql 3 (Operand.tmp 19) (Operand.const (Value.int IntKind.i64 2)) 3, type := 4, pos := "law.go:19", after := #[{ on := 18, ground := Ground.data }, { on := 14, ground := Ground.guard }], guard := some (14, true) }) (v := ?_) rfl (by kernel_rfl) (by kernel_rfl) (by kernel_rfl) (fun _ _ _ h => h) (Or.inl ⟨by rfl, ?_⟩) (by assumption) ?_
      rotate_left
      · (intro wS hSw; (try dsimp only at hSw); go_simp; (try with_reducible rfl))
      try simp only [Act.put, List.setIfInBounds_toArray, List.set_cons_zero, List.set_cons_succ]
      refine wpAnyH_take (i := 20) (oi := { dst := some 21, op := Op.pick (Operand.tmp 15) (Operand.tmp 20) (Operand.const (Value.bool false)), type := 4, pos := "law.go:19", after := #[{ on := 14, ground := Ground.data }, { on := 19, ground := Ground.data }], guard := none }) (v := ?_) rfl (by kernel_rfl) (by kernel_rfl) (by kernel_rfl) (fun _ _ _ h => h) (Or.inl ⟨by rfl, ?_⟩) (by assumption) ?_
      rotate_left
      · (intro wS hSw; (try dsimp only at hSw); go_simp; (try with_reducible rfl))
      try simp only [Act.put, List.setIfInBounds_toArray, List.set_cons_zero, List.set_cons_succ]
      refine wpAnyH_take (i := 21) (oi := { dst := some 0, op := Op.assign (Operand.tmp 21), type := 4, pos := "law.go:19", after := #[{ on := 20, ground := Ground.data }, { on := 17, ground := Ground.chain }, { on := 0, ground := Ground.phase }, { on := 1, ground := Ground.phase }, { on := 2, ground := Ground.phase }, { on := 3, ground := Ground.phase }, { on := 4, ground := Ground.phase }, { on := 5, ground := Ground.phase }, { on := 6, ground := Ground.phase }, { on := 7, ground := Ground.phase }, { on := 8, ground := Ground.phase }, { on := 9, ground := Ground.phase }, { on := 10, ground := Ground.phase }, { on := 11, ground := Ground.phase }, { on := 12, ground := Ground.phase }, { on := 13, ground := Ground.phase }, { on := 14, ground := Ground.phase }, { on := 15, ground := Ground.phase }, { on := 16, ground := Ground.phase }, { on := 17, ground := Ground.phase }, { on := 18, ground := Ground.phase }, { on := 19, ground := Ground.phase }, { on := 20, ground := Ground.phase }], guard := none }) (v := ?_) rfl (by kernel_rfl) (by kernel_rfl) (by kernel_rfl) (fun _ _ _ h => h) (Or.inl ⟨by rfl, ?_⟩) (by assumption) ?_
      rotate_left
      · (intro wS hSw; (try dsimp only at hSw); go_simp; (try with_reducible rfl))
      try simp only [Act.put, List.setIfInBounds_toArray, List.set_cons_zero, List.set_cons_succ]
      refine wpAnyH_done (by kernel_rfl) ?_ _
      refine NoPanic.normal ?_
      go_wp2_with fail
      go_ret
      exact ⟨rfl, hHeld⟩
end Go.Proofs.Ytmhookkfhknljaa
