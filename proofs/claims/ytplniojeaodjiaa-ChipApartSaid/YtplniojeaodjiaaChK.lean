/- New of a chip without faults. -/
import Derived.Test.YtplniojeaodjiaaChJ
namespace Go.Proofs.Ytplniojeaodjiaa
open Go.ChangeShapes Go.WideShapes Go.ChangeAt Go.RowKit
set_option linter.unusedSimpArgs false
set_option linter.unusedVariables false

theorem cells5 {w : World} {g : Nat} {t : TypeId} {u0 u1 u2 u3 u4 : Value} (h : Blk w g t #[u0, u1, u2, u3, u4]) : w.cell? ⟨g, 0, none⟩ = some u0 ∧ w.cell? ⟨g, 1, none⟩ = some u1 ∧ w.cell? ⟨g, 2, none⟩ = some u2 ∧ w.cell? ⟨g, 3, none⟩ = some u3 ∧ w.cell? ⟨g, 4, none⟩ = some u4 := ⟨h.cell_ 0, h.cell_ 1, h.cell_ 2, h.cell_ 3, h.cell_ 4⟩
def ChS.new (NX NB : Nat) : ChS := ⟨List.replicate NX 255, List.replicate (3 * NB) 0, 0, 0, true, false, 0, 0, 0, 0⟩
theorem infoBlk : (Try.prog.info? 85).map (fun i => (i.zero, i.size, i.bytes)) = some (some (.agg #[.int .i64 0, .int .i64 0, .int .i64 0]), 3, 24) := by kernel_rfl
theorem fclone_nil (w : World) : Calls Try.prog 35 #[.slice none 0 0] w fun e' w' => e' = .returned (.slice none 0 0) ∧ w = w' := by
  have hnil : (binOp BinOp.eql 24 (.slice none 0 0) (.slice none 0 0)).run Try.prog w = .ok (.bool true) w := by kernel_rfl
  go_enter Try.func35, Try.ntmps35
  go_wp2
  go_ret
  exact ⟨rfl, rfl⟩
theorem build_oneb (z : Int) (w : World) : (Instr.buildSlice 48 1 #[(0, .int .u8 z)]).run Try.prog w = .ok (.slice (some ⟨w.heap.size, 0, none⟩) 1 1) (w.alloc (.cells #[.int .u8 z] 5)) := by kernel_rfl
theorem wp_build1b {w : World} {o : Oper} {a : Act} {K : Act → World → Prop} {Q : Exit → Act → World → Prop} (x : Operand) (hop : o.op = Op.buildSlice 48 1 #[(0, x)])
    (z : Int) (hx : a.eval x = .int .u8 z)
    (hK : ∀ w' b, Blk w' b 5 #[.int .u8 z] → w.heap.size ≤ b → Below w.heap.size w w' → K (a.put o.dst (.slice (some ⟨b, 0, none⟩) 1 1)) w') : Oper.wp Try.prog o a w K Q := by
  have hrun := build_oneb z w
  unfold Oper.wp
  simp [execOp, hop, hx, hrun, Result.andThen]
  exact hK _ _ (Blk.new_ _ _ _) (Nat.le_refl _) ((Below.refl _ _).alloc (Nat.le_refl _) _)
theorem box_chip (a b c d e : Int) (gx NX gb NB : Nat) (w : World) : (Instr.box 71 (.agg #[.int .i64 a, .int .i64 b, .int .i64 c, .int .i64 d, .int .i64 e, .slice none 0 0, .slice (some ⟨gx, 0, none⟩) NX NX, .slice (some ⟨gb, 0, none⟩) NB NB, .int .i64 0, .int .i64 0, .bool true, .bool false, .int .i64 0, .int .i64 0, .int .i64 0, .int .u8 0])).run Try.prog w = .ok (.pointer (some ⟨w.heap.size, 0, none⟩)) (w.alloc (.cells #[.int .i64 a, .int .i64 b, .int .i64 c, .int .i64 d, .int .i64 e, .slice none 0 0, .slice (some ⟨gx, 0, none⟩) NX NX, .slice (some ⟨gb, 0, none⟩) NB NB, .int .i64 0, .int .i64 0, .bool true, .bool false, .int .i64 0, .int .i64 0, .int .i64 0, .int .u8 0] 71)) := by kernel_rfl
theorem wp_boxC {w : World} {o : Oper} {a' : Act} {K : Act → World → Prop} {Q : Exit → Act → World → Prop} (x : Operand) (hop : o.op = Op.box 71 x)
    {a b c d e : Int} {gx NX gb NB : Nat} (hx : a'.eval x = .agg #[.int .i64 a, .int .i64 b, .int .i64 c, .int .i64 d, .int .i64 e, .slice none 0 0, .slice (some ⟨gx, 0, none⟩) NX NX, .slice (some ⟨gb, 0, none⟩) NB NB, .int .i64 0, .int .i64 0, .bool true, .bool false, .int .i64 0, .int .i64 0, .int .i64 0, .int .u8 0])
    (hK : ∀ w' m, Blk w' m 71 #[.int .i64 a, .int .i64 b, .int .i64 c, .int .i64 d, .int .i64 e, .slice none 0 0, .slice (some ⟨gx, 0, none⟩) NX NX, .slice (some ⟨gb, 0, none⟩) NB NB, .int .i64 0, .int .i64 0, .bool true, .bool false, .int .i64 0, .int .i64 0, .int .i64 0, .int .u8 0] → w.heap.size ≤ m → Below w.heap.size w w' → K (a'.put o.dst (.pointer (some ⟨m, 0, none⟩))) w') : Oper.wp Try.prog o a' w K Q := by
  have hrun := box_chip a b c d e gx NX gb NB w
  unfold Oper.wp
  simp [execOp, hop, hx, hrun, Result.andThen]
  exact hK _ _ (Blk.new_ _ _ _) (Nat.le_refl _) ((Below.refl _ _).alloc (Nat.le_refl _) _)
theorem own_rowS {w : World} {base n size : Nat} {t : TypeId} {g : Nat} {xs : List Value} (h : w.ownsRow base t size (.slice (some ⟨g, 0, none⟩) n n) n xs) : RowT w g t xs := by
  obtain ⟨hl, h'⟩ := h
  rcases h' with ⟨h0, _⟩ | ⟨g', cap, cur, hv, hb, hh, hnc, _, hsz, ht⟩
  · cases h0
  · cases hv
    refine ⟨cur.toList.drop (n * size), ?_⟩
    unfold Blk
    rw [← ht, List.take_append_drop]
    exact hh
section
variable {P : Program} (w : World)
theorem wp_make {o : Oper} {a : Act} {K : Act → World → Prop} {Q : Exit → Act → World → Prop} (l c : Operand) (t : TypeId) (hop : o.op = Op.makeSlice t l c)
    (base : Nat) (e : TypeId) (i : TypeInfo) (z : Value) (size : Nat) (h1 : P.underlying t = some (.slice e)) (h2 : P.info? e = some i) (h3 : i.zero = some z) (h4 : i.size = size)
    (kl kc : IntKind) (L C : Int) (n : Nat) (hl : a.eval l = .int kl L) (hc : a.eval c = .int kc C) (hL : L = (n : Int)) (hC : C = (n : Int)) (b2 : i.bytes * n ≤ 281474976710656) (b3 : n ≤ maxLen) (b4 : base ≤ w.heap.size)
    (hK : ∀ w', w'.ownsRow base e size (.slice (some ⟨w.heap.size, 0, none⟩) n n) n (madeCells z.cells (n * size)).toList → w.grownBy w' none → K (a.put o.dst (.slice (some ⟨w.heap.size, 0, none⟩) n n)) w') :
    o.wp P a w K Q := by
  obtain ⟨w', hrun, r1, r2⟩ := run_make_full (P := P) w base t e i z size h1 h2 h3 h4 kl kc n b2 b3 b4
  subst hL
  subst hC
  unfold Oper.wp
  simp [execOp, hop, hl, hc, hrun, Result.andThen]
  exact hK w' r1 r2
end
theorem made_ints (n : Nat) : (madeCells (Value.agg #[.int .i64 0, .int .i64 0, .int .i64 0]).cells (n * 3)).toList = List.replicate (3 * n) (Value.int .i64 0) := by
  have hz : ∀ j, (#[Value.int .i64 0, .int .i64 0, .int .i64 0] : Array Value)[j % 3]! = .int .i64 0 := by
    intro j
    have : j % 3 = 0 ∨ j % 3 = 1 ∨ j % 3 = 2 := by omega
    rcases this with h | h | h <;> rw [h] <;> rfl
  have hc : (Value.agg #[.int .i64 0, .int .i64 0, .int .i64 0]).cells = #[Value.int .i64 0, .int .i64 0, .int .i64 0] := rfl
  rw [hc]
  apply List.ext_getElem?
  intro j
  rw [List.getElem?_replicate]
  by_cases hj : j < n * 3
  · rw [if_pos (by omega)]
    have := hz j
    simp only [madeCells, Array.toList_map, List.getElem?_map, Array.toList_range, List.getElem?_range hj, Option.map_some]
    exact congrArg some this
  · rw [if_neg (by omega), List.getElem?_eq_none]
    simp [madeCells]
    omega
theorem wp_makeK {w : World} {o : Oper} {a' : Act} {K : Act → World → Prop} {Q : Exit → Act → World → Prop} (l c : Operand) (hop : o.op = Op.makeSlice 69 l c)
    (a : Int) (NB : Nat) (hl : a'.eval l = .int .i64 a) (hc : a'.eval c = .int .i64 a) (hNB : (NB : Int) = a) (hb : NB ≤ 1000)
    (hK : ∀ w' g, RowT w' g 85 (List.replicate (3 * NB) (Value.int .i64 0)) → w.heap.size ≤ g → Below w.heap.size w w' → K (a'.put o.dst (.slice (some ⟨g, 0, none⟩) NB NB)) w') : Oper.wp Try.prog o a' w K Q := by
  obtain ⟨ti0, hi, hz0, hz1, hz2⟩ := info_parts infoBlk
  refine wp_make w l c 69 hop w.heap.size 85 ti0 _ 3 Try.underlying69 hi hz0 hz1 .i64 .i64 a a NB hl hc hNB.symm hNB.symm (by rw [hz2]; omega) (by unfold maxLen; omega) (Nat.le_refl _) ?_
  intro w' hown hgrow
  rw [made_ints] at hown
  exact hK w' _ (own_rowS hown) (Nat.le_refl _) ((Below.refl _ _).grown hgrow (Nat.le_refl _) (fun k h => by cases h))
theorem rptB_b (v : Int) (b n : Nat) (w : World) (hB : Blk w b 5 #[.int .u8 v]) (n1 : 1 ≤ n) (n2 : n ≤ 100000) :
    Calls Try.prog 36 #[.slice (some ⟨b, 0, none⟩) 1 1, .int .i64 (n : Int)] w fun e' w' => ∃ g, e' = .returned (.slice (some ⟨g, 0, none⟩) n n) ∧ w.heap.size ≤ g ∧ RowT w' g 5 (List.replicate n (.int .u8 v)) ∧ Below w.heap.size w w' :=
  rptB_any v b n w (hB.cell_ 0) hB.lt n1 n2
theorem planMay_nil (a b c d e : Int) : planMay a b c d e [] = mayB a b c d e := by
  cases h : mayB a b c d e
  · exact planMay_no h
  · rw [planMay_pre h (by simp)]
    rfl
theorem pmay_nil (a b c d e : Int) (w : World) : Calls Try.prog 33 #[.agg #[.int .i64 a, .int .i64 b, .int .i64 c, .int .i64 d, .int .i64 e], .slice none 0 0] w fun e' w' => e' = .returned (.bool (mayB a b c d e)) ∧ Below w.heap.size w w' := by
  have := pMay_any a b c d e [] none 0 w SlF.nil_ (Nat.le_refl _) (by unfold maxLen; omega)
  rw [planMay_nil] at this
  exact this
theorem pmay_nb (a b c d e : Int) (T : Bool) (w : World) (h : Hid (mayB a b c d e = T)) : Calls Try.prog 33 #[.agg #[.int .i64 a, .int .i64 b, .int .i64 c, .int .i64 d, .int .i64 e], .slice none 0 0] w fun e' w' => e' = .returned (.bool T) ∧ Below w.heap.size w w' := by
  have := pmay_nil a b c d e w
  rwa [h.out] at this
theorem new0_no (a b c d e : Int) (w : World) (HM : Hid (mayB a b c d e = false)) : Calls Try.prog 11 #[.agg #[.int .i64 a, .int .i64 b, .int .i64 c, .int .i64 d, .int .i64 e], .slice none 0 0] w fun e' w' => e' = .returned (.pointer none) ∧ Below w.heap.size w w' := by
  have HB0 : Below w.heap.size w (w.alloc (.cells #[.int .i64 a, .int .i64 b, .int .i64 c, .int .i64 d, .int .i64 e] 23)) := (Below.refl _ _).alloc (Nat.le_refl _) _
  go_enter Try.func11, Try.ntmps11
  go_wp2_with (go_at_call 33; ((with_reducible refine (pmay_nb _ _ _ _ _ _ _ HM).mono ?_); rintro e' wN ⟨rfl, hb⟩; replace HB0 := btr HB0 HB0.size hb))
  go_ret
  exact ⟨rfl, HB0⟩
set_option maxRecDepth 100000 in
set_option maxHeartbeats 8000000 in
theorem new0_yes (a b c d e : Int) (NX NB : Nat) (w : World) (HM : Hid (mayB a b c d e = true)) (hNX : (NX : Int) = a * b * (c + 16)) (hNB : (NB : Int) = a) (n1 : 1 ≤ NX) (n2 : NX ≤ 100000) (n3 : NB ≤ 1000) :
    Calls Try.prog 11 #[.agg #[.int .i64 a, .int .i64 b, .int .i64 c, .int .i64 d, .int .i64 e], .slice none 0 0] w fun e' w' => (∃ m gx gb, e' = .returned (.pointer (some ⟨m, 0, none⟩)) ∧ ChipW w' m gx gb none 0 0 a b c d e [] (ChS.new NX NB) ∧ w.heap.size ≤ m ∧ w.heap.size ≤ gx ∧ w.heap.size ≤ gb) ∧ Below w.heap.size w w' := by
  have HP : Hid (planMay a b c d e [] = true) := Lib.hid (by rw [planMay_nil]; exact HM.out)
  obtain ⟨q1, q2, q3, q4, q5, q6, -⟩ := may_bd HM.out
  obtain ⟨M, hM⟩ : ∃ M, a * b = M := ⟨_, rfl⟩
  have hMb : 32 ≤ M ∧ M ≤ 160 := by
    have := mul_bd (x := a) (y := b) (lo := 8) (hi := 20) q1 q2 q3 q4 (by omega) (by omega)
    omega
  have hNX' : M * (c + 16) = (NX : Int) := by rw [← hM]; exact hNX.symm
  have hw1 : IntKind.i64.wrap M = M := wrapS _ (by omega) (by omega)
  have hw2 : IntKind.i64.wrap (NX : Int) = (NX : Int) := wrapS _ (by omega) (by omega)
  have HB0 : Below w.heap.size w (w.alloc (.cells #[.int .i64 a, .int .i64 b, .int .i64 c, .int .i64 d, .int .i64 e] 23)) := (Below.refl _ _).alloc (Nat.le_refl _) _
  have G1 : Blk (w.alloc (.cells #[.int .i64 a, .int .i64 b, .int .i64 c, .int .i64 d, .int .i64 e] 23)) w.heap.size 23 #[.int .i64 a, .int .i64 b, .int .i64 c, .int .i64 d, .int .i64 e] := Blk.new_ _ _ _
  have HY := cells5 G1
  have HLX : Hid (NX = (a * b * (c + 16)).toNat) := Lib.hid (by rw [← hNX]; rfl)
  have HLK : Hid (3 * NB = 3 * a.toNat) := Lib.hid (by omega)
  clear hNX q1 q2 q3 q4 q5 q6 hMb
  go_enter Try.func11, Try.ntmps11
  go_upto_region 3 with (go_at_call 33; ((with_reducible refine (pmay_nb _ _ _ _ _ _ _ HM).mono ?_); rintro e' wN ⟨rfl, hb⟩; replace G1 := G1.below hb G1.lt; replace HB0 := btr HB0 HB0.size hb; clear HY; have HY := cells5 G1))
  refine wp_region_noPanic ?_
  refine wp_region_held_drew (S := (fun w' => w'.cell? ⟨w.heap.size, 0, none⟩ = some (.int .i64 a) ∧ w'.cell? ⟨w.heap.size, 1, none⟩ = some (.int .i64 b) ∧ w'.cell? ⟨w.heap.size, 2, none⟩ = some (.int .i64 c) ∧ w'.cell? ⟨w.heap.size, 3, none⟩ = some (.int .i64 d) ∧ w'.cell? ⟨w.heap.size, 4, none⟩ = some (.int .i64 e))) (by kernel_rfl) ?_ (fun hHeld => ?_)
  · (first | exact HY | assumption)
  refine wpAnyH_take (i := 0) (oi := { dst := some 10, op := Op.fieldAddr 23 (Operand.tmp 2) 0, type := 0, pos := "chip.go:42", after := #[], guard := none }) (v := ?_) rfl (by kernel_rfl) (by kernel_rfl) (by kernel_rfl) (fun _ _ _ h => h) (Or.inl ⟨by rfl, ?_⟩) (by assumption) ?_
  rotate_left
  · (intro wS hSw; (try dsimp only at hSw); go_simp; (try with_reducible rfl))
  try simp only [Act.put, List.setIfInBounds_toArray, List.set_cons_zero, List.set_cons_succ]
  refine wpAnyH_take (i := 1) (oi := { dst := some 11, op := Op.load 3 (Operand.tmp 10), type := 3, pos := "chip.go:42", after := #[{ on := 0, ground := Ground.data }], guard := none }) (v := ?_) rfl (by kernel_rfl) (by kernel_rfl) (by kernel_rfl) (fun _ _ _ h => h) (Or.inl ⟨by rfl, ?_⟩) (by assumption) ?_
  rotate_left
  · (intro wS hSw; (try dsimp only at hSw); go_simp; (try with_reducible rfl))
  try simp only [Act.put, List.setIfInBounds_toArray, List.set_cons_zero, List.set_cons_succ]
  refine wpAnyH_take (i := 2) (oi := { dst := some 12, op := Op.fieldAddr 23 (Operand.tmp 2) 1, type := 0, pos := "chip.go:42", after := #[], guard := none }) (v := ?_) rfl (by kernel_rfl) (by kernel_rfl) (by kernel_rfl) (fun _ _ _ h => h) (Or.inl ⟨by rfl, ?_⟩) (by assumption) ?_
  rotate_left
  · (intro wS hSw; (try dsimp only at hSw); go_simp; (try with_reducible rfl))
  try simp only [Act.put, List.setIfInBounds_toArray, List.set_cons_zero, List.set_cons_succ]
  refine wpAnyH_take (i := 3) (oi := { dst := some 13, op := Op.load 3 (Operand.tmp 12), type := 3, pos := "chip.go:42", after := #[{ on := 2, ground := Ground.data }], guard := none }) (v := ?_) rfl (by kernel_rfl) (by kernel_rfl) (by kernel_rfl) (fun _ _ _ h => h) (Or.inl ⟨by rfl, ?_⟩) (by assumption) ?_
  rotate_left
  · (intro wS hSw; (try dsimp only at hSw); go_simp; (try with_reducible rfl))
  try simp only [Act.put, List.setIfInBounds_toArray, List.set_cons_zero, List.set_cons_succ]
  refine wpAnyH_take (i := 4) (oi := { dst := some 14, op := Op.binOp BinOp.mul 3 (Operand.tmp 11) (Operand.tmp 13) 3, type := 3, pos := "chip.go:42", after := #[{ on := 1, ground := Ground.data }, { on := 3, ground := Ground.data }], guard := none }) (v := ?_) rfl (by kernel_rfl) (by kernel_rfl) (by kernel_rfl) (fun _ _ _ h => h) (Or.inl ⟨by rfl, ?_⟩) (by assumption) ?_
  rotate_left
  · (intro wS hSw; (try dsimp only at hSw); go_simp; (try with_reducible rfl))
  try simp only [Act.put, List.setIfInBounds_toArray, List.set_cons_zero, List.set_cons_succ]
  refine wpAnyH_take (i := 5) (oi := { dst := some 15, op := Op.load 23 (Operand.tmp 2), type := 23, pos := "chip.go:42", after := #[], guard := none }) (v := ?_) rfl (by kernel_rfl) (by kernel_rfl) (by kernel_rfl) (fun _ _ _ h => h) (Or.inl ⟨by rfl, ?_⟩) (by assumption) ?_
  rotate_left
  · (intro wS hSw; (try dsimp only at hSw); go_simp; (try with_reducible rfl))
  try simp only [Act.put, List.setIfInBounds_toArray, List.set_cons_zero, List.set_cons_succ]
  refine wpAnyH_ready (rs := [6]) (by kernel_rfl) (by simp) ?_
  refine AllReadyH.cons (o := { dst := some 16, op := Op.call { callee := Callee.value (Operand.func 34), args := #[Operand.tmp 15], argTypes := #[23] }, type := 3, pos := "chip.go:42", after := #[{ on := 5, ground := Ground.data }], guard := none }) rfl (fun K hK => ?_) AllReadyH.nil
  go_simp
  (go_at_call 34; ((with_reducible refine (raw_b _ _ _ _ _ _ HM).mono ?_); rintro e' wN ⟨rfl, hb⟩; (try have hb := undrew hb); replace G1 := G1.below hb G1.lt; replace HB0 := btr HB0 HB0.size hb; clear HY; have HY := cells5 G1))
  go_wp2_with fail
  refine hK.out _ _ ?_ (fun hNew => ?_)
  · (first | exact HY | assumption)
  clear hK K hHeld
  have hHeld := hNew
  clear hNew
  try simp only [Act.put, List.setIfInBounds_toArray, List.set_cons_zero, List.set_cons_succ]
  refine wpAnyH_take (i := 7) (oi := { dst := some 17, op := Op.binOp BinOp.mul 3 (Operand.tmp 14) (Operand.tmp 16) 3, type := 3, pos := "chip.go:42", after := #[{ on := 4, ground := Ground.data }, { on := 6, ground := Ground.data }], guard := none }) (v := ?_) rfl (by kernel_rfl) (by kernel_rfl) (by kernel_rfl) (fun _ _ _ h => h) (Or.inl ⟨by rfl, ?_⟩) (by assumption) ?_
  rotate_left
  · (intro wS hSw; (try dsimp only at hSw); go_simp; (try with_reducible rfl))
  try simp only [Act.put, List.setIfInBounds_toArray, List.set_cons_zero, List.set_cons_succ]
  refine wpAnyH_take (i := 8) (oi := { dst := some 5, op := Op.assign (Operand.tmp 17), type := 3, pos := "chip.go:42", after := #[{ on := 7, ground := Ground.data }, { on := 6, ground := Ground.chain }, { on := 0, ground := Ground.phase }, { on := 1, ground := Ground.phase }, { on := 2, ground := Ground.phase }, { on := 3, ground := Ground.phase }, { on := 4, ground := Ground.phase }, { on := 5, ground := Ground.phase }, { on := 6, ground := Ground.phase }, { on := 7, ground := Ground.phase }], guard := none }) (v := ?_) rfl (by kernel_rfl) (by kernel_rfl) (by kernel_rfl) (fun _ _ _ h => h) (Or.inl ⟨by rfl, ?_⟩) (by assumption) ?_
  rotate_left
  · (intro wS hSw; (try dsimp only at hSw); go_simp; (try with_reducible rfl))
  try simp only [Act.put, List.setIfInBounds_toArray, List.set_cons_zero, List.set_cons_succ]
  refine wpAnyH_done (by kernel_rfl) ?_ _
  refine NoPanic.normal ?_
  go_upto_region 4 with fail
  replace G1 : Blk wN.drew w.heap.size 23 #[.int .i64 a, .int .i64 b, .int .i64 c, .int .i64 d, .int .i64 e] := G1
  replace HB0 := HB0.drew
  have HS : w.heap.size + 1 ≤ wN.drew.heap.size := G1.lt
  clear HY
  have HY := cells5 G1
  clear hb hNX' hw1 hw2 hM
  refine wp_region_noPanic ?_
  refine wp_region_held_drew (S := (fun w' => w'.cell? ⟨w.heap.size, 0, none⟩ = some (.int .i64 a) ∧ w'.cell? ⟨w.heap.size, 1, none⟩ = some (.int .i64 b) ∧ w'.cell? ⟨w.heap.size, 2, none⟩ = some (.int .i64 c) ∧ w'.cell? ⟨w.heap.size, 3, none⟩ = some (.int .i64 d) ∧ w'.cell? ⟨w.heap.size, 4, none⟩ = some (.int .i64 e))) (by kernel_rfl) ?_ (fun hHeld => ?_)
  · (first | exact HY | assumption)
  refine wpAnyH_take (i := 0) (oi := { dst := some 18, op := Op.load 23 (Operand.tmp 2), type := 23, pos := "chip.go:43", after := #[], guard := none }) (v := ?_) rfl (by kernel_rfl) (by kernel_rfl) (by kernel_rfl) (fun _ _ _ h => h) (Or.inl ⟨by rfl, ?_⟩) (by assumption) ?_
  rotate_left
  · (intro wS hSw; (try dsimp only at hSw); go_simp; (try with_reducible rfl))
  try simp only [Act.put, List.setIfInBounds_toArray, List.set_cons_zero, List.set_cons_succ]
  refine wpAnyH_take (i := 1) (oi := { dst := some 19, op := Op.move (Operand.tmp 1), type := 24, pos := "chip.go:43", after := #[], guard := none }) (v := ?_) rfl (by kernel_rfl) (by kernel_rfl) (by kernel_rfl) (fun _ _ _ h => h) (Or.inl ⟨by rfl, ?_⟩) (by assumption) ?_
  rotate_left
  · (intro wS hSw; (try dsimp only at hSw); go_simp; (try with_reducible rfl))
  try simp only [Act.put, List.setIfInBounds_toArray, List.set_cons_zero, List.set_cons_succ]
  refine wpAnyH_take (i := 4) (oi := { dst := some 22, op := Op.move (Operand.tmp 5), type := 3, pos := "chip.go:43", after := #[], guard := none }) (v := ?_) rfl (by kernel_rfl) (by kernel_rfl) (by kernel_rfl) (fun _ _ _ h => h) (Or.inl ⟨by rfl, ?_⟩) (by assumption) ?_
  rotate_left
  · (intro wS hSw; (try dsimp only at hSw); go_simp; (try with_reducible rfl))
  try simp only [Act.put, List.setIfInBounds_toArray, List.set_cons_zero, List.set_cons_succ]
  refine wpAnyH_take (i := 6) (oi := { dst := some 24, op := Op.fieldAddr 23 (Operand.tmp 2) 0, type := 0, pos := "chip.go:43", after := #[], guard := none }) (v := ?_) rfl (by kernel_rfl) (by kernel_rfl) (by kernel_rfl) (fun _ _ _ h => h) (Or.inl ⟨by rfl, ?_⟩) (by assumption) ?_
  rotate_left
  · (intro wS hSw; (try dsimp only at hSw); go_simp; (try with_reducible rfl))
  try simp only [Act.put, List.setIfInBounds_toArray, List.set_cons_zero, List.set_cons_succ]
  refine wpAnyH_take (i := 7) (oi := { dst := some 25, op := Op.load 3 (Operand.tmp 24), type := 3, pos := "chip.go:43", after := #[{ on := 6, ground := Ground.data }], guard := none }) (v := ?_) rfl (by kernel_rfl) (by kernel_rfl) (by kernel_rfl) (fun _ _ _ h => h) (Or.inl ⟨by rfl, ?_⟩) (by assumption) ?_
  rotate_left
  · (intro wS hSw; (try dsimp only at hSw); go_simp; (try with_reducible rfl))
  try simp only [Act.put, List.setIfInBounds_toArray, List.set_cons_zero, List.set_cons_succ]
  refine wpAnyH_ready (rs := [2, 3, 8]) (by kernel_rfl) (by simp) ?_
  refine (AllReadyH.cons (o := { dst := some 20, op := Op.call { callee := Callee.value (Operand.func 35), args := #[Operand.tmp 19], argTypes := #[24] }, type := 24, pos := "chip.go:45", after := #[{ on := 1, ground := Ground.data }], guard := none }) rfl (fun K hK => ?_) (AllReadyH.cons (o := { dst := some 21, op := Op.buildSlice 48 1 #[(0, Operand.const (Value.int IntKind.u8 255))], type := 48, pos := "chip.go:43", after := #[], guard := none }) rfl (fun K hK => ?_) (AllReadyH.cons (o := { dst := some 26, op := Op.makeSlice 69 (Operand.tmp 25) (Operand.tmp 25), type := 69, pos := "chip.go:43", after := #[{ on := 7, ground := Ground.data }, { on := 7, ground := Ground.data }], guard := none }) rfl (fun K hK => ?_) AllReadyH.nil)))
  · go_simp
    (go_at_call 35; ((with_reducible refine (fclone_nil _).mono ?_); rintro e' wN ⟨rfl, rfl⟩))
    go_wp2_with fail
    refine hK.out _ _ ?_ (fun hNew => ?_)
    · (first | exact HY | assumption)
    clear hK K hHeld
    have hHeld := hNew
    clear hNew
    try simp only [Act.put, List.setIfInBounds_toArray, List.set_cons_zero, List.set_cons_succ]
    refine wpAnyH_ready (rs := [3, 8]) (by kernel_rfl) (by simp) ?_
    refine (AllReadyH.cons (o := { dst := some 21, op := Op.buildSlice 48 1 #[(0, Operand.const (Value.int IntKind.u8 255))], type := 48, pos := "chip.go:43", after := #[], guard := none }) rfl (fun K hK => ?_) (AllReadyH.cons (o := { dst := some 26, op := Op.makeSlice 69 (Operand.tmp 25) (Operand.tmp 25), type := 69, pos := "chip.go:43", after := #[{ on := 7, ground := Ground.data }, { on := 7, ground := Ground.data }], guard := none }) rfl (fun K hK => ?_) AllReadyH.nil))
    · refine wp_build1b _ rfl 255 rfl ?_
      intro wN b3 B3 hq hb
      (try replace RX := RX.below hb)
      (try replace RB := RB.below hb)
      replace G1 := G1.below hb G1.lt
      clear HY
      have HY := cells5 G1
      replace HB0 := btr HB0 HB0.size hb
      replace HS := Nat.le_trans HS hb.size
      refine hK.out _ _ ?_ (fun hNew => ?_)
      · (first | exact HY | assumption)
      clear hK K hHeld
      have hHeld := hNew
      clear hNew
      try simp only [Act.put, List.setIfInBounds_toArray, List.set_cons_zero, List.set_cons_succ]
      refine wpAnyH_ready (rs := [5, 8]) (by kernel_rfl) (by simp) ?_
      refine (AllReadyH.cons (o := { dst := some 23, op := Op.call { callee := Callee.value (Operand.func 36), args := #[Operand.tmp 21, Operand.tmp 22], argTypes := #[48, 3] }, type := 48, pos := "chip.go:46", after := #[{ on := 3, ground := Ground.data }, { on := 4, ground := Ground.data }, { on := 2, ground := Ground.chain }], guard := none }) rfl (fun K hK => ?_) (AllReadyH.cons (o := { dst := some 26, op := Op.makeSlice 69 (Operand.tmp 25) (Operand.tmp 25), type := 69, pos := "chip.go:43", after := #[{ on := 7, ground := Ground.data }, { on := 7, ground := Ground.data }], guard := none }) rfl (fun K hK => ?_) AllReadyH.nil))
      · go_simp
        (go_at_call 36; ((with_reducible refine (rptB_b 255 b3 NX _ B3 n1 n2).mono ?_); rintro e' wN ⟨gx, rfl, hqx, RX, hb⟩))
        go_wp2_with fail
        have hgx := Nat.le_trans HS hqx
        (try have hxb := Nat.ne_of_gt (Nat.lt_of_lt_of_le RB.lt hqx))
        (try replace B3 := B3.below hb B3.lt)
        (try replace RB := RB.below hb)
        replace G1 := G1.below hb G1.lt
        clear HY
        have HY := cells5 G1
        replace HB0 := btr HB0 HB0.size hb
        replace HS := Nat.le_trans HS hb.size
        refine hK.out _ _ ?_ (fun hNew => ?_)
        · (first | exact HY | assumption)
        clear hK K hHeld
        have hHeld := hNew
        clear hNew
        try simp only [Act.put, List.setIfInBounds_toArray, List.set_cons_zero, List.set_cons_succ]
        refine wpAnyH_ready (rs := [8]) (by kernel_rfl) (by simp) ?_
        refine AllReadyH.cons (o := { dst := some 26, op := Op.makeSlice 69 (Operand.tmp 25) (Operand.tmp 25), type := 69, pos := "chip.go:43", after := #[{ on := 7, ground := Ground.data }, { on := 7, ground := Ground.data }], guard := none }) rfl (fun K hK => ?_) AllReadyH.nil
        refine wp_makeK _ _ rfl a NB rfl rfl hNB (by omega) ?_
        intro wN gb RB hqb hb
        have hgb := Nat.le_trans HS hqb
        (try have hxb := Nat.ne_of_lt (Nat.lt_of_lt_of_le RX.lt hqb))
        (try replace B3 := B3.below hb B3.lt)
        (try replace RX := RX.below hb)
        replace G1 := G1.below hb G1.lt
        clear HY
        have HY := cells5 G1
        replace HB0 := btr HB0 HB0.size hb
        replace HS := Nat.le_trans HS hb.size
        refine hK.out _ _ ?_ (fun hNew => ?_)
        · (first | exact HY | assumption)
        clear hK K hHeld
        have hHeld := hNew
        clear hNew
        try simp only [Act.put, List.setIfInBounds_toArray, List.set_cons_zero, List.set_cons_succ]
        refine wpAnyH_take (i := 9) (oi := { dst := some 27, op := Op.build 71 #[(0, Operand.tmp 18), (1, Operand.tmp 20), (2, Operand.tmp 23), (3, Operand.tmp 26), (6, Operand.const (Value.bool true))], type := 71, pos := "chip.go:43", after := #[{ on := 0, ground := Ground.data }, { on := 2, ground := Ground.data }, { on := 5, ground := Ground.data }, { on := 8, ground := Ground.data }], guard := none }) (v := ?_) rfl (by kernel_rfl) (by kernel_rfl) (by kernel_rfl) (fun _ _ _ h => h) (Or.inl ⟨by rfl, ?_⟩) (by assumption) ?_
        rotate_left
        · (intro wS hSw; (try dsimp only at hSw); go_simp; (try with_reducible rfl))
        try simp only [Act.put, List.setIfInBounds_toArray, List.set_cons_zero, List.set_cons_succ]
        refine wpAnyH_ready (rs := [10]) (by kernel_rfl) (by simp) ?_
        refine AllReadyH.cons (o := { dst := some 28, op := Op.box 71 (Operand.tmp 27), type := 27, pos := "chip.go:43", after := #[{ on := 9, ground := Ground.data }], guard := none }) rfl (fun K hK => ?_) AllReadyH.nil
        refine wp_boxC _ rfl rfl ?_
        intro wN m BM hqm hb
        have hm := Nat.le_trans HS hqm
        have h1 : m ≠ gx := Nat.ne_of_gt (Nat.lt_of_lt_of_le RX.lt hqm)
        have h2 : m ≠ gb := Nat.ne_of_gt (Nat.lt_of_lt_of_le RB.lt hqm)
        (try replace B3 := B3.below hb B3.lt)
        (try replace RX := RX.below hb)
        (try replace RB := RB.below hb)
        replace G1 := G1.below hb G1.lt
        clear HY
        have HY := cells5 G1
        replace HB0 := btr HB0 HB0.size hb
        replace HS := Nat.le_trans HS hb.size
        refine hK.out _ _ ?_ (fun hNew => ?_)
        · (first | exact HY | assumption)
        clear hK K hHeld
        have hHeld := hNew
        clear hNew
        try simp only [Act.put, List.setIfInBounds_toArray, List.set_cons_zero, List.set_cons_succ]
        refine wpAnyH_take (i := 11) (oi := { dst := some 4, op := Op.assign (Operand.tmp 28), type := 27, pos := "chip.go:43", after := #[{ on := 10, ground := Ground.data }, { on := 5, ground := Ground.chain }, { on := 0, ground := Ground.phase }, { on := 1, ground := Ground.phase }, { on := 2, ground := Ground.phase }, { on := 3, ground := Ground.phase }, { on := 4, ground := Ground.phase }, { on := 5, ground := Ground.phase }, { on := 6, ground := Ground.phase }, { on := 7, ground := Ground.phase }, { on := 8, ground := Ground.phase }, { on := 9, ground := Ground.phase }, { on := 10, ground := Ground.phase }], guard := none }) (v := ?_) rfl (by kernel_rfl) (by kernel_rfl) (by kernel_rfl) (fun _ _ _ h => h) (Or.inl ⟨by rfl, ?_⟩) (by assumption) ?_
        rotate_left
        · (intro wS hSw; (try dsimp only at hSw); go_simp; (try with_reducible rfl))
        try simp only [Act.put, List.setIfInBounds_toArray, List.set_cons_zero, List.set_cons_succ]
        refine wpAnyH_done (by kernel_rfl) ?_ _
        refine NoPanic.normal ?_
        go_wp2_with fail
        go_ret
        refine ⟨⟨m, gx, gb, rfl, ⟨⟨NX, NB, NX, NB, by simp [ChS.new], hNB, Nat.le_refl _, BM⟩, by simpa [ChS.new, byteV] using RX, by simpa [ChS.new] using RB, Or.inl rfl, h1, h2, hxb, (List.length_replicate ..).trans HLX.out, (List.length_replicate ..).trans HLK.out, rfl, HP.out⟩, by omega, by omega, by omega⟩, HB0⟩
      · refine wp_makeK _ _ rfl a NB rfl rfl hNB (by omega) ?_
        intro wN gb RB hqb hb
        have hgb := Nat.le_trans HS hqb
        (try have hxb := Nat.ne_of_lt (Nat.lt_of_lt_of_le RX.lt hqb))
        (try replace B3 := B3.below hb B3.lt)
        (try replace RX := RX.below hb)
        replace G1 := G1.below hb G1.lt
        clear HY
        have HY := cells5 G1
        replace HB0 := btr HB0 HB0.size hb
        replace HS := Nat.le_trans HS hb.size
        refine hK.out _ _ ?_ (fun hNew => ?_)
        · (first | exact HY | assumption)
        clear hK K hHeld
        have hHeld := hNew
        clear hNew
        try simp only [Act.put, List.setIfInBounds_toArray, List.set_cons_zero, List.set_cons_succ]
        refine wpAnyH_ready (rs := [5]) (by kernel_rfl) (by simp) ?_
        refine AllReadyH.cons (o := { dst := some 23, op := Op.call { callee := Callee.value (Operand.func 36), args := #[Operand.tmp 21, Operand.tmp 22], argTypes := #[48, 3] }, type := 48, pos := "chip.go:46", after := #[{ on := 3, ground := Ground.data }, { on := 4, ground := Ground.data }, { on := 2, ground := Ground.chain }], guard := none }) rfl (fun K hK => ?_) AllReadyH.nil
        go_simp
        (go_at_call 36; ((with_reducible refine (rptB_b 255 b3 NX _ B3 n1 n2).mono ?_); rintro e' wN ⟨gx, rfl, hqx, RX, hb⟩))
        go_wp2_with fail
        have hgx := Nat.le_trans HS hqx
        (try have hxb := Nat.ne_of_gt (Nat.lt_of_lt_of_le RB.lt hqx))
        (try replace B3 := B3.below hb B3.lt)
        (try replace RB := RB.below hb)
        replace G1 := G1.below hb G1.lt
        clear HY
        have HY := cells5 G1
        replace HB0 := btr HB0 HB0.size hb
        replace HS := Nat.le_trans HS hb.size
        refine hK.out _ _ ?_ (fun hNew => ?_)
        · (first | exact HY | assumption)
        clear hK K hHeld
        have hHeld := hNew
        clear hNew
        try simp only [Act.put, List.setIfInBounds_toArray, List.set_cons_zero, List.set_cons_succ]
        refine wpAnyH_take (i := 9) (oi := { dst := some 27, op := Op.build 71 #[(0, Operand.tmp 18), (1, Operand.tmp 20), (2, Operand.tmp 23), (3, Operand.tmp 26), (6, Operand.const (Value.bool true))], type := 71, pos := "chip.go:43", after := #[{ on := 0, ground := Ground.data }, { on := 2, ground := Ground.data }, { on := 5, ground := Ground.data }, { on := 8, ground := Ground.data }], guard := none }) (v := ?_) rfl (by kernel_rfl) (by kernel_rfl) (by kernel_rfl) (fun _ _ _ h => h) (Or.inl ⟨by rfl, ?_⟩) (by assumption) ?_
        rotate_left
        · (intro wS hSw; (try dsimp only at hSw); go_simp; (try with_reducible rfl))
        try simp only [Act.put, List.setIfInBounds_toArray, List.set_cons_zero, List.set_cons_succ]
        refine wpAnyH_ready (rs := [10]) (by kernel_rfl) (by simp) ?_
        refine AllReadyH.cons (o := { dst := some 28, op := Op.box 71 (Operand.tmp 27), type := 27, pos := "chip.go:43", after := #[{ on := 9, ground := Ground.data }], guard := none }) rfl (fun K hK => ?_) AllReadyH.nil
        refine wp_boxC _ rfl rfl ?_
        intro wN m BM hqm hb
        have hm := Nat.le_trans HS hqm
        have h1 : m ≠ gx := Nat.ne_of_gt (Nat.lt_of_lt_of_le RX.lt hqm)
        have h2 : m ≠ gb := Nat.ne_of_gt (Nat.lt_of_lt_of_le RB.lt hqm)
        (try replace B3 := B3.below hb B3.lt)
        (try replace RX := RX.below hb)
        (try replace RB := RB.below hb)
        replace G1 := G1.below hb G1.lt
        clear HY
        have HY := cells5 G1
        replace HB0 := btr HB0 HB0.size hb
        replace HS := Nat.le_trans HS hb.size
        refine hK.out _ _ ?_ (fun hNew => ?_)
        · (first | exact HY | assumption)
        clear hK K hHeld
        have hHeld := hNew
        clear hNew
        try simp only [Act.put, List.setIfInBounds_toArray, List.set_cons_zero, List.set_cons_succ]
        refine wpAnyH_take (i := 11) (oi := { dst := some 4, op := Op.assign (Operand.tmp 28), type := 27, pos := "chip.go:43", after := #[{ on := 10, ground := Ground.data }, { on := 5, ground := Ground.chain }, { on := 0, ground := Ground.phase }, { on := 1, ground := Ground.phase }, { on := 2, ground := Ground.phase }, { on := 3, ground := Ground.phase }, { on := 4, ground := Ground.phase }, { on := 5, ground := Ground.phase }, { on := 6, ground := Ground.phase }, { on := 7, ground := Ground.phase }, { on := 8, ground := Ground.phase }, { on := 9, ground := Ground.phase }, { on := 10, ground := Ground.phase }], guard := none }) (v := ?_) rfl (by kernel_rfl) (by kernel_rfl) (by kernel_rfl) (fun _ _ _ h => h) (Or.inl ⟨by rfl, ?_⟩) (by assumption) ?_
        rotate_left
        · (intro wS hSw; (try dsimp only at hSw); go_simp; (try with_reducible rfl))
        try simp only [Act.put, List.setIfInBounds_toArray, List.set_cons_zero, List.set_cons_succ]
        refine wpAnyH_done (by kernel_rfl) ?_ _
        refine NoPanic.normal ?_
        go_wp2_with fail
        go_ret
        refine ⟨⟨m, gx, gb, rfl, ⟨⟨NX, NB, NX, NB, by simp [ChS.new], hNB, Nat.le_refl _, BM⟩, by simpa [ChS.new, byteV] using RX, by simpa [ChS.new] using RB, Or.inl rfl, h1, h2, hxb, (List.length_replicate ..).trans HLX.out, (List.length_replicate ..).trans HLK.out, rfl, HP.out⟩, by omega, by omega, by omega⟩, HB0⟩
    · refine wp_makeK _ _ rfl a NB rfl rfl hNB (by omega) ?_
      intro wN gb RB hqb hb
      have hgb := Nat.le_trans HS hqb
      (try have hxb := Nat.ne_of_lt (Nat.lt_of_lt_of_le RX.lt hqb))
      (try replace B3 := B3.below hb B3.lt)
      (try replace RX := RX.below hb)
      replace G1 := G1.below hb G1.lt
      clear HY
      have HY := cells5 G1
      replace HB0 := btr HB0 HB0.size hb
      replace HS := Nat.le_trans HS hb.size
      refine hK.out _ _ ?_ (fun hNew => ?_)
      · (first | exact HY | assumption)
      clear hK K hHeld
      have hHeld := hNew
      clear hNew
      try simp only [Act.put, List.setIfInBounds_toArray, List.set_cons_zero, List.set_cons_succ]
      refine wpAnyH_ready (rs := [3]) (by kernel_rfl) (by simp) ?_
      refine AllReadyH.cons (o := { dst := some 21, op := Op.buildSlice 48 1 #[(0, Operand.const (Value.int IntKind.u8 255))], type := 48, pos := "chip.go:43", after := #[], guard := none }) rfl (fun K hK => ?_) AllReadyH.nil
      refine wp_build1b _ rfl 255 rfl ?_
      intro wN b3 B3 hq hb
      (try replace RX := RX.below hb)
      (try replace RB := RB.below hb)
      replace G1 := G1.below hb G1.lt
      clear HY
      have HY := cells5 G1
      replace HB0 := btr HB0 HB0.size hb
      replace HS := Nat.le_trans HS hb.size
      refine hK.out _ _ ?_ (fun hNew => ?_)
      · (first | exact HY | assumption)
      clear hK K hHeld
      have hHeld := hNew
      clear hNew
      try simp only [Act.put, List.setIfInBounds_toArray, List.set_cons_zero, List.set_cons_succ]
      refine wpAnyH_ready (rs := [5]) (by kernel_rfl) (by simp) ?_
      refine AllReadyH.cons (o := { dst := some 23, op := Op.call { callee := Callee.value (Operand.func 36), args := #[Operand.tmp 21, Operand.tmp 22], argTypes := #[48, 3] }, type := 48, pos := "chip.go:46", after := #[{ on := 3, ground := Ground.data }, { on := 4, ground := Ground.data }, { on := 2, ground := Ground.chain }], guard := none }) rfl (fun K hK => ?_) AllReadyH.nil
      go_simp
      (go_at_call 36; ((with_reducible refine (rptB_b 255 b3 NX _ B3 n1 n2).mono ?_); rintro e' wN ⟨gx, rfl, hqx, RX, hb⟩))
      go_wp2_with fail
      have hgx := Nat.le_trans HS hqx
      (try have hxb := Nat.ne_of_gt (Nat.lt_of_lt_of_le RB.lt hqx))
      (try replace B3 := B3.below hb B3.lt)
      (try replace RB := RB.below hb)
      replace G1 := G1.below hb G1.lt
      clear HY
      have HY := cells5 G1
      replace HB0 := btr HB0 HB0.size hb
      replace HS := Nat.le_trans HS hb.size
      refine hK.out _ _ ?_ (fun hNew => ?_)
      · (first | exact HY | assumption)
      clear hK K hHeld
      have hHeld := hNew
      clear hNew
      try simp only [Act.put, List.setIfInBounds_toArray, List.set_cons_zero, List.set_cons_succ]
      refine wpAnyH_take (i := 9) (oi := { dst := some 27, op := Op.build 71 #[(0, Operand.tmp 18), (1, Operand.tmp 20), (2, Operand.tmp 23), (3, Operand.tmp 26), (6, Operand.const (Value.bool true))], type := 71, pos := "chip.go:43", after := #[{ on := 0, ground := Ground.data }, { on := 2, ground := Ground.data }, { on := 5, ground := Ground.data }, { on := 8, ground := Ground.data }], guard := none }) (v := ?_) rfl (by kernel_rfl) (by kernel_rfl) (by kernel_rfl) (fun _ _ _ h => h) (Or.inl ⟨by rfl, ?_⟩) (by assumption) ?_
      rotate_left
      · (intro wS hSw; (try dsimp only at hSw); go_simp; (try with_reducible rfl))
      try simp only [Act.put, List.setIfInBounds_toArray, List.set_cons_zero, List.set_cons_succ]
      refine wpAnyH_ready (rs := [10]) (by kernel_rfl) (by simp) ?_
      refine AllReadyH.cons (o := { dst := some 28, op := Op.box 71 (Operand.tmp 27), type := 27, pos := "chip.go:43", after := #[{ on := 9, ground := Ground.data }], guard := none }) rfl (fun K hK => ?_) AllReadyH.nil
      refine wp_boxC _ rfl rfl ?_
      intro wN m BM hqm hb
      have hm := Nat.le_trans HS hqm
      have h1 : m ≠ gx := Nat.ne_of_gt (Nat.lt_of_lt_of_le RX.lt hqm)
      have h2 : m ≠ gb := Nat.ne_of_gt (Nat.lt_of_lt_of_le RB.lt hqm)
      (try replace B3 := B3.below hb B3.lt)
      (try replace RX := RX.below hb)
      (try replace RB := RB.below hb)
      replace G1 := G1.below hb G1.lt
      clear HY
      have HY := cells5 G1
      replace HB0 := btr HB0 HB0.size hb
      replace HS := Nat.le_trans HS hb.size
      refine hK.out _ _ ?_ (fun hNew => ?_)
      · (first | exact HY | assumption)
      clear hK K hHeld
      have hHeld := hNew
      clear hNew
      try simp only [Act.put, List.setIfInBounds_toArray, List.set_cons_zero, List.set_cons_succ]
      refine wpAnyH_take (i := 11) (oi := { dst := some 4, op := Op.assign (Operand.tmp 28), type := 27, pos := "chip.go:43", after := #[{ on := 10, ground := Ground.data }, { on := 5, ground := Ground.chain }, { on := 0, ground := Ground.phase }, { on := 1, ground := Ground.phase }, { on := 2, ground := Ground.phase }, { on := 3, ground := Ground.phase }, { on := 4, ground := Ground.phase }, { on := 5, ground := Ground.phase }, { on := 6, ground := Ground.phase }, { on := 7, ground := Ground.phase }, { on := 8, ground := Ground.phase }, { on := 9, ground := Ground.phase }, { on := 10, ground := Ground.phase }], guard := none }) (v := ?_) rfl (by kernel_rfl) (by kernel_rfl) (by kernel_rfl) (fun _ _ _ h => h) (Or.inl ⟨by rfl, ?_⟩) (by assumption) ?_
      rotate_left
      · (intro wS hSw; (try dsimp only at hSw); go_simp; (try with_reducible rfl))
      try simp only [Act.put, List.setIfInBounds_toArray, List.set_cons_zero, List.set_cons_succ]
      refine wpAnyH_done (by kernel_rfl) ?_ _
      refine NoPanic.normal ?_
      go_wp2_with fail
      go_ret
      refine ⟨⟨m, gx, gb, rfl, ⟨⟨NX, NB, NX, NB, by simp [ChS.new], hNB, Nat.le_refl _, BM⟩, by simpa [ChS.new, byteV] using RX, by simpa [ChS.new] using RB, Or.inl rfl, h1, h2, hxb, (List.length_replicate ..).trans HLX.out, (List.length_replicate ..).trans HLK.out, rfl, HP.out⟩, by omega, by omega, by omega⟩, HB0⟩
  · refine wp_build1b _ rfl 255 rfl ?_
    intro wN b3 B3 hq hb
    (try replace RX := RX.below hb)
    (try replace RB := RB.below hb)
    replace G1 := G1.below hb G1.lt
    clear HY
    have HY := cells5 G1
    replace HB0 := btr HB0 HB0.size hb
    replace HS := Nat.le_trans HS hb.size
    refine hK.out _ _ ?_ (fun hNew => ?_)
    · (first | exact HY | assumption)
    clear hK K hHeld
    have hHeld := hNew
    clear hNew
    try simp only [Act.put, List.setIfInBounds_toArray, List.set_cons_zero, List.set_cons_succ]
    refine wpAnyH_ready (rs := [2, 8]) (by kernel_rfl) (by simp) ?_
    refine (AllReadyH.cons (o := { dst := some 20, op := Op.call { callee := Callee.value (Operand.func 35), args := #[Operand.tmp 19], argTypes := #[24] }, type := 24, pos := "chip.go:45", after := #[{ on := 1, ground := Ground.data }], guard := none }) rfl (fun K hK => ?_) (AllReadyH.cons (o := { dst := some 26, op := Op.makeSlice 69 (Operand.tmp 25) (Operand.tmp 25), type := 69, pos := "chip.go:43", after := #[{ on := 7, ground := Ground.data }, { on := 7, ground := Ground.data }], guard := none }) rfl (fun K hK => ?_) AllReadyH.nil))
    · go_simp
      (go_at_call 35; ((with_reducible refine (fclone_nil _).mono ?_); rintro e' wN ⟨rfl, rfl⟩))
      go_wp2_with fail
      refine hK.out _ _ ?_ (fun hNew => ?_)
      · (first | exact HY | assumption)
      clear hK K hHeld
      have hHeld := hNew
      clear hNew
      try simp only [Act.put, List.setIfInBounds_toArray, List.set_cons_zero, List.set_cons_succ]
      refine wpAnyH_ready (rs := [5, 8]) (by kernel_rfl) (by simp) ?_
      refine (AllReadyH.cons (o := { dst := some 23, op := Op.call { callee := Callee.value (Operand.func 36), args := #[Operand.tmp 21, Operand.tmp 22], argTypes := #[48, 3] }, type := 48, pos := "chip.go:46", after := #[{ on := 3, ground := Ground.data }, { on := 4, ground := Ground.data }, { on := 2, ground := Ground.chain }], guard := none }) rfl (fun K hK => ?_) (AllReadyH.cons (o := { dst := some 26, op := Op.makeSlice 69 (Operand.tmp 25) (Operand.tmp 25), type := 69, pos := "chip.go:43", after := #[{ on := 7, ground := Ground.data }, { on := 7, ground := Ground.data }], guard := none }) rfl (fun K hK => ?_) AllReadyH.nil))
      · go_simp
        (go_at_call 36; ((with_reducible refine (rptB_b 255 b3 NX _ B3 n1 n2).mono ?_); rintro e' wN ⟨gx, rfl, hqx, RX, hb⟩))
        go_wp2_with fail
        have hgx := Nat.le_trans HS hqx
        (try have hxb := Nat.ne_of_gt (Nat.lt_of_lt_of_le RB.lt hqx))
        (try replace B3 := B3.below hb B3.lt)
        (try replace RB := RB.below hb)
        replace G1 := G1.below hb G1.lt
        clear HY
        have HY := cells5 G1
        replace HB0 := btr HB0 HB0.size hb
        replace HS := Nat.le_trans HS hb.size
        refine hK.out _ _ ?_ (fun hNew => ?_)
        · (first | exact HY | assumption)
        clear hK K hHeld
        have hHeld := hNew
        clear hNew
        try simp only [Act.put, List.setIfInBounds_toArray, List.set_cons_zero, List.set_cons_succ]
        refine wpAnyH_ready (rs := [8]) (by kernel_rfl) (by simp) ?_
        refine AllReadyH.cons (o := { dst := some 26, op := Op.makeSlice 69 (Operand.tmp 25) (Operand.tmp 25), type := 69, pos := "chip.go:43", after := #[{ on := 7, ground := Ground.data }, { on := 7, ground := Ground.data }], guard := none }) rfl (fun K hK => ?_) AllReadyH.nil
        refine wp_makeK _ _ rfl a NB rfl rfl hNB (by omega) ?_
        intro wN gb RB hqb hb
        have hgb := Nat.le_trans HS hqb
        (try have hxb := Nat.ne_of_lt (Nat.lt_of_lt_of_le RX.lt hqb))
        (try replace B3 := B3.below hb B3.lt)
        (try replace RX := RX.below hb)
        replace G1 := G1.below hb G1.lt
        clear HY
        have HY := cells5 G1
        replace HB0 := btr HB0 HB0.size hb
        replace HS := Nat.le_trans HS hb.size
        refine hK.out _ _ ?_ (fun hNew => ?_)
        · (first | exact HY | assumption)
        clear hK K hHeld
        have hHeld := hNew
        clear hNew
        try simp only [Act.put, List.setIfInBounds_toArray, List.set_cons_zero, List.set_cons_succ]
        refine wpAnyH_take (i := 9) (oi := { dst := some 27, op := Op.build 71 #[(0, Operand.tmp 18), (1, Operand.tmp 20), (2, Operand.tmp 23), (3, Operand.tmp 26), (6, Operand.const (Value.bool true))], type := 71, pos := "chip.go:43", after := #[{ on := 0, ground := Ground.data }, { on := 2, ground := Ground.data }, { on := 5, ground := Ground.data }, { on := 8, ground := Ground.data }], guard := none }) (v := ?_) rfl (by kernel_rfl) (by kernel_rfl) (by kernel_rfl) (fun _ _ _ h => h) (Or.inl ⟨by rfl, ?_⟩) (by assumption) ?_
        rotate_left
        · (intro wS hSw; (try dsimp only at hSw); go_simp; (try with_reducible rfl))
        try simp only [Act.put, List.setIfInBounds_toArray, List.set_cons_zero, List.set_cons_succ]
        refine wpAnyH_ready (rs := [10]) (by kernel_rfl) (by simp) ?_
        refine AllReadyH.cons (o := { dst := some 28, op := Op.box 71 (Operand.tmp 27), type := 27, pos := "chip.go:43", after := #[{ on := 9, ground := Ground.data }], guard := none }) rfl (fun K hK => ?_) AllReadyH.nil
        refine wp_boxC _ rfl rfl ?_
        intro wN m BM hqm hb
        have hm := Nat.le_trans HS hqm
        have h1 : m ≠ gx := Nat.ne_of_gt (Nat.lt_of_lt_of_le RX.lt hqm)
        have h2 : m ≠ gb := Nat.ne_of_gt (Nat.lt_of_lt_of_le RB.lt hqm)
        (try replace B3 := B3.below hb B3.lt)
        (try replace RX := RX.below hb)
        (try replace RB := RB.below hb)
        replace G1 := G1.below hb G1.lt
        clear HY
        have HY := cells5 G1
        replace HB0 := btr HB0 HB0.size hb
        replace HS := Nat.le_trans HS hb.size
        refine hK.out _ _ ?_ (fun hNew => ?_)
        · (first | exact HY | assumption)
        clear hK K hHeld
        have hHeld := hNew
        clear hNew
        try simp only [Act.put, List.setIfInBounds_toArray, List.set_cons_zero, List.set_cons_succ]
        refine wpAnyH_take (i := 11) (oi := { dst := some 4, op := Op.assign (Operand.tmp 28), type := 27, pos := "chip.go:43", after := #[{ on := 10, ground := Ground.data }, { on := 5, ground := Ground.chain }, { on := 0, ground := Ground.phase }, { on := 1, ground := Ground.phase }, { on := 2, ground := Ground.phase }, { on := 3, ground := Ground.phase }, { on := 4, ground := Ground.phase }, { on := 5, ground := Ground.phase }, { on := 6, ground := Ground.phase }, { on := 7, ground := Ground.phase }, { on := 8, ground := Ground.phase }, { on := 9, ground := Ground.phase }, { on := 10, ground := Ground.phase }], guard := none }) (v := ?_) rfl (by kernel_rfl) (by kernel_rfl) (by kernel_rfl) (fun _ _ _ h => h) (Or.inl ⟨by rfl, ?_⟩) (by assumption) ?_
        rotate_left
        · (intro wS hSw; (try dsimp only at hSw); go_simp; (try with_reducible rfl))
        try simp only [Act.put, List.setIfInBounds_toArray, List.set_cons_zero, List.set_cons_succ]
        refine wpAnyH_done (by kernel_rfl) ?_ _
        refine NoPanic.normal ?_
        go_wp2_with fail
        go_ret
        refine ⟨⟨m, gx, gb, rfl, ⟨⟨NX, NB, NX, NB, by simp [ChS.new], hNB, Nat.le_refl _, BM⟩, by simpa [ChS.new, byteV] using RX, by simpa [ChS.new] using RB, Or.inl rfl, h1, h2, hxb, (List.length_replicate ..).trans HLX.out, (List.length_replicate ..).trans HLK.out, rfl, HP.out⟩, by omega, by omega, by omega⟩, HB0⟩
      · refine wp_makeK _ _ rfl a NB rfl rfl hNB (by omega) ?_
        intro wN gb RB hqb hb
        have hgb := Nat.le_trans HS hqb
        (try have hxb := Nat.ne_of_lt (Nat.lt_of_lt_of_le RX.lt hqb))
        (try replace B3 := B3.below hb B3.lt)
        (try replace RX := RX.below hb)
        replace G1 := G1.below hb G1.lt
        clear HY
        have HY := cells5 G1
        replace HB0 := btr HB0 HB0.size hb
        replace HS := Nat.le_trans HS hb.size
        refine hK.out _ _ ?_ (fun hNew => ?_)
        · (first | exact HY | assumption)
        clear hK K hHeld
        have hHeld := hNew
        clear hNew
        try simp only [Act.put, List.setIfInBounds_toArray, List.set_cons_zero, List.set_cons_succ]
        refine wpAnyH_ready (rs := [5]) (by kernel_rfl) (by simp) ?_
        refine AllReadyH.cons (o := { dst := some 23, op := Op.call { callee := Callee.value (Operand.func 36), args := #[Operand.tmp 21, Operand.tmp 22], argTypes := #[48, 3] }, type := 48, pos := "chip.go:46", after := #[{ on := 3, ground := Ground.data }, { on := 4, ground := Ground.data }, { on := 2, ground := Ground.chain }], guard := none }) rfl (fun K hK => ?_) AllReadyH.nil
        go_simp
        (go_at_call 36; ((with_reducible refine (rptB_b 255 b3 NX _ B3 n1 n2).mono ?_); rintro e' wN ⟨gx, rfl, hqx, RX, hb⟩))
        go_wp2_with fail
        have hgx := Nat.le_trans HS hqx
        (try have hxb := Nat.ne_of_gt (Nat.lt_of_lt_of_le RB.lt hqx))
        (try replace B3 := B3.below hb B3.lt)
        (try replace RB := RB.below hb)
        replace G1 := G1.below hb G1.lt
        clear HY
        have HY := cells5 G1
        replace HB0 := btr HB0 HB0.size hb
        replace HS := Nat.le_trans HS hb.size
        refine hK.out _ _ ?_ (fun hNew => ?_)
        · (first | exact HY | assumption)
        clear hK K hHeld
        have hHeld := hNew
        clear hNew
        try simp only [Act.put, List.setIfInBounds_toArray, List.set_cons_zero, List.set_cons_succ]
        refine wpAnyH_take (i := 9) (oi := { dst := some 27, op := Op.build 71 #[(0, Operand.tmp 18), (1, Operand.tmp 20), (2, Operand.tmp 23), (3, Operand.tmp 26), (6, Operand.const (Value.bool true))], type := 71, pos := "chip.go:43", after := #[{ on := 0, ground := Ground.data }, { on := 2, ground := Ground.data }, { on := 5, ground := Ground.data }, { on := 8, ground := Ground.data }], guard := none }) (v := ?_) rfl (by kernel_rfl) (by kernel_rfl) (by kernel_rfl) (fun _ _ _ h => h) (Or.inl ⟨by rfl, ?_⟩) (by assumption) ?_
        rotate_left
        · (intro wS hSw; (try dsimp only at hSw); go_simp; (try with_reducible rfl))
        try simp only [Act.put, List.setIfInBounds_toArray, List.set_cons_zero, List.set_cons_succ]
        refine wpAnyH_ready (rs := [10]) (by kernel_rfl) (by simp) ?_
        refine AllReadyH.cons (o := { dst := some 28, op := Op.box 71 (Operand.tmp 27), type := 27, pos := "chip.go:43", after := #[{ on := 9, ground := Ground.data }], guard := none }) rfl (fun K hK => ?_) AllReadyH.nil
        refine wp_boxC _ rfl rfl ?_
        intro wN m BM hqm hb
        have hm := Nat.le_trans HS hqm
        have h1 : m ≠ gx := Nat.ne_of_gt (Nat.lt_of_lt_of_le RX.lt hqm)
        have h2 : m ≠ gb := Nat.ne_of_gt (Nat.lt_of_lt_of_le RB.lt hqm)
        (try replace B3 := B3.below hb B3.lt)
        (try replace RX := RX.below hb)
        (try replace RB := RB.below hb)
        replace G1 := G1.below hb G1.lt
        clear HY
        have HY := cells5 G1
        replace HB0 := btr HB0 HB0.size hb
        replace HS := Nat.le_trans HS hb.size
        refine hK.out _ _ ?_ (fun hNew => ?_)
        · (first | exact HY | assumption)
        clear hK K hHeld
        have hHeld := hNew
        clear hNew
        try simp only [Act.put, List.setIfInBounds_toArray, List.set_cons_zero, List.set_cons_succ]
        refine wpAnyH_take (i := 11) (oi := { dst := some 4, op := Op.assign (Operand.tmp 28), type := 27, pos := "chip.go:43", after := #[{ on := 10, ground := Ground.data }, { on := 5, ground := Ground.chain }, { on := 0, ground := Ground.phase }, { on := 1, ground := Ground.phase }, { on := 2, ground := Ground.phase }, { on := 3, ground := Ground.phase }, { on := 4, ground := Ground.phase }, { on := 5, ground := Ground.phase }, { on := 6, ground := Ground.phase }, { on := 7, ground := Ground.phase }, { on := 8, ground := Ground.phase }, { on := 9, ground := Ground.phase }, { on := 10, ground := Ground.phase }], guard := none }) (v := ?_) rfl (by kernel_rfl) (by kernel_rfl) (by kernel_rfl) (fun _ _ _ h => h) (Or.inl ⟨by rfl, ?_⟩) (by assumption) ?_
        rotate_left
        · (intro wS hSw; (try dsimp only at hSw); go_simp; (try with_reducible rfl))
        try simp only [Act.put, List.setIfInBounds_toArray, List.set_cons_zero, List.set_cons_succ]
        refine wpAnyH_done (by kernel_rfl) ?_ _
        refine NoPanic.normal ?_
        go_wp2_with fail
        go_ret
        refine ⟨⟨m, gx, gb, rfl, ⟨⟨NX, NB, NX, NB, by simp [ChS.new], hNB, Nat.le_refl _, BM⟩, by simpa [ChS.new, byteV] using RX, by simpa [ChS.new] using RB, Or.inl rfl, h1, h2, hxb, (List.length_replicate ..).trans HLX.out, (List.length_replicate ..).trans HLK.out, rfl, HP.out⟩, by omega, by omega, by omega⟩, HB0⟩
    · refine wp_makeK _ _ rfl a NB rfl rfl hNB (by omega) ?_
      intro wN gb RB hqb hb
      have hgb := Nat.le_trans HS hqb
      (try have hxb := Nat.ne_of_lt (Nat.lt_of_lt_of_le RX.lt hqb))
      (try replace B3 := B3.below hb B3.lt)
      (try replace RX := RX.below hb)
      replace G1 := G1.below hb G1.lt
      clear HY
      have HY := cells5 G1
      replace HB0 := btr HB0 HB0.size hb
      replace HS := Nat.le_trans HS hb.size
      refine hK.out _ _ ?_ (fun hNew => ?_)
      · (first | exact HY | assumption)
      clear hK K hHeld
      have hHeld := hNew
      clear hNew
      try simp only [Act.put, List.setIfInBounds_toArray, List.set_cons_zero, List.set_cons_succ]
      refine wpAnyH_ready (rs := [2]) (by kernel_rfl) (by simp) ?_
      refine AllReadyH.cons (o := { dst := some 20, op := Op.call { callee := Callee.value (Operand.func 35), args := #[Operand.tmp 19], argTypes := #[24] }, type := 24, pos := "chip.go:45", after := #[{ on := 1, ground := Ground.data }], guard := none }) rfl (fun K hK => ?_) AllReadyH.nil
      go_simp
      (go_at_call 35; ((with_reducible refine (fclone_nil _).mono ?_); rintro e' wN ⟨rfl, rfl⟩))
      go_wp2_with fail
      refine hK.out _ _ ?_ (fun hNew => ?_)
      · (first | exact HY | assumption)
      clear hK K hHeld
      have hHeld := hNew
      clear hNew
      try simp only [Act.put, List.setIfInBounds_toArray, List.set_cons_zero, List.set_cons_succ]
      refine wpAnyH_ready (rs := [5]) (by kernel_rfl) (by simp) ?_
      refine AllReadyH.cons (o := { dst := some 23, op := Op.call { callee := Callee.value (Operand.func 36), args := #[Operand.tmp 21, Operand.tmp 22], argTypes := #[48, 3] }, type := 48, pos := "chip.go:46", after := #[{ on := 3, ground := Ground.data }, { on := 4, ground := Ground.data }, { on := 2, ground := Ground.chain }], guard := none }) rfl (fun K hK => ?_) AllReadyH.nil
      go_simp
      (go_at_call 36; ((with_reducible refine (rptB_b 255 b3 NX _ B3 n1 n2).mono ?_); rintro e' wN ⟨gx, rfl, hqx, RX, hb⟩))
      go_wp2_with fail
      have hgx := Nat.le_trans HS hqx
      (try have hxb := Nat.ne_of_gt (Nat.lt_of_lt_of_le RB.lt hqx))
      (try replace B3 := B3.below hb B3.lt)
      (try replace RB := RB.below hb)
      replace G1 := G1.below hb G1.lt
      clear HY
      have HY := cells5 G1
      replace HB0 := btr HB0 HB0.size hb
      replace HS := Nat.le_trans HS hb.size
      refine hK.out _ _ ?_ (fun hNew => ?_)
      · (first | exact HY | assumption)
      clear hK K hHeld
      have hHeld := hNew
      clear hNew
      try simp only [Act.put, List.setIfInBounds_toArray, List.set_cons_zero, List.set_cons_succ]
      refine wpAnyH_take (i := 9) (oi := { dst := some 27, op := Op.build 71 #[(0, Operand.tmp 18), (1, Operand.tmp 20), (2, Operand.tmp 23), (3, Operand.tmp 26), (6, Operand.const (Value.bool true))], type := 71, pos := "chip.go:43", after := #[{ on := 0, ground := Ground.data }, { on := 2, ground := Ground.data }, { on := 5, ground := Ground.data }, { on := 8, ground := Ground.data }], guard := none }) (v := ?_) rfl (by kernel_rfl) (by kernel_rfl) (by kernel_rfl) (fun _ _ _ h => h) (Or.inl ⟨by rfl, ?_⟩) (by assumption) ?_
      rotate_left
      · (intro wS hSw; (try dsimp only at hSw); go_simp; (try with_reducible rfl))
      try simp only [Act.put, List.setIfInBounds_toArray, List.set_cons_zero, List.set_cons_succ]
      refine wpAnyH_ready (rs := [10]) (by kernel_rfl) (by simp) ?_
      refine AllReadyH.cons (o := { dst := some 28, op := Op.box 71 (Operand.tmp 27), type := 27, pos := "chip.go:43", after := #[{ on := 9, ground := Ground.data }], guard := none }) rfl (fun K hK => ?_) AllReadyH.nil
      refine wp_boxC _ rfl rfl ?_
      intro wN m BM hqm hb
      have hm := Nat.le_trans HS hqm
      have h1 : m ≠ gx := Nat.ne_of_gt (Nat.lt_of_lt_of_le RX.lt hqm)
      have h2 : m ≠ gb := Nat.ne_of_gt (Nat.lt_of_lt_of_le RB.lt hqm)
      (try replace B3 := B3.below hb B3.lt)
      (try replace RX := RX.below hb)
      (try replace RB := RB.below hb)
      replace G1 := G1.below hb G1.lt
      clear HY
      have HY := cells5 G1
      replace HB0 := btr HB0 HB0.size hb
      replace HS := Nat.le_trans HS hb.size
      refine hK.out _ _ ?_ (fun hNew => ?_)
      · (first | exact HY | assumption)
      clear hK K hHeld
      have hHeld := hNew
      clear hNew
      try simp only [Act.put, List.setIfInBounds_toArray, List.set_cons_zero, List.set_cons_succ]
      refine wpAnyH_take (i := 11) (oi := { dst := some 4, op := Op.assign (Operand.tmp 28), type := 27, pos := "chip.go:43", after := #[{ on := 10, ground := Ground.data }, { on := 5, ground := Ground.chain }, { on := 0, ground := Ground.phase }, { on := 1, ground := Ground.phase }, { on := 2, ground := Ground.phase }, { on := 3, ground := Ground.phase }, { on := 4, ground := Ground.phase }, { on := 5, ground := Ground.phase }, { on := 6, ground := Ground.phase }, { on := 7, ground := Ground.phase }, { on := 8, ground := Ground.phase }, { on := 9, ground := Ground.phase }, { on := 10, ground := Ground.phase }], guard := none }) (v := ?_) rfl (by kernel_rfl) (by kernel_rfl) (by kernel_rfl) (fun _ _ _ h => h) (Or.inl ⟨by rfl, ?_⟩) (by assumption) ?_
      rotate_left
      · (intro wS hSw; (try dsimp only at hSw); go_simp; (try with_reducible rfl))
      try simp only [Act.put, List.setIfInBounds_toArray, List.set_cons_zero, List.set_cons_succ]
      refine wpAnyH_done (by kernel_rfl) ?_ _
      refine NoPanic.normal ?_
      go_wp2_with fail
      go_ret
      refine ⟨⟨m, gx, gb, rfl, ⟨⟨NX, NB, NX, NB, by simp [ChS.new], hNB, Nat.le_refl _, BM⟩, by simpa [ChS.new, byteV] using RX, by simpa [ChS.new] using RB, Or.inl rfl, h1, h2, hxb, (List.length_replicate ..).trans HLX.out, (List.length_replicate ..).trans HLK.out, rfl, HP.out⟩, by omega, by omega, by omega⟩, HB0⟩
  · refine wp_makeK _ _ rfl a NB rfl rfl hNB (by omega) ?_
    intro wN gb RB hqb hb
    have hgb := Nat.le_trans HS hqb
    (try have hxb := Nat.ne_of_lt (Nat.lt_of_lt_of_le RX.lt hqb))
    (try replace B3 := B3.below hb B3.lt)
    (try replace RX := RX.below hb)
    replace G1 := G1.below hb G1.lt
    clear HY
    have HY := cells5 G1
    replace HB0 := btr HB0 HB0.size hb
    replace HS := Nat.le_trans HS hb.size
    refine hK.out _ _ ?_ (fun hNew => ?_)
    · (first | exact HY | assumption)
    clear hK K hHeld
    have hHeld := hNew
    clear hNew
    try simp only [Act.put, List.setIfInBounds_toArray, List.set_cons_zero, List.set_cons_succ]
    refine wpAnyH_ready (rs := [2, 3]) (by kernel_rfl) (by simp) ?_
    refine (AllReadyH.cons (o := { dst := some 20, op := Op.call { callee := Callee.value (Operand.func 35), args := #[Operand.tmp 19], argTypes := #[24] }, type := 24, pos := "chip.go:45", after := #[{ on := 1, ground := Ground.data }], guard := none }) rfl (fun K hK => ?_) (AllReadyH.cons (o := { dst := some 21, op := Op.buildSlice 48 1 #[(0, Operand.const (Value.int IntKind.u8 255))], type := 48, pos := "chip.go:43", after := #[], guard := none }) rfl (fun K hK => ?_) AllReadyH.nil))
    · go_simp
      (go_at_call 35; ((with_reducible refine (fclone_nil _).mono ?_); rintro e' wN ⟨rfl, rfl⟩))
      go_wp2_with fail
      refine hK.out _ _ ?_ (fun hNew => ?_)
      · (first | exact HY | assumption)
      clear hK K hHeld
      have hHeld := hNew
      clear hNew
      try simp only [Act.put, List.setIfInBounds_toArray, List.set_cons_zero, List.set_cons_succ]
      refine wpAnyH_ready (rs := [3]) (by kernel_rfl) (by simp) ?_
      refine AllReadyH.cons (o := { dst := some 21, op := Op.buildSlice 48 1 #[(0, Operand.const (Value.int IntKind.u8 255))], type := 48, pos := "chip.go:43", after := #[], guard := none }) rfl (fun K hK => ?_) AllReadyH.nil
      refine wp_build1b _ rfl 255 rfl ?_
      intro wN b3 B3 hq hb
      (try replace RX := RX.below hb)
      (try replace RB := RB.below hb)
      replace G1 := G1.below hb G1.lt
      clear HY
      have HY := cells5 G1
      replace HB0 := btr HB0 HB0.size hb
      replace HS := Nat.le_trans HS hb.size
      refine hK.out _ _ ?_ (fun hNew => ?_)
      · (first | exact HY | assumption)
      clear hK K hHeld
      have hHeld := hNew
      clear hNew
      try simp only [Act.put, List.setIfInBounds_toArray, List.set_cons_zero, List.set_cons_succ]
      refine wpAnyH_ready (rs := [5]) (by kernel_rfl) (by simp) ?_
      refine AllReadyH.cons (o := { dst := some 23, op := Op.call { callee := Callee.value (Operand.func 36), args := #[Operand.tmp 21, Operand.tmp 22], argTypes := #[48, 3] }, type := 48, pos := "chip.go:46", after := #[{ on := 3, ground := Ground.data }, { on := 4, ground := Ground.data }, { on := 2, ground := Ground.chain }], guard := none }) rfl (fun K hK => ?_) AllReadyH.nil
      go_simp
      (go_at_call 36; ((with_reducible refine (rptB_b 255 b3 NX _ B3 n1 n2).mono ?_); rintro e' wN ⟨gx, rfl, hqx, RX, hb⟩))
      go_wp2_with fail
      have hgx := Nat.le_trans HS hqx
      (try have hxb := Nat.ne_of_gt (Nat.lt_of_lt_of_le RB.lt hqx))
      (try replace B3 := B3.below hb B3.lt)
      (try replace RB := RB.below hb)
      replace G1 := G1.below hb G1.lt
      clear HY
      have HY := cells5 G1
      replace HB0 := btr HB0 HB0.size hb
      replace HS := Nat.le_trans HS hb.size
      refine hK.out _ _ ?_ (fun hNew => ?_)
      · (first | exact HY | assumption)
      clear hK K hHeld
      have hHeld := hNew
      clear hNew
      try simp only [Act.put, List.setIfInBounds_toArray, List.set_cons_zero, List.set_cons_succ]
      refine wpAnyH_take (i := 9) (oi := { dst := some 27, op := Op.build 71 #[(0, Operand.tmp 18), (1, Operand.tmp 20), (2, Operand.tmp 23), (3, Operand.tmp 26), (6, Operand.const (Value.bool true))], type := 71, pos := "chip.go:43", after := #[{ on := 0, ground := Ground.data }, { on := 2, ground := Ground.data }, { on := 5, ground := Ground.data }, { on := 8, ground := Ground.data }], guard := none }) (v := ?_) rfl (by kernel_rfl) (by kernel_rfl) (by kernel_rfl) (fun _ _ _ h => h) (Or.inl ⟨by rfl, ?_⟩) (by assumption) ?_
      rotate_left
      · (intro wS hSw; (try dsimp only at hSw); go_simp; (try with_reducible rfl))
      try simp only [Act.put, List.setIfInBounds_toArray, List.set_cons_zero, List.set_cons_succ]
      refine wpAnyH_ready (rs := [10]) (by kernel_rfl) (by simp) ?_
      refine AllReadyH.cons (o := { dst := some 28, op := Op.box 71 (Operand.tmp 27), type := 27, pos := "chip.go:43", after := #[{ on := 9, ground := Ground.data }], guard := none }) rfl (fun K hK => ?_) AllReadyH.nil
      refine wp_boxC _ rfl rfl ?_
      intro wN m BM hqm hb
      have hm := Nat.le_trans HS hqm
      have h1 : m ≠ gx := Nat.ne_of_gt (Nat.lt_of_lt_of_le RX.lt hqm)
      have h2 : m ≠ gb := Nat.ne_of_gt (Nat.lt_of_lt_of_le RB.lt hqm)
      (try replace B3 := B3.below hb B3.lt)
      (try replace RX := RX.below hb)
      (try replace RB := RB.below hb)
      replace G1 := G1.below hb G1.lt
      clear HY
      have HY := cells5 G1
      replace HB0 := btr HB0 HB0.size hb
      replace HS := Nat.le_trans HS hb.size
      refine hK.out _ _ ?_ (fun hNew => ?_)
      · (first | exact HY | assumption)
      clear hK K hHeld
      have hHeld := hNew
      clear hNew
      try simp only [Act.put, List.setIfInBounds_toArray, List.set_cons_zero, List.set_cons_succ]
      refine wpAnyH_take (i := 11) (oi := { dst := some 4, op := Op.assign (Operand.tmp 28), type := 27, pos := "chip.go:43", after := #[{ on := 10, ground := Ground.data }, { on := 5, ground := Ground.chain }, { on := 0, ground := Ground.phase }, { on := 1, ground := Ground.phase }, { on := 2, ground := Ground.phase }, { on := 3, ground := Ground.phase }, { on := 4, ground := Ground.phase }, { on := 5, ground := Ground.phase }, { on := 6, ground := Ground.phase }, { on := 7, ground := Ground.phase }, { on := 8, ground := Ground.phase }, { on := 9, ground := Ground.phase }, { on := 10, ground := Ground.phase }], guard := none }) (v := ?_) rfl (by kernel_rfl) (by kernel_rfl) (by kernel_rfl) (fun _ _ _ h => h) (Or.inl ⟨by rfl, ?_⟩) (by assumption) ?_
      rotate_left
      · (intro wS hSw; (try dsimp only at hSw); go_simp; (try with_reducible rfl))
      try simp only [Act.put, List.setIfInBounds_toArray, List.set_cons_zero, List.set_cons_succ]
      refine wpAnyH_done (by kernel_rfl) ?_ _
      refine NoPanic.normal ?_
      go_wp2_with fail
      go_ret
      refine ⟨⟨m, gx, gb, rfl, ⟨⟨NX, NB, NX, NB, by simp [ChS.new], hNB, Nat.le_refl _, BM⟩, by simpa [ChS.new, byteV] using RX, by simpa [ChS.new] using RB, Or.inl rfl, h1, h2, hxb, (List.length_replicate ..).trans HLX.out, (List.length_replicate ..).trans HLK.out, rfl, HP.out⟩, by omega, by omega, by omega⟩, HB0⟩
    · refine wp_build1b _ rfl 255 rfl ?_
      intro wN b3 B3 hq hb
      (try replace RX := RX.below hb)
      (try replace RB := RB.below hb)
      replace G1 := G1.below hb G1.lt
      clear HY
      have HY := cells5 G1
      replace HB0 := btr HB0 HB0.size hb
      replace HS := Nat.le_trans HS hb.size
      refine hK.out _ _ ?_ (fun hNew => ?_)
      · (first | exact HY | assumption)
      clear hK K hHeld
      have hHeld := hNew
      clear hNew
      try simp only [Act.put, List.setIfInBounds_toArray, List.set_cons_zero, List.set_cons_succ]
      refine wpAnyH_ready (rs := [2]) (by kernel_rfl) (by simp) ?_
      refine AllReadyH.cons (o := { dst := some 20, op := Op.call { callee := Callee.value (Operand.func 35), args := #[Operand.tmp 19], argTypes := #[24] }, type := 24, pos := "chip.go:45", after := #[{ on := 1, ground := Ground.data }], guard := none }) rfl (fun K hK => ?_) AllReadyH.nil
      go_simp
      (go_at_call 35; ((with_reducible refine (fclone_nil _).mono ?_); rintro e' wN ⟨rfl, rfl⟩))
      go_wp2_with fail
      refine hK.out _ _ ?_ (fun hNew => ?_)
      · (first | exact HY | assumption)
      clear hK K hHeld
      have hHeld := hNew
      clear hNew
      try simp only [Act.put, List.setIfInBounds_toArray, List.set_cons_zero, List.set_cons_succ]
      refine wpAnyH_ready (rs := [5]) (by kernel_rfl) (by simp) ?_
      refine AllReadyH.cons (o := { dst := some 23, op := Op.call { callee := Callee.value (Operand.func 36), args := #[Operand.tmp 21, Operand.tmp 22], argTypes := #[48, 3] }, type := 48, pos := "chip.go:46", after := #[{ on := 3, ground := Ground.data }, { on := 4, ground := Ground.data }, { on := 2, ground := Ground.chain }], guard := none }) rfl (fun K hK => ?_) AllReadyH.nil
      go_simp
      (go_at_call 36; ((with_reducible refine (rptB_b 255 b3 NX _ B3 n1 n2).mono ?_); rintro e' wN ⟨gx, rfl, hqx, RX, hb⟩))
      go_wp2_with fail
      have hgx := Nat.le_trans HS hqx
      (try have hxb := Nat.ne_of_gt (Nat.lt_of_lt_of_le RB.lt hqx))
      (try replace B3 := B3.below hb B3.lt)
      (try replace RB := RB.below hb)
      replace G1 := G1.below hb G1.lt
      clear HY
      have HY := cells5 G1
      replace HB0 := btr HB0 HB0.size hb
      replace HS := Nat.le_trans HS hb.size
      refine hK.out _ _ ?_ (fun hNew => ?_)
      · (first | exact HY | assumption)
      clear hK K hHeld
      have hHeld := hNew
      clear hNew
      try simp only [Act.put, List.setIfInBounds_toArray, List.set_cons_zero, List.set_cons_succ]
      refine wpAnyH_take (i := 9) (oi := { dst := some 27, op := Op.build 71 #[(0, Operand.tmp 18), (1, Operand.tmp 20), (2, Operand.tmp 23), (3, Operand.tmp 26), (6, Operand.const (Value.bool true))], type := 71, pos := "chip.go:43", after := #[{ on := 0, ground := Ground.data }, { on := 2, ground := Ground.data }, { on := 5, ground := Ground.data }, { on := 8, ground := Ground.data }], guard := none }) (v := ?_) rfl (by kernel_rfl) (by kernel_rfl) (by kernel_rfl) (fun _ _ _ h => h) (Or.inl ⟨by rfl, ?_⟩) (by assumption) ?_
      rotate_left
      · (intro wS hSw; (try dsimp only at hSw); go_simp; (try with_reducible rfl))
      try simp only [Act.put, List.setIfInBounds_toArray, List.set_cons_zero, List.set_cons_succ]
      refine wpAnyH_ready (rs := [10]) (by kernel_rfl) (by simp) ?_
      refine AllReadyH.cons (o := { dst := some 28, op := Op.box 71 (Operand.tmp 27), type := 27, pos := "chip.go:43", after := #[{ on := 9, ground := Ground.data }], guard := none }) rfl (fun K hK => ?_) AllReadyH.nil
      refine wp_boxC _ rfl rfl ?_
      intro wN m BM hqm hb
      have hm := Nat.le_trans HS hqm
      have h1 : m ≠ gx := Nat.ne_of_gt (Nat.lt_of_lt_of_le RX.lt hqm)
      have h2 : m ≠ gb := Nat.ne_of_gt (Nat.lt_of_lt_of_le RB.lt hqm)
      (try replace B3 := B3.below hb B3.lt)
      (try replace RX := RX.below hb)
      (try replace RB := RB.below hb)
      replace G1 := G1.below hb G1.lt
      clear HY
      have HY := cells5 G1
      replace HB0 := btr HB0 HB0.size hb
      replace HS := Nat.le_trans HS hb.size
      refine hK.out _ _ ?_ (fun hNew => ?_)
      · (first | exact HY | assumption)
      clear hK K hHeld
      have hHeld := hNew
      clear hNew
      try simp only [Act.put, List.setIfInBounds_toArray, List.set_cons_zero, List.set_cons_succ]
      refine wpAnyH_take (i := 11) (oi := { dst := some 4, op := Op.assign (Operand.tmp 28), type := 27, pos := "chip.go:43", after := #[{ on := 10, ground := Ground.data }, { on := 5, ground := Ground.chain }, { on := 0, ground := Ground.phase }, { on := 1, ground := Ground.phase }, { on := 2, ground := Ground.phase }, { on := 3, ground := Ground.phase }, { on := 4, ground := Ground.phase }, { on := 5, ground := Ground.phase }, { on := 6, ground := Ground.phase }, { on := 7, ground := Ground.phase }, { on := 8, ground := Ground.phase }, { on := 9, ground := Ground.phase }, { on := 10, ground := Ground.phase }], guard := none }) (v := ?_) rfl (by kernel_rfl) (by kernel_rfl) (by kernel_rfl) (fun _ _ _ h => h) (Or.inl ⟨by rfl, ?_⟩) (by assumption) ?_
      rotate_left
      · (intro wS hSw; (try dsimp only at hSw); go_simp; (try with_reducible rfl))
      try simp only [Act.put, List.setIfInBounds_toArray, List.set_cons_zero, List.set_cons_succ]
      refine wpAnyH_done (by kernel_rfl) ?_ _
      refine NoPanic.normal ?_
      go_wp2_with fail
      go_ret
      refine ⟨⟨m, gx, gb, rfl, ⟨⟨NX, NB, NX, NB, by simp [ChS.new], hNB, Nat.le_refl _, BM⟩, by simpa [ChS.new, byteV] using RX, by simpa [ChS.new] using RB, Or.inl rfl, h1, h2, hxb, (List.length_replicate ..).trans HLX.out, (List.length_replicate ..).trans HLK.out, rfl, HP.out⟩, by omega, by omega, by omega⟩, HB0⟩
end Go.Proofs.Ytplniojeaodjiaa
