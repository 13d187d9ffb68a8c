/- awake of stage 13. -/
import Derived.Test.YtfefjjebjjfkdaaMapF
namespace Go.Proofs.Ytfefjjebjjfkdaa
open Go.ChangeShapes Go.WideShapes Go.ChangeAt Go.RowKit
set_option linter.unusedSimpArgs false
set_option linter.unusedVariables false

def A80 : List Int := List.replicate 8 (-1)
def A81 : List Int := [-1, -1, -1, 6, -1, -1, -1, -1]
theorem cells2 {w : World} {g : Nat} {t : TypeId} {u v : Value} (h : Blk w g t #[u, v]) : w.cell? ⟨g, 0, none⟩ = some u ∧ w.cell? ⟨g, 1, none⟩ = some v := ⟨h.cell_ 0, h.cell_ 1⟩
theorem put_b (m g1 g2 : Nat) (a b c d e : Int) (L N : Nat) (A W : List Int) (p x y : Int) (A2 : List Int) (w : World) (B : Bool) (hM : MapW w m g1 g2 a b c d e L N A W) (HM : Hid (mayB a b c d e = true)) (hL : L ≤ 1000) (hN : N ≤ 1000) (hab : (N : Int) = a * b) (hB : putB a b A p x y = B) (hA : putL a b A p x y = A2) :
    Calls Try.prog 11 #[.pointer (some ⟨m, 0, none⟩), .int .i64 p, .agg #[.int .i64 x, .int .i64 y]] w fun e' w' => e' = .returned (.bool B) ∧ (∃ W', MapW w' m g1 g2 a b c d e L N A2 W') ∧ Touch g1 g2 w w' := by
  have := put_any m g1 g2 a b c d e L N A W p x y w hM HM hL hN hab
  rwa [hB, hA] at this
theorem at_b (m g1 g2 : Nat) (a b c d e : Int) (L N : Nat) (A W : List Int) (p : Int) (T : Value) (w : World) (hM : MapW w m g1 g2 a b c d e L N A W) (HM : Hid (mayB a b c d e = true)) (hL : L ≤ 1000) (hN : N ≤ 1000) (hT : atT b A p = T) :
    Calls Try.prog 14 #[.pointer (some ⟨m, 0, none⟩), .int .i64 p] w fun e' w' => e' = .returned T ∧ Below w.heap.size w w' := by
  have := at_any m g1 g2 a b c d e L N A W p w hM HM hL hN
  rwa [hT] at this
theorem who_bb (m g1 g2 : Nat) (a b c d e : Int) (L N : Nat) (A W : List Int) (x y z : Int) (B : Bool) (w : World) (hM : MapW w m g1 g2 a b c d e L N A W) (HM : Hid (mayB a b c d e = true)) (hN : N ≤ 1000) (hab : (N : Int) = a * b) (hz : whoR a b A x y = z) (hB : whoB a b A x y = B) :
    Calls Try.prog 16 #[.pointer (some ⟨m, 0, none⟩), .agg #[.int .i64 x, .int .i64 y]] w fun e' w' => e' = .returned (.tuple #[.int .i64 z, .bool B]) ∧ Below w.heap.size w w' := by
  have := who_any m g1 g2 a b c d e L N A W x y w hM HM hN hab
  rwa [hz, hB] at this
theorem live_b (m g1 g2 : Nat) (a b c d e : Int) (L N : Nat) (A W : List Int) (x : Int) (k : Nat) (w : World) (hM : MapW w m g1 g2 a b c d e L N A W) (HM : Hid (mayB a b c d e = true)) (hN : N ≤ 1000) (hab : (N : Int) = a * b) (hk : liveF a b A x b.toNat = k) :
    Calls Try.prog 19 #[.pointer (some ⟨m, 0, none⟩), .int .i64 x] w fun e' w' => e' = .returned (.int .i64 (k : Int)) ∧ Below w.heap.size w w' := by
  have := live_any m g1 g2 a b c d e L N A W x w hM HM hN hab
  rwa [hk] at this
theorem pages_b (m g1 g2 : Nat) (a b c d e : Int) (L N : Nat) (A W : List Int) (ps : List Int) (k : Nat) (w : World) (hM : MapW w m g1 g2 a b c d e L N A W) (hL : L ≤ 1000) (hp : pagesF A L = ps) (hk : ps.length = k) :
    Calls Try.prog 18 #[.pointer (some ⟨m, 0, none⟩)] w fun e' w' => ∃ A' c', e' = .returned (.slice A' k c') ∧ Sl w' w'.heap.size A' (ps.map (Value.int .i64)) ∧ Below w.heap.size w w' := by
  refine (pages_any m g1 g2 a b c d e L N A W w hM hL).mono ?_
  rintro e' w' ⟨⟨v, rfl, ho⟩, hb⟩
  rw [hp, hk] at ho
  obtain ⟨A', c', rfl, -, -, -, hS⟩ := own_sliceV ho
  exact ⟨A', c', rfl, hS, hb⟩
theorem aw_at : atT 4 A81 3 = .tuple #[.agg #[.int .i64 1, .int .i64 2], .bool true] := rfl
theorem aw_n : ((32 : Nat) : Int) = 8 * 4 := by decide
theorem aw_w1 : whoR 8 4 A81 1 2 = 3 := by decide
theorem aw_w2 : whoB 8 4 A81 1 2 = true := by decide
theorem aw_l : liveF 8 4 A81 1 (4 : Int).toNat = 1 := by decide
theorem aw_p : pagesF A81 8 = [3] := by decide
theorem aw_0 : mayB 0 0 0 0 0 = false := by decide
theorem hm8 : Hid (mayB 8 4 32 0 2 = true) := Lib.hid (by decide)
set_option maxHeartbeats 4000000 in
theorem awake_any (w : World) : Calls Try.prog 6 #[] w fun e w' => e = .returned (.bool true) ∧ Below w.heap.size w w' := by
  go_enter Try.func6, Try.ntmps6
  go_upto_region 5 with (first
    | (go_at_call 24; ((with_reducible refine (small_any _).mono ?_); rintro e' wN ⟨rfl, hb0⟩; skip))
    | (go_at_call 7; ((with_reducible refine (new_yes 8 4 32 0 2 8 32 _ hm8 (Lib.hid (by decide)) (by decide) (by omega) (by omega) (by omega) (by omega)).mono ?_); rintro e' wN ⟨⟨m, g1, g2, rfl, hM, hm, hq1, hq2⟩, hb⟩; have HB0 := btr hb0 hb0.size hb; have hba : Below wN.heap.size wN (wN.alloc (.cells #[.int .i64 1, .int .i64 2] 31)) := (Below.refl _ _).alloc (Nat.le_refl _) _; have hl := hM.lt; have HB0 := btr HB0 HB0.size hba; have hM := hM.below hba; have PB : Blk (wN.alloc (.cells #[.int .i64 1, .int .i64 2] 31)) wN.heap.size 31 #[.int .i64 1, .int .i64 2] := Blk.new_ _ _ _)))
  have hq1 := Nat.le_trans hb0.size hq1
  have hq2 := Nat.le_trans hb0.size hq2
  obtain ⟨p, hp⟩ : ∃ p, wN.heap.size = p := ⟨_, rfl⟩
  obtain ⟨w5, hw5⟩ : ∃ W : World, W = wN.alloc (.cells #[.int .i64 1, .int .i64 2] 31) := ⟨_, rfl⟩
  rw [← hw5] at HB0 hM PB ⊢
  rw [hp] at PB hl ⊢
  clear hba hw5 hp
  have hp1 : p ≠ g1 := by omega
  have hp2 : p ≠ g2 := by omega
  obtain ⟨z0, z1⟩ := cells2 PB
  have HB0 := HB0.drew
  have hM : MapW w5.drew m g1 g2 8 4 32 0 2 8 32 A80 (List.replicate 32 (-1)) := hM.like rfl
  have PB : Blk w5.drew p 31 #[.int .i64 1, .int .i64 2] := PB
  refine wp_region_noPanic ?_
  refine wp_region_held_drew (S := (fun w' => w'.cell? ⟨p, 0, none⟩ = some (.int .i64 1) ∧ w'.cell? ⟨p, 1, none⟩ = some (.int .i64 2))) (by kernel_rfl) ?_ (fun hHeld => ?_)
  · (first | exact ⟨z0, z1⟩ | assumption)
  refine wpAnyH_take (i := 0) (oi := { dst := some 14, op := Op.move (Operand.tmp 1), type := 26, pos := "law.go:36", after := #[], guard := none }) (v := ?_) rfl (by kernel_rfl) (by kernel_rfl) (by kernel_rfl) (fun _ _ _ h => h) (Or.inl ⟨by rfl, ?_⟩) (by assumption) ?_
  rotate_left
  · (intro wS hSw; (try dsimp only at hSw); go_simp; (try with_reducible rfl))
  try simp only [Act.put, List.setIfInBounds_toArray, List.set_cons_zero, List.set_cons_succ]
  refine wpAnyH_take (i := 1) (oi := { dst := some 15, op := Op.load 31 (Operand.tmp 2), type := 31, pos := "law.go:36", after := #[], guard := none }) (v := ?_) rfl (by kernel_rfl) (by kernel_rfl) (by kernel_rfl) (fun _ _ _ h => h) (Or.inl ⟨by rfl, ?_⟩) (by assumption) ?_
  rotate_left
  · (intro wS hSw; (try dsimp only at hSw); go_simp; (try with_reducible rfl))
  try simp only [Act.put, List.setIfInBounds_toArray, List.set_cons_zero, List.set_cons_succ]
  refine wpAnyH_take (i := 3) (oi := { dst := some 17, op := Op.move (Operand.tmp 1), type := 26, pos := "law.go:36", after := #[], guard := none }) (v := ?_) rfl (by kernel_rfl) (by kernel_rfl) (by kernel_rfl) (fun _ _ _ h => h) (Or.inl ⟨by rfl, ?_⟩) (by assumption) ?_
  rotate_left
  · (intro wS hSw; (try dsimp only at hSw); go_simp; (try with_reducible rfl))
  try simp only [Act.put, List.setIfInBounds_toArray, List.set_cons_zero, List.set_cons_succ]
  refine wpAnyH_take (i := 4) (oi := { dst := some 18, op := Op.load 31 (Operand.tmp 2), type := 31, pos := "law.go:36", after := #[], guard := none }) (v := ?_) rfl (by kernel_rfl) (by kernel_rfl) (by kernel_rfl) (fun _ _ _ h => h) (Or.inl ⟨by rfl, ?_⟩) (by assumption) ?_
  rotate_left
  · (intro wS hSw; (try dsimp only at hSw); go_simp; (try with_reducible rfl))
  try simp only [Act.put, List.setIfInBounds_toArray, List.set_cons_zero, List.set_cons_succ]
  refine wpAnyH_ready (rs := [2]) (by kernel_rfl) (by simp) ?_
  refine AllReadyH.cons (o := { dst := some 16, op := Op.call { callee := Callee.value (Operand.func 11), args := #[Operand.tmp 14, Operand.const (Value.int IntKind.i64 3), Operand.tmp 15], argTypes := #[26, 3, 31] }, type := 4, pos := "law.go:36", after := #[{ on := 0, ground := Ground.data }, { on := 1, ground := Ground.data }], guard := none }) rfl (fun K hK => ?_) AllReadyH.nil
  go_simp
  (first
      | (go_at_call 11; ((with_reducible refine (put_b _ _ _ _ _ _ _ _ _ _ _ _ 3 1 2 A81 _ true hM hm8 (by omega) (by omega) (by decide) (by decide) (by decide)).mono ?_); rintro e' wN ⟨rfl, ⟨W2, hM2⟩, hT⟩; have hl := hM.lt; have HB0 := HB0.trans (hT.bel w.heap.size hq1 hq2 HB0.size); have PB : Blk wN p 31 #[.int .i64 1, .int .i64 2] := (hT.far p PB.lt hp1 hp2).trans PB; clear hM; have hM := hM2; clear hM2; have hs := hT.size; clear hT hl z0 z1; have z0 := PB.cell_ 0; have z1 := PB.cell_ 1; simp at z0 z1))
      | (go_at_call 11; ((with_reducible refine (put_b _ _ _ _ _ _ _ _ _ _ _ _ 4 1 2 A81 _ false hM hm8 (by omega) (by omega) (by decide) (by decide) (by decide)).mono ?_); rintro e' wN ⟨rfl, ⟨W2, hM2⟩, hT⟩; have hl := hM.lt; have HB0 := HB0.trans (hT.bel w.heap.size hq1 hq2 HB0.size); have PB : Blk wN p 31 #[.int .i64 1, .int .i64 2] := (hT.far p PB.lt hp1 hp2).trans PB; clear hM; have hM := hM2; clear hM2; have hs := hT.size; clear hT hl z0 z1; have z0 := PB.cell_ 0; have z1 := PB.cell_ 1; simp at z0 z1)))
  go_wp2_with fail
  refine hK.out _ _ ?_ (fun hNew => ?_)
  · (first | exact ⟨z0, z1⟩ | assumption)
  clear hK K hHeld
  have hHeld := hNew
  clear hNew
  try simp only [Act.put, List.setIfInBounds_toArray, List.set_cons_zero, List.set_cons_succ]
  refine wpAnyH_ready (rs := [5]) (by kernel_rfl) (by simp) ?_
  refine AllReadyH.cons (o := { dst := some 19, op := Op.call { callee := Callee.value (Operand.func 11), args := #[Operand.tmp 17, Operand.const (Value.int IntKind.i64 4), Operand.tmp 18], argTypes := #[26, 3, 31] }, type := 4, pos := "law.go:36", after := #[{ on := 3, ground := Ground.data }, { on := 4, ground := Ground.data }, { on := 2, ground := Ground.chain }], guard := none }) rfl (fun K hK => ?_) AllReadyH.nil
  go_simp
  (first
      | (go_at_call 11; ((with_reducible refine (put_b _ _ _ _ _ _ _ _ _ _ _ _ 3 1 2 A81 _ true hM hm8 (by omega) (by omega) (by decide) (by decide) (by decide)).mono ?_); rintro e' wN ⟨rfl, ⟨W2, hM2⟩, hT⟩; have hl := hM.lt; have HB0 := HB0.trans (hT.bel w.heap.size hq1 hq2 HB0.size); have PB : Blk wN p 31 #[.int .i64 1, .int .i64 2] := (hT.far p PB.lt hp1 hp2).trans PB; clear hM; have hM := hM2; clear hM2; have hs := hT.size; clear hT hl z0 z1; have z0 := PB.cell_ 0; have z1 := PB.cell_ 1; simp at z0 z1))
      | (go_at_call 11; ((with_reducible refine (put_b _ _ _ _ _ _ _ _ _ _ _ _ 4 1 2 A81 _ false hM hm8 (by omega) (by omega) (by decide) (by decide) (by decide)).mono ?_); rintro e' wN ⟨rfl, ⟨W2, hM2⟩, hT⟩; have hl := hM.lt; have HB0 := HB0.trans (hT.bel w.heap.size hq1 hq2 HB0.size); have PB : Blk wN p 31 #[.int .i64 1, .int .i64 2] := (hT.far p PB.lt hp1 hp2).trans PB; clear hM; have hM := hM2; clear hM2; have hs := hT.size; clear hT hl z0 z1; have z0 := PB.cell_ 0; have z1 := PB.cell_ 1; simp at z0 z1)))
  go_wp2_with fail
  refine hK.out _ _ ?_ (fun hNew => ?_)
  · (first | exact ⟨z0, z1⟩ | assumption)
  clear hK K hHeld
  have hHeld := hNew
  clear hNew
  try simp only [Act.put, List.setIfInBounds_toArray, List.set_cons_zero, List.set_cons_succ]
  refine wpAnyH_take (i := 6) (oi := { dst := some 3, op := Op.assign (Operand.tmp 16), type := 4, pos := "law.go:36", after := #[{ on := 2, ground := Ground.data }, { on := 5, ground := Ground.chain }, { on := 0, ground := Ground.phase }, { on := 1, ground := Ground.phase }, { on := 2, ground := Ground.phase }, { on := 3, ground := Ground.textOnly Departure.lateStores }, { on := 4, ground := Ground.textOnly Departure.lateStores }, { on := 5, ground := Ground.textOnly Departure.lateStoresUnsure }], guard := none }) (v := ?_) rfl (by kernel_rfl) (by kernel_rfl) (by kernel_rfl) (fun _ _ _ h => h) (Or.inl ⟨by rfl, ?_⟩) (by assumption) ?_
  rotate_left
  · (intro wS hSw; (try dsimp only at hSw); go_simp; (try with_reducible rfl))
  try simp only [Act.put, List.setIfInBounds_toArray, List.set_cons_zero, List.set_cons_succ]
  refine wpAnyH_take (i := 7) (oi := { dst := some 4, op := Op.assign (Operand.tmp 19), type := 4, pos := "law.go:36", after := #[{ on := 5, ground := Ground.data }, { on := 6, ground := Ground.chain }, { on := 0, ground := Ground.phase }, { on := 1, ground := Ground.phase }, { on := 2, ground := Ground.phase }, { on := 3, ground := Ground.phase }, { on := 4, ground := Ground.phase }, { on := 5, ground := Ground.phase }, { on := 6, ground := Ground.phase }], guard := none }) (v := ?_) rfl (by kernel_rfl) (by kernel_rfl) (by kernel_rfl) (fun _ _ _ h => h) (Or.inl ⟨by rfl, ?_⟩) (by assumption) ?_
  rotate_left
  · (intro wS hSw; (try dsimp only at hSw); go_simp; (try with_reducible rfl))
  try simp only [Act.put, List.setIfInBounds_toArray, List.set_cons_zero, List.set_cons_succ]
  refine wpAnyH_done (by kernel_rfl) ?_ _
  refine NoPanic.normal ?_
  go_wp2_with (first
    | (go_at_call 14; ((with_reducible refine (at_b _ _ _ _ _ _ _ _ _ _ _ _ 3 (.tuple #[.agg #[.int .i64 1, .int .i64 2], .bool true]) _ hM hm8 (by omega) (by omega) aw_at).mono ?_); rintro e' wN ⟨rfl, hb⟩; have PB := PB.below hb PB.lt; have HB0 := btr HB0 HB0.size hb; have hM := hM.below hb; have hba : Below wN.heap.size wN (wN.alloc (.cells #[.int .i64 1, .int .i64 2] 31)) := (Below.refl _ _).alloc (Nat.le_refl _) _; have PB := PB.below hba PB.lt; have HB0 := btr HB0 HB0.size hba; have hM := hM.below hba; have QB : Blk (wN.alloc (.cells #[.int .i64 1, .int .i64 2] 31)) wN.heap.size 31 #[.int .i64 1, .int .i64 2] := Blk.new_ _ _ _; clear hb hba z0 z1; obtain ⟨z0, z1⟩ := cells2 PB))
    | (go_at_call 16; ((with_reducible refine (who_bb _ _ _ _ _ _ _ _ _ _ _ _ 1 2 3 true _ hM hm8 (by omega) aw_n aw_w1 aw_w2).mono ?_); rintro e' wN ⟨rfl, hb⟩; have PB := PB.below hb PB.lt; have QB := QB.below hb QB.lt; have HB0 := btr HB0 HB0.size hb; have hM := hM.below hb; clear hb z0 z1; obtain ⟨z0, z1⟩ := cells2 PB; obtain ⟨q0, q1⟩ := cells2 QB))
    | (go_at_call 19; ((with_reducible refine (live_b _ _ _ _ _ _ _ _ _ _ _ _ 1 1 _ hM hm8 (by omega) aw_n aw_l).mono ?_); rintro e' wN ⟨rfl, hb⟩; have HB0 := btr HB0 HB0.size hb; have hM := hM.below hb; clear hb z0 z1 q0 q1))
    | (go_at_call 18; ((with_reducible refine (pages_b _ _ _ _ _ _ _ _ _ _ _ _ [3] 1 _ hM (by omega) aw_p rfl).mono ?_); rintro e' wN ⟨A9, c9, rfl, hS, hb⟩; have HB0 := btr HB0 HB0.size hb; clear hb; have hS := hS.alloc_ (.cells #[.int .i64 3] 3); have hS2 := Sl.new_ wN 3 [.int .i64 3]; have hba : Below wN.heap.size wN (wN.alloc (.cells #[.int .i64 3] 3)) := (Below.refl _ _).alloc (Nat.le_refl _) _; have HB0 := btr HB0 HB0.size hba; clear hba))
    | (go_at_call 21; ((with_reducible refine (sameI_b true [3] [3] 1 1 rfl rfl (by decide) _ _ _ _ _ hS hS2 (by omega) (by omega)).mono ?_); rintro e' wN ⟨rfl, hb⟩; have HB0 := btr HB0 HB0.size hb; clear hb))
    | (go_at_call 7; ((with_reducible refine (new_no 0 0 0 0 0 _ aw_0).mono ?_); rintro e' wN ⟨rfl, hb⟩; have HB0 := btr HB0 HB0.size hb; clear hb)))
  
  go_ret
  exact ⟨rfl, HB0⟩

end Go.Proofs.Ytfefjjebjjfkdaa
