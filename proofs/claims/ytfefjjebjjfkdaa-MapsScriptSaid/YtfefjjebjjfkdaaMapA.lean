/- What a map is in a world: a struct and two rows; has, Drop, place, At. -/
import Derived.Test.YtfefjjebjjfkdaaMapR
namespace Go.Proofs.Ytfefjjebjjfkdaa
open Go.ChangeShapes Go.WideShapes Go.ChangeAt Go.RowKit
set_option linter.unusedSimpArgs false
set_option linter.unusedVariables false

/-- A block that begins with these numbers. -/
def Row (w : World) (g : Nat) (xs : List Int) : Prop := ∃ r : List Value, Blk w g 3 (xs.map (Value.int .i64) ++ r).toArray
theorem Row.cell_ {w : World} {g : Nat} {xs : List Int} (h : Row w g xs) {i : Nat} (hi : i < xs.length) : w.cell? ⟨g, i, none⟩ = some (.int .i64 (xs.getD i (-1))) := by
  obtain ⟨r, h⟩ := h
  rw [h.cell_]
  simp only [List.getElem?_toArray]
  rw [List.getElem?_append_left (by simpa using hi), List.getElem?_map, List.getD_eq_getElem?_getD, List.getElem?_eq_getElem hi]
  rfl
theorem Row.free {w : World} {g : Nat} {xs : List Int} (h : Row w g xs) : ∀ i, w.frozen? ⟨g, i, none⟩ = false := by
  obtain ⟨r, h⟩ := h
  exact h.free
theorem Row.lt {w : World} {g : Nat} {xs : List Int} (h : Row w g xs) : g < w.heap.size := by
  obtain ⟨r, h⟩ := h
  exact h.lt
theorem Row.set_ {w : World} {g : Nat} {xs : List Int} (h : Row w g xs) {i : Nat} (hi : i < xs.length) (v : Int) : Row (w.setCell ⟨g, i, none⟩ (.int .i64 v)) g (xs.set i v) := by
  obtain ⟨r, h⟩ := h
  refine ⟨r, ?_⟩
  have := h.set_ i (.int .i64 v)
  rw [show ((xs.map (Value.int .i64) ++ r).toArray.setIfInBounds i (.int .i64 v)) = ((xs.set i v).map (Value.int .i64) ++ r).toArray by
    rw [List.setIfInBounds_toArray, List.set_append_left _ _ (by simpa using hi), List.map_set]] at this
  exact this
theorem Row.far {w : World} {g : Nat} {xs : List Int} (h : Row w g xs) {p : Addr} (hp : g ≠ p.block) (u : Value) : Row (w.setCell p u) g xs := by
  obtain ⟨r, h⟩ := h
  exact ⟨r, h.far hp u⟩
theorem Row.keep {w w' : World} {g : Nat} {xs : List Int} (h : Row w g xs) (hb : w'.heap[g]? = w.heap[g]?) : Row w' g xs := by
  obtain ⟨r, h⟩ := h
  exact ⟨r, hb.trans h⟩
theorem Row.of_blk {w : World} {g : Nat} {xs : List Int} (h : Blk w g 3 (xs.map (Value.int .i64)).toArray) : Row w g xs := ⟨[], by simpa using h⟩

structure MapW (w : World) (m g1 g2 : Nat) (a b c d e : Int) (L N : Nat) (A W : List Int) : Prop where
  blk : ∃ c1 c2, Blk w m 52 #[.int .i64 a, .int .i64 b, .int .i64 c, .int .i64 d, .int .i64 e, .slice (some ⟨g1, 0, none⟩) L c1, .slice (some ⟨g2, 0, none⟩) N c2]
  rA : Row w g1 A
  rW : Row w g2 W
  n12 : g1 ≠ g2
  n1 : m ≠ g1
  n2 : m ≠ g2
  inv : InvM N A W
  len : A.length = L
theorem MapW.get {w : World} {m g1 g2 : Nat} {a b c d e : Int} {L N : Nat} {A W : List Int} (h : MapW w m g1 g2 a b c d e L N A W) : ∃ c1 c2,
    w.cell? ⟨m, 0, none⟩ = some (.int .i64 a) ∧ w.cell? ⟨m, 1, none⟩ = some (.int .i64 b) ∧ w.cell? ⟨m, 2, none⟩ = some (.int .i64 c) ∧ w.cell? ⟨m, 3, none⟩ = some (.int .i64 d) ∧ w.cell? ⟨m, 4, none⟩ = some (.int .i64 e) ∧
    w.cell? ⟨m, 5, none⟩ = some (.slice (some ⟨g1, 0, none⟩) L c1) ∧ w.cell? ⟨m, 6, none⟩ = some (.slice (some ⟨g2, 0, none⟩) N c2) ∧
    (∀ i, i < L → w.cell? ⟨g1, i, none⟩ = some (.int .i64 (A.getD i (-1)))) ∧ (∀ i, i < N → w.cell? ⟨g2, i, none⟩ = some (.int .i64 (W.getD i (-1)))) ∧
    (∀ i, w.frozen? ⟨g1, i, none⟩ = false) ∧ (∀ i, w.frozen? ⟨g2, i, none⟩ = false) ∧ (∀ i, w.frozen? ⟨m, i, none⟩ = false) := by
  obtain ⟨c1, c2, hb⟩ := h.blk
  refine ⟨c1, c2, ?_, ?_, ?_, ?_, ?_, ?_, ?_, fun i hi => h.rA.cell_ (by rw [h.len]; exact hi), fun i hi => h.rW.cell_ (by rw [h.inv.len]; exact hi), h.rA.free, h.rW.free, hb.free⟩
  all_goals
    rw [hb.cell_]
    simp
theorem MapW.keep {w w' : World} {m g1 g2 : Nat} {a b c d e : Int} {L N : Nat} {A W : List Int} (h : MapW w m g1 g2 a b c d e L N A W) (hm : w'.heap[m]? = w.heap[m]?) (h1 : w'.heap[g1]? = w.heap[g1]?) (h2 : w'.heap[g2]? = w.heap[g2]?) : MapW w' m g1 g2 a b c d e L N A W := by
  obtain ⟨⟨c1, c2, hb⟩, rA, rW, n12, n1, n2, inv, len⟩ := h
  exact ⟨⟨c1, c2, hm.trans hb⟩, rA.keep h1, rW.keep h2, n12, n1, n2, inv, len⟩
theorem MapW.lt {w : World} {m g1 g2 : Nat} {a b c d e : Int} {L N : Nat} {A W : List Int} (h : MapW w m g1 g2 a b c d e L N A W) : m < w.heap.size ∧ g1 < w.heap.size ∧ g2 < w.heap.size := by
  obtain ⟨⟨c1, c2, hb⟩, rA, rW, _⟩ := h
  exact ⟨hb.lt, rA.lt, rW.lt⟩
theorem MapW.below {w w' : World} {m g1 g2 : Nat} {a b c d e : Int} {L N : Nat} {A W : List Int} (h : MapW w m g1 g2 a b c d e L N A W) (hb : Below w.heap.size w w') : MapW w' m g1 g2 a b c d e L N A W :=
  h.keep (hb.block _ h.lt.1) (hb.block _ h.lt.2.1) (hb.block _ h.lt.2.2)
/-- Only the two rows are turned. -/
structure Touch (g1 g2 : Nat) (w w' : World) : Prop where
  size : w.heap.size ≤ w'.heap.size
  far : ∀ g, g < w.heap.size → g ≠ g1 → g ≠ g2 → w'.heap[g]? = w.heap[g]?
  bel : ∀ B, B ≤ g1 → B ≤ g2 → B ≤ w.heap.size → Below B w w'
theorem Touch.of_below {g1 g2 : Nat} {w w' : World} (h : Below w.heap.size w w') : Touch g1 g2 w w' := ⟨h.size, fun g hg _ _ => h.block g hg, fun B _ _ hB => h.mono hB⟩
theorem Touch.trans {g1 g2 : Nat} {w w' w'' : World} (h : Touch g1 g2 w w') (k : Touch g1 g2 w' w'') : Touch g1 g2 w w'' :=
  ⟨Nat.le_trans h.size k.size, fun g hg h1 h2 => (k.far g (Nat.lt_of_lt_of_le hg h.size) h1 h2).trans (h.far g hg h1 h2), fun B h1 h2 h3 => (h.bel B h1 h2 h3).trans (k.bel B h1 h2 (Nat.le_trans h3 h.size))⟩
theorem Touch.set1 {g1 g2 : Nat} (w : World) (i : Nat) (u : Value) : Touch g1 g2 w (w.setCell ⟨g1, i, none⟩ u) :=
  ⟨((Below.refl (0 : Nat) w).setCell (p := ⟨g1, i, none⟩) (Nat.zero_le _) u).size, fun g _ h1 _ => Below.heap_setCell w _ u g h1, fun B h1 _ _ => (Below.refl B w).setCell (p := ⟨g1, i, none⟩) h1 u⟩
theorem Touch.set2 {g1 g2 : Nat} (w : World) (i : Nat) (u : Value) : Touch g1 g2 w (w.setCell ⟨g2, i, none⟩ u) :=
  ⟨((Below.refl (0 : Nat) w).setCell (p := ⟨g2, i, none⟩) (Nat.zero_le _) u).size, fun g _ _ h1 => Below.heap_setCell w _ u g h1, fun B _ h1 _ => (Below.refl B w).setCell (p := ⟨g2, i, none⟩) h1 u⟩
theorem MapW.both {w : World} {m g1 g2 : Nat} {a b c d e : Int} {L N : Nat} {A W A' W' : List Int} (h : MapW w m g1 g2 a b c d e L N A W) {i j : Nat} (hi : i < L) (hj : j < N) (u v : Int) (hA : A' = A.set i u) (hW : W' = W.set j v) (hI : InvM N A' W') :
    MapW ((w.setCell ⟨g2, j, none⟩ (.int .i64 v)).setCell ⟨g1, i, none⟩ (.int .i64 u)) m g1 g2 a b c d e L N A' W' := by
  obtain ⟨⟨c1, c2, hb⟩, rA, rW, n12, n1, n2, inv, len⟩ := h
  subst hA hW
  refine ⟨⟨c1, c2, (hb.far n2 _).far n1 _⟩, (rA.far n12 _).set_ (by rw [len]; exact hi) u, (rW.set_ (by rw [inv.len]; exact hj) v).far (fun h => n12 h.symm) _, n12, n1, n2, hI, by rw [List.length_set]; exact len⟩
theorem MapW.both' {w : World} {m g1 g2 : Nat} {a b c d e : Int} {L N : Nat} {A W A' W' : List Int} (h : MapW w m g1 g2 a b c d e L N A W) {i j : Nat} (hi : i < L) (hj : j < N) (u v : Int) (hA : A' = A.set i u) (hW : W' = W.set j v) (hI : InvM N A' W') :
    MapW ((w.setCell ⟨g1, i, none⟩ (.int .i64 u)).setCell ⟨g2, j, none⟩ (.int .i64 v)) m g1 g2 a b c d e L N A' W' := by
  obtain ⟨⟨c1, c2, hb⟩, rA, rW, n12, n1, n2, inv, len⟩ := h
  subst hA hW
  refine ⟨⟨c1, c2, (hb.far n1 _).far n2 _⟩, (rA.set_ (by rw [len]; exact hi) u).far n12 _, (rW.far (fun h => n12 h.symm) _).set_ (by rw [inv.len]; exact hj) v, n12, n1, n2, hI, by rw [List.length_set]; exact len⟩

theorem hasB_lo {A : List Int} {p : Int} (h : p < 0) : hasB A p = false := by
  unfold hasB
  rw [decide_eq_false (by omega : ¬ 0 ≤ p)]
  rfl
theorem hasB_hi {A : List Int} {p : Int} (h : ¬ p < (A.length : Int)) : hasB A p = false := by
  unfold hasB
  rw [decide_eq_false h, Bool.and_false]
  rfl
theorem hasB_no {A : List Int} {k : Nat} (hk : k < A.length) (h : A.getD k (-1) = -1) : hasB A (k : Int) = false := by
  unfold hasB
  rw [Int.toNat_natCast, (decide_eq_false (fun hh => hh h) : decide (A.getD k (-1) ≠ -1) = false), Bool.and_false]
theorem hasB_yes {A : List Int} {k : Nat} (hk : k < A.length) (h : A.getD k (-1) ≠ -1) : hasB A (k : Int) = true := by
  unfold hasB
  rw [Int.toNat_natCast, decide_eq_true h, decide_eq_true (by omega : (0 : Int) ≤ k), decide_eq_true (by omega : (k : Int) < A.length)]
  rfl
theorem numN {N : Nat} {A W : List Int} (h : InvM N A W) {k : Nat} (hk : k < A.length) (hz : A.getD k (-1) ≠ -1) : ∃ n : Nat, n < N ∧ A.getD k (-1) = (n : Int) := by
  have := h.rng k hk
  exact ⟨(A.getD k (-1)).toNat, by omega, by omega⟩
theorem hasB_out {A : List Int} {p : Int} (h : hasB A p = true) : ∃ k : Nat, p = (k : Int) ∧ k < A.length ∧ A.getD k (-1) ≠ -1 := by
  simp only [hasB, Bool.and_eq_true, decide_eq_true_eq] at h
  exact ⟨p.toNat, by omega, by omega, h.2⟩
theorem cell_far {w : World} {g i : Nat} {p : Addr} (h : g ≠ p.block) (u : Value) : (w.setCell p u).cell? ⟨g, i, none⟩ = w.cell? ⟨g, i, none⟩ := by
  simp only [World.cell?]
  rw [Below.heap_setCell w p u g h]
theorem MapW.like {w w' : World} {m g1 g2 : Nat} {a b c d e : Int} {L N : Nat} {A W : List Int} (h : MapW w m g1 g2 a b c d e L N A W) (e1 : w'.heap = w.heap) : MapW w' m g1 g2 a b c d e L N A W :=
  h.keep (by rw [e1]) (by rw [e1]) (by rw [e1])
theorem Touch.like {g1 g2 : Nat} {w w1 w2 : World} (h : Touch g1 g2 w w1) (e1 : w2.heap = w1.heap) (e2 : w2.os = w1.os) (e3 : w2.tape = w1.tape) (e4 : w2.output = w1.output) : Touch g1 g2 w w2 :=
  ⟨by rw [e1]; exact h.size, fun g hg h1 h2 => by rw [e1]; exact h.far g hg h1 h2, fun B h1 h2 h3 => ⟨e2.trans (h.bel B h1 h2 h3).os, e3.trans (h.bel B h1 h2 h3).tape, e4.trans (h.bel B h1 h2 h3).output, by rw [e1]; exact h.size, fun g hg => by rw [e1]; exact (h.bel B h1 h2 h3).block g hg⟩⟩
theorem Touch.refl {g1 g2 : Nat} (w : World) : Touch g1 g2 w w := Touch.of_below (Below.refl _ _)
theorem has_any (m g1 g2 : Nat) (a b c d e : Int) (L N : Nat) (A W : List Int) (p : Int) (w : World) (hM : MapW w m g1 g2 a b c d e L N A W) (hL : L ≤ 1000) :
    Calls Try.prog 31 #[.pointer (some ⟨m, 0, none⟩), .int .i64 p] w fun e' w' => e' = .returned (.bool (hasB A p)) ∧ w = w' := by
  obtain ⟨c1, c2, y0, y1, y2, y3, y4, y5, y6, ya, yb, fa, fb, fm⟩ := hM.get
  by_cases h1 : p < 0
  · rw [hasB_lo h1]
    clear ya yb fa fb fm hM
    go_enter Try.func31, Try.ntmps31
    go_wp2
    go_ret
    exact ⟨rfl, rfl⟩
  by_cases h3 : p < (L : Int)
  · obtain ⟨k, rfl⟩ : ∃ k : Nat, p = (k : Int) := ⟨p.toNat, by omega⟩
    have cz := ya k (by omega)
    have hk : k < A.length := by rw [hM.len]; omega
    by_cases h4 : A.getD k (-1) = -1
    · rw [hasB_no hk h4]
      rw [h4] at cz
      have i0 : (0 : Int) ≤ (k : Int) := by omega
      have i2 : k < L := by omega
      clear h4 hk ya yb fa fb fm hM h1
      go_enter Try.func31, Try.ntmps31
      go_wp2
      go_ret
      exact ⟨rfl, rfl⟩
    · rw [hasB_yes hk h4]
      obtain ⟨z, hz⟩ : ∃ z, A.getD k (-1) = z := ⟨_, rfl⟩
      rw [hz] at cz h4
      have i0 : (0 : Int) ≤ (k : Int) := by omega
      have i2 : k < L := by omega
      clear hz hk ya yb fa fb fm hM h1
      go_enter Try.func31, Try.ntmps31
      go_wp2
      go_ret
      exact ⟨congrArg (fun b => Ending.returned (Value.bool b)) (by simp [h4]), rfl⟩
  · rw [hasB_hi (by rw [hM.len]; exact h3)]
    clear ya yb fa fb fm hM
    have h2 : 0 ≤ p := by omega
    go_enter Try.func31, Try.ntmps31
    go_wp2
    go_ret
    exact ⟨rfl, rfl⟩
theorem has_b (m g1 g2 : Nat) (a b c d e : Int) (L N : Nat) (A W : List Int) (p : Int) (B : Bool) (w : World) (hM : MapW w m g1 g2 a b c d e L N A W) (hL : L ≤ 1000) (hB : hasB A p = B) :
    Calls Try.prog 31 #[.pointer (some ⟨m, 0, none⟩), .int .i64 p] w fun e' w' => e' = .returned (.bool B) ∧ w = w' := by
  rw [← hB]
  exact has_any m g1 g2 a b c d e L N A W p w hM hL
theorem has_nil (p : Int) (w : World) : Calls Try.prog 31 #[.pointer none, .int .i64 p] w fun e' w' => e' = .returned (.bool false) ∧ w = w' := by
  go_enter Try.func31, Try.ntmps31
  go_wp2
  go_ret
  exact ⟨rfl, rfl⟩
theorem drop_nil (p : Int) (w : World) : Calls Try.prog 10 #[.pointer none, .int .i64 p] w fun e' w' => e' = .returned (.bool false) ∧ w = w' := by
  go_enter Try.func10, Try.ntmps10
  go_wp2_with (go_at_call 31; ((with_reducible refine (has_nil _ _).mono ?_); rintro e' wN ⟨rfl, rfl⟩; skip))
  go_ret
  exact ⟨rfl, rfl⟩
theorem at_nil (p : Int) (w : World) : Calls Try.prog 14 #[.pointer none, .int .i64 p] w fun e' w' => e' = .returned (.tuple #[.agg #[.int .i64 0, .int .i64 0], .bool false]) ∧ Below w.heap.size w w' := by
  go_enter Try.func14, Try.ntmps14
  go_wp2_with (go_at_call 31; ((with_reducible refine (has_nil _ _).mono ?_); rintro e' wN ⟨rfl, rfl⟩; skip))
  refine bodyPost_ret (v := .tuple #[.agg #[.int .i64 0, .int .i64 0], .bool false]) (by simp [results, Try.results14, go_sem]) rfl ⟨rfl, ?_⟩
  exact (Below.refl _ _).alloc (Nat.le_refl _) _
theorem put_nil (p x y : Int) (w : World) : Calls Try.prog 11 #[.pointer none, .int .i64 p, .agg #[.int .i64 x, .int .i64 y]] w fun e' w' => e' = .returned (.bool false) ∧ Below w.heap.size w w' := by
  go_enter Try.func11, Try.ntmps11
  go_wp2
  go_ret
  exact ⟨rfl, (Below.refl _ _).alloc (Nat.le_refl _) _⟩
theorem who_nil (x y : Int) (w : World) : Calls Try.prog 16 #[.pointer none, .agg #[.int .i64 x, .int .i64 y]] w fun e' w' => e' = .returned (.tuple #[.int .i64 0, .bool false]) ∧ Below w.heap.size w w' := by
  go_enter Try.func16, Try.ntmps16
  go_wp2
  go_ret2
  exact ⟨rfl, (Below.refl _ _).alloc (Nat.le_refl _) _⟩
theorem live_nil (p : Int) (w : World) : Calls Try.prog 19 #[.pointer none, .int .i64 p] w fun e' w' => e' = .returned (.int .i64 0) ∧ w = w' := by
  go_enter Try.func19, Try.ntmps19
  go_wp2
  go_ret
  exact ⟨rfl, rfl⟩
theorem pages_nil (w : World) : Calls Try.prog 18 #[.pointer none] w fun e' w' => e' = .returned (.slice none 0 0) ∧ w = w' := by
  go_enter Try.func18, Try.ntmps18
  go_wp2
  go_ret
  exact ⟨rfl, rfl⟩
theorem copy_nil (w : World) : Calls Try.prog 9 #[.pointer none] w fun e' w' => e' = .returned (.pointer none) ∧ w = w' := by
  go_enter Try.func9, Try.ntmps9
  go_wp2
  go_ret
  exact ⟨rfl, rfl⟩
end Go.Proofs.Ytfefjjebjjfkdaa
