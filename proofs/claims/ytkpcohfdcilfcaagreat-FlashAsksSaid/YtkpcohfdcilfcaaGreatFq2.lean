/- slices.Repeat of a row of one int, slices.Clone of a row of ints. -/
import Derived.Test.YtkpcohfdcilfcaaGreatFq1
import Derived.Laws.CopyOwn
import Derived.StillTailTactics
import Derived.WalkKit
set_option linter.unusedSimpArgs false
set_option linter.unusedVariables false
set_option maxRecDepth 100000
set_option maxHeartbeats 16000000
namespace Go.Proofs.YtkpcohfdcilfcaaGreat
open Go.ChangeShapes Go.WideShapes Go.ChangeAt Go.RowKit
theorem infoIntM : (Tryz.prog.info? 3).map (fun i => (i.zero, i.size, i.bytes)) = some (some (.int .i64 0), 1, 8) := by kernel_rfl
theorem wrapSM (x : Int) (h0 : -1000000000000 ≤ x) (h1 : x ≤ 1000000000000) : IntKind.i64.wrap x = x := by
  rw [IntKind.wrap_i64]
  omega
theorem infoIntSz : (Tryz.prog.info? 3).map (fun i => i.size) = some 1 := by kernel_rfl
theorem own_cur {w : World} {base g n : Nat} {e : TypeId} {xs : List Value} (h : w.ownsRow base e 1 (.slice (some ⟨g, 0, none⟩) n n) n xs) : w.heap[g]? = some (.cells xs.toArray e (0, 0)) := by
  obtain ⟨hl, h⟩ := h
  rcases h with ⟨h0, _⟩ | ⟨g', cap, cur, hv, _, hh, hnc, _, hsz, ht⟩
  · cases h0
  · cases hv
    have : cur = xs.toArray := by
      rw [← ht]
      have hl2 : cur.toList.length = n * 1 := by simpa using hsz
      rw [List.take_of_length_le (by omega)]
    rw [← this]
    exact hh
section
variable {P : Program}
theorem wp_copyM {w : World} {o : Oper} {a : Act} {K : Act → World → Prop} {Q : Exit → Act → World → Prop} (d s : Operand) (t : TypeId)
    (ho : o.op = .call { callee := .builtin .copy, args := #[d, s], argTypes := #[t, t] }) (v u r : Value) (w' : World) (hd : a.eval d = v) (hs : a.eval s = u)
    (hrun : (Builtin.copy_ #[t, t] o.type #[v, u]).run P w = .ok r w') (h : K (a.put o.dst r) w') : o.wp P a w K Q := by
  unfold Oper.wp execOp
  simp only [ho, resolve, invoke, builtin, Sem.run_bind, Sem.run_pure, Result.andThen_ok, List.map_toArray, List.map_cons, List.map_nil, hd, hs, hrun]
  exact h
end
theorem mulCM (n : Nat) (w : World) (hn : n < 18446744073709551616) : Calls Tryz.prog 111 #[.int .u64 1, .int .u64 (n : Int)] w fun e' w' => e' = .returned (.tuple #[.int .u64 0, .int .u64 (n : Int)]) ∧ w = w' := by
  refine (Any.bits_Mul Tryz.laysMul 1 n (by omega) hn w).mono ?_
  rintro e' w' ⟨rfl, h⟩
  refine ⟨?_, h.symm⟩
  rw [Nat.one_mul, Nat.div_eq_of_lt hn, Nat.mod_eq_of_lt hn]
  rfl
def repV (n k : Nat) (v : Int) : Array Value := (List.replicate k (Value.int .i64 v) ++ List.replicate (n - k) (Value.int .i64 0)).toArray
theorem repV_size {n k : Nat} (h : k ≤ n) (v : Int) : (repV n k v).size = n := by
  simp [repV]
  omega
theorem repV_zero (n : Nat) (v : Int) : (List.replicate n (Value.int .i64 0)).toArray = repV n 0 v := by simp [repV]
theorem repV_one (n : Nat) (v : Int) (h : 1 ≤ n) : (List.take 0 (repV n 0 v).toList ++ [Value.int .i64 v] ++ List.drop (0 + 1) (repV n 0 v).toList).toArray = repV n 1 v := by
  simp [repV]
theorem repV_full (n : Nat) (v : Int) : repV n n v = ((List.replicate n v).map (Value.int .i64)).toArray := by simp [repV]
theorem repV_get {n k j : Nat} (v : Int) (h : j < k) : (repV n k v)[j]? = some (.int .i64 v) := by
  simp only [repV, List.getElem?_toArray]
  rw [List.getElem?_append_left (by simpa using h), List.getElem?_replicate]
  simp [h]
theorem repV_step (n k q : Nat) (v : Int) (h : k + q ≤ n) : (List.take k (repV n k v).toList ++ List.replicate q (Value.int .i64 v) ++ List.drop (k + (List.replicate q (Value.int .i64 v)).length) (repV n k v).toList).toArray = repV n (k + q) v := by
  have h1 : List.take k (repV n k v).toList = List.replicate k (Value.int .i64 v) := by simp [repV]
  have h2 : List.drop (k + q) (repV n k v).toList = List.replicate (n - (k + q)) (Value.int .i64 0) := by
    simp only [repV]
    rw [List.drop_append]
    simp
    omega
  rw [h1, List.length_replicate, h2]
  simp [repV]
theorem repI_one (v : Int) (q : Nat) : ∀ u ∈ List.replicate q (Value.int .i64 v), u.oneCell' = true := by
  intro u hu
  rw [(List.mem_replicate.1 hu).2]
  rfl
theorem copy_own {w : World} {g n k q : Nat} {v : Int} (hB : Blk w g 3 (repV n k v)) (hk : k < n) (hq : min k (n - k) = q) :
    (Builtin.copy_ #[24, 24] 3 #[.slice (some ⟨g, k, none⟩) (n - k) (n - k), .slice (some ⟨g, 0, none⟩) k n]).run Tryz.prog w = .ok (.int .i64 (q : Int)) (w.setRow g (repV n (k + q) v)) := by
  have hrun := run_copy_row (P := Tryz.prog) w 24 24 3 3 g k (n - k) (n - k) ⟨g, 0, none⟩ k n (repV n k v) 3 (List.replicate q (Value.int .i64 v)) Tryz.underlying24 infoIntSz hB (by rw [List.length_replicate]; exact hq.symm) ?_ (by rw [List.length_replicate, repV_size (by omega)]; omega) (repI_one v q)
  · rw [hrun, repV_step n k q v (by omega), List.length_replicate]
    rfl
  · intro j u hj
    obtain ⟨hlt, rfl⟩ := List.getElem?_eq_some_iff.1 hj
    have hjq : j < q := by simpa using hlt
    have e : (⟨g, 0, none⟩ : Addr).add j = ⟨g, j, none⟩ := by
      unfold Addr.add
      split <;> simp_all
    rw [e, hB.cell_, repV_get v (by omega)]
    simp
theorem rep_any (v : Int) (b : Nat) (n : Nat) (w : World) (hc : w.cell? ⟨b, 0, none⟩ = some (.int .i64 v)) (hb : b < w.heap.size) (n1 : 1 ≤ n) (n2 : n ≤ 1000) :
    Calls Tryz.prog 116 #[.slice (some ⟨b, 0, none⟩) 1 1, .int .i64 (n : Int)] w fun e' w' => e' = .returned (.slice (some ⟨w.heap.size, 0, none⟩) n n) ∧ Below w.heap.size w w' ∧ Blk w' w.heap.size 3 ((List.replicate n v).map (Value.int .i64)).toArray := by
  have i0 : (0 : Int) ≤ (n : Int) := by omega
  have i1 : (1 : Int) ≤ (n : Int) := by omega
  have i2 : (n : Int) ≤ 1000 := by omega
  go_enter Tryz.func116, Tryz.ntmps116
  go_upto_region 7 with (first
    | (go_at_call 111; ((with_reducible refine (mulCM n _ (by omega)).mono ?_); rintro e' wN ⟨rfl, rfl⟩; skip))
    | (at_make; obtain ⟨ti0, hi, hz0, hz1, hz2⟩ := info_parts infoIntM; refine wpList_make_full _ rfl _ _ 24 rfl w.heap.size 3 ti0 (.int .i64 0) 1 Tryz.underlying24 hi hz0 hz1 _ _ _ _ n rfl rfl rfl rfl (by rw [hz2]; omega) (by unfold maxLen; omega) (Nat.le_refl _) ?_; intro w1 hown1 hgrow1; clear hi hz0 hz1 hz2))
  have hcur := own_cur hown1
  rw [show (madeCells (Value.int .i64 0).cells (n * 1)).toList = List.replicate (n * 1) (Value.int .i64 0) from toList_madeCells_one _ _, Nat.mul_one] at hcur
  rw [repV_zero n v] at hcur
  have hB1 : Below w.heap.size w w1 := (Below.refl _ _).grown hgrow1 (Nat.le_refl _) (fun j hj => by cases hj)
  have hc1 : w1.cell? ⟨b, 0, none⟩ = some (.int .i64 v) := (hB1.cell (p := ⟨b, 0, none⟩) hb).trans hc
  have hrun := run_copy_row (P := Tryz.prog) w1 24 24 3 3 w.heap.size 0 n n ⟨b, 0, none⟩ 1 1 (repV n 0 v) 3 [.int .i64 v] Tryz.underlying24 infoIntSz hcur (by show 1 = min 1 n; omega) (by intro j u hj; cases j with | zero => (simp at hj; subst hj; simpa [Addr.add] using hc1) | succ j => simp at hj) (by rw [repV_size (by omega)]; simpa using n1) (by simp [Value.oneCell'])
  rw [show ([Value.int .i64 v] : List Value).length = 1 from rfl, repV_one n v n1] at hrun
  have hrun' : (Builtin.copy_ #[24, 24] 3 #[.slice (some ⟨w.heap.size, 0, none⟩) n n, .slice (some ⟨b, 0, none⟩) 1 1]).run Tryz.prog w1 = .ok (.int .i64 1) (w1.setRow w.heap.size (repV n 1 v)) := hrun
  have hB2 := below_setRow hB1 (Nat.le_refl _) (repV n 1 v)
  have hK2 : Blk (w1.setRow w.heap.size (repV n 1 v)) w.heap.size 3 (repV n 1 v) := setRow_heap w1 w.heap.size _ _ 3 _ hcur
  generalize w1.setRow w.heap.size (repV n 1 v) = wy at hrun' hB2 hK2
  clear hrun hcur hown1 hgrow1 hc1 hc
  have HK2 := Lib.hid hK2
  clear hK2
  go_wp2_with fail
  go_loopw [8] (fun s8 wr => ∃ k : Nat, s8 = .int .i64 (k : Int) ∧ 1 ≤ k ∧ k ≤ n ∧ Below w.heap.size w wr ∧ Blk wr w.heap.size 3 (repV n k v)) (fun s8 _ => n - (intOf s8).toNat)
  case atStart => exact ⟨1, rfl, Nat.le_refl _, n1, hB2, HK2.out⟩
  case round =>
    obtain ⟨k, rfl, k1, k2, hBr, hKr⟩ := hrel
    clear hrun' hB1 hB2 HK2 hb
    by_cases hk : k < n
    · obtain ⟨q, hq⟩ : ∃ q, min k (n - k) = q := ⟨_, rfl⟩
      have j0 : (0 : Int) ≤ (k : Int) := by omega
      have j1 : (k : Int) < (n : Int) := by omega
      have j2 : (k : Int) ≤ (n : Int) := by omega
      have j3 : ¬ n = k := by omega
      have j4 : ¬ (n : Int) = (k : Int) := by omega
      have j5 : (n : Int) - (k : Int) = ((n - k : Nat) : Int) := by omega
      have q1 : 1 ≤ q := by omega
      have q2 : k + q ≤ n := by omega
      have q3 : (0 : Int) ≤ (q : Int) := by omega
      have q4 : (q : Int) ≤ 1000 := by omega
      have HQ := Lib.hid hq
      have HKr := Lib.hid hKr
      clear hq hKr
      go_upto_region 9 with fail
      refine wp_region_noPanic ?_
      refine wp_region_held_drew (S := (fun w' => Below w.heap.size w w')) (by kernel_rfl) ?_ (fun hHeld => ?_)
      · (first | exact hBr.drew | exact hB9.drew | assumption)
      refine tk 0 ?_; try simp only [Act.put, pz1, pz2, pz3]
      refine tk 1 ?_; try simp only [Act.put, pz1, pz2, pz3]
      refine tk 2 ?_; try simp only [Act.put, pz1, pz2, pz3]
      refine tk 3 ?_; try simp only [Act.put, pz1, pz2, pz3]
      refine tk 4 ?_; try simp only [Act.put, pz1, pz2, pz3]
      refine tk 5 ?_; try simp only [Act.put, pz1, pz2, pz3]
      refine tk 6 ?_; try simp only [Act.put, pz1, pz2, pz3]
      refine wpAnyH_ready (rs := [7]) (by kernel_rfl) (by simp) ?_
      refine AllReadyH.cons (o := ⟨some 45, .call { callee := .builtin .copy, args := #[.tmp 41, .tmp 44], argTypes := #[24, 24] }, 3, "slices.go:528", #[⟨3, .data⟩, ⟨6, .data⟩], none⟩) rfl (fun K hK => ?_) AllReadyH.nil
      refine wp_copyM _ _ 24 rfl _ _ _ _ rfl rfl (copy_own (w := _) (k := k) HKr.out hk HQ.out) ?_
      have hB9 := below_setRow hBr (Nat.le_refl _) (repV n (k + q) v)
      have hK9 := setRow_heap wr w.heap.size _ (repV n (k + q) v) 3 _ HKr.out
      change K _ (wr.setRow w.heap.size (repV n (k + q) v)).drew
      generalize wr.setRow w.heap.size (repV n (k + q) v) = w9 at hB9 hK9 ⊢
      refine hK.out _ _ ?_ (fun hNew => ?_)
      · (first | exact hBr.drew | exact hB9.drew | assumption)
      clear hK K hHeld
      have hHeld := hNew
      clear hNew
      try simp only [Act.put, pz1, pz2, pz3]
      refine tk 8 ?_; try simp only [Act.put, pz1, pz2, pz3]
      refine tk 9 ?_; try simp only [Act.put, pz1, pz2, pz3]
      refine wpAnyH_done (by kernel_rfl) ?_ _
      refine NoPanic.normal ?_
      go_wp2_with fail
      go_roundw
      case rel => exact ⟨k + q, by rw [wrapSM _ (by omega) (by omega)]; rfl, by omega, q2, hB9.drew, hK9⟩
      case measure =>
        rw [wrapSM _ (by omega) (by omega)]
        simp [intOf]
        omega
    · have hkn : k = n := by omega
      subst hkn
      rw [repV_full] at hKr
      have HKr := Lib.hid hKr
      clear hKr hk
      go_wp2_with fail
      go_ret
      exact ⟨rfl, hBr, HKr.out⟩
end Go.Proofs.YtkpcohfdcilfcaaGreat
namespace Go.Proofs.YtkpcohfdcilfcaaGreat
open Go.ChangeShapes Go.WideShapes Go.ChangeAt Go.RowKit
def Row (w : World) (g : Nat) (xs : List Int) : Prop := ∃ r : List Value, Blk w g 3 (xs.map (Value.int .i64) ++ r).toArray
theorem Row.cell_ {w : World} {g : Nat} {xs : List Int} (h : Row w g xs) {i : Nat} (hi : i < xs.length) : w.cell? ⟨g, i, none⟩ = some (.int .i64 (xs.getD i (-1))) := by
  obtain ⟨r, h⟩ := h
  rw [h.cell_]
  simp only [List.getElem?_toArray]
  rw [List.getElem?_append_left (by simpa using hi), List.getElem?_map, List.getD_eq_getElem?_getD, List.getElem?_eq_getElem hi]
  rfl
theorem Row.free {w : World} {g : Nat} {xs : List Int} (h : Row w g xs) : ∀ i, w.frozen? ⟨g, i, none⟩ = false := by
  obtain ⟨r, h⟩ := h
  exact h.free
theorem Row.lt {w : World} {g : Nat} {xs : List Int} (h : Row w g xs) : g < w.heap.size := by
  obtain ⟨r, h⟩ := h
  exact h.lt
theorem Row.set_ {w : World} {g : Nat} {xs : List Int} (h : Row w g xs) {i : Nat} (hi : i < xs.length) (v : Int) : Row (w.setCell ⟨g, i, none⟩ (.int .i64 v)) g (xs.set i v) := by
  obtain ⟨r, h⟩ := h
  refine ⟨r, ?_⟩
  have := h.set_ i (.int .i64 v)
  rw [show ((xs.map (Value.int .i64) ++ r).toArray.setIfInBounds i (.int .i64 v)) = ((xs.set i v).map (Value.int .i64) ++ r).toArray by
    rw [List.setIfInBounds_toArray, List.set_append_left _ _ (by simpa using hi), List.map_set]] at this
  exact this
theorem Row.far {w : World} {g : Nat} {xs : List Int} (h : Row w g xs) {p : Addr} (hp : g ≠ p.block) (u : Value) : Row (w.setCell p u) g xs := by
  obtain ⟨r, h⟩ := h
  exact ⟨r, h.far hp u⟩
theorem Row.keep {w w' : World} {g : Nat} {xs : List Int} (h : Row w g xs) (hb : w'.heap[g]? = w.heap[g]?) : Row w' g xs := by
  obtain ⟨r, h⟩ := h
  exact ⟨r, hb.trans h⟩
theorem Row.of_blk {w : World} {g : Nat} {xs : List Int} (h : Blk w g 3 (xs.map (Value.int .i64)).toArray) : Row w g xs := ⟨[], by simpa using h⟩
structure MapW (w : World) (m g1 g2 : Nat) (a b c d e : Int) (L N : Nat) (A W : List Int) : Prop where
  blk : ∃ c1 c2, Blk w m 138 #[.int .i64 a, .int .i64 b, .int .i64 c, .int .i64 d, .int .i64 e, .slice (some ⟨g1, 0, none⟩) L c1, .slice (some ⟨g2, 0, none⟩) N c2]
  rA : Row w g1 A
  rW : Row w g2 W
  n12 : g1 ≠ g2
  n1 : m ≠ g1
  n2 : m ≠ g2
  inv : InvM N A W
  len : A.length = L
theorem MapW.get {w : World} {m g1 g2 : Nat} {a b c d e : Int} {L N : Nat} {A W : List Int} (h : MapW w m g1 g2 a b c d e L N A W) : ∃ c1 c2,
    w.cell? ⟨m, 0, none⟩ = some (.int .i64 a) ∧ w.cell? ⟨m, 1, none⟩ = some (.int .i64 b) ∧ w.cell? ⟨m, 2, none⟩ = some (.int .i64 c) ∧ w.cell? ⟨m, 3, none⟩ = some (.int .i64 d) ∧ w.cell? ⟨m, 4, none⟩ = some (.int .i64 e) ∧
    w.cell? ⟨m, 5, none⟩ = some (.slice (some ⟨g1, 0, none⟩) L c1) ∧ w.cell? ⟨m, 6, none⟩ = some (.slice (some ⟨g2, 0, none⟩) N c2) ∧
    (∀ i, i < L → w.cell? ⟨g1, i, none⟩ = some (.int .i64 (A.getD i (-1)))) ∧ (∀ i, i < N → w.cell? ⟨g2, i, none⟩ = some (.int .i64 (W.getD i (-1)))) ∧
    (∀ i, w.frozen? ⟨g1, i, none⟩ = false) ∧ (∀ i, w.frozen? ⟨g2, i, none⟩ = false) ∧ (∀ i, w.frozen? ⟨m, i, none⟩ = false) := by
  obtain ⟨c1, c2, hb⟩ := h.blk
  refine ⟨c1, c2, ?_, ?_, ?_, ?_, ?_, ?_, ?_, fun i hi => h.rA.cell_ (by rw [h.len]; exact hi), fun i hi => h.rW.cell_ (by rw [h.inv.len]; exact hi), h.rA.free, h.rW.free, hb.free⟩
  all_goals
    rw [hb.cell_]
    simp
theorem MapW.keep {w w' : World} {m g1 g2 : Nat} {a b c d e : Int} {L N : Nat} {A W : List Int} (h : MapW w m g1 g2 a b c d e L N A W) (hm : w'.heap[m]? = w.heap[m]?) (h1 : w'.heap[g1]? = w.heap[g1]?) (h2 : w'.heap[g2]? = w.heap[g2]?) : MapW w' m g1 g2 a b c d e L N A W := by
  obtain ⟨⟨c1, c2, hb⟩, rA, rW, n12, n1, n2, inv, len⟩ := h
  exact ⟨⟨c1, c2, hm.trans hb⟩, rA.keep h1, rW.keep h2, n12, n1, n2, inv, len⟩
theorem MapW.lt {w : World} {m g1 g2 : Nat} {a b c d e : Int} {L N : Nat} {A W : List Int} (h : MapW w m g1 g2 a b c d e L N A W) : m < w.heap.size ∧ g1 < w.heap.size ∧ g2 < w.heap.size := by
  obtain ⟨⟨c1, c2, hb⟩, rA, rW, _⟩ := h
  exact ⟨hb.lt, rA.lt, rW.lt⟩
theorem MapW.below {w w' : World} {m g1 g2 : Nat} {a b c d e : Int} {L N : Nat} {A W : List Int} (h : MapW w m g1 g2 a b c d e L N A W) (hb : Below w.heap.size w w') : MapW w' m g1 g2 a b c d e L N A W :=
  h.keep (hb.block _ h.lt.1) (hb.block _ h.lt.2.1) (hb.block _ h.lt.2.2)
structure Touch (g1 g2 : Nat) (w w' : World) : Prop where
  size : w.heap.size ≤ w'.heap.size
  far : ∀ g, g < w.heap.size → g ≠ g1 → g ≠ g2 → w'.heap[g]? = w.heap[g]?
  bel : ∀ B, B ≤ g1 → B ≤ g2 → B ≤ w.heap.size → Below B w w'
theorem Touch.of_below {g1 g2 : Nat} {w w' : World} (h : Below w.heap.size w w') : Touch g1 g2 w w' := ⟨h.size, fun g hg _ _ => h.block g hg, fun B _ _ hB => h.mono hB⟩
theorem Touch.trans {g1 g2 : Nat} {w w' w'' : World} (h : Touch g1 g2 w w') (k : Touch g1 g2 w' w'') : Touch g1 g2 w w'' :=
  ⟨Nat.le_trans h.size k.size, fun g hg h1 h2 => (k.far g (Nat.lt_of_lt_of_le hg h.size) h1 h2).trans (h.far g hg h1 h2), fun B h1 h2 h3 => (h.bel B h1 h2 h3).trans (k.bel B h1 h2 (Nat.le_trans h3 h.size))⟩
theorem Touch.set1 {g1 g2 : Nat} (w : World) (i : Nat) (u : Value) : Touch g1 g2 w (w.setCell ⟨g1, i, none⟩ u) :=
  ⟨((Below.refl (0 : Nat) w).setCell (p := ⟨g1, i, none⟩) (Nat.zero_le _) u).size, fun g _ h1 _ => Below.heap_setCell w _ u g h1, fun B h1 _ _ => (Below.refl B w).setCell (p := ⟨g1, i, none⟩) h1 u⟩
theorem Touch.set2 {g1 g2 : Nat} (w : World) (i : Nat) (u : Value) : Touch g1 g2 w (w.setCell ⟨g2, i, none⟩ u) :=
  ⟨((Below.refl (0 : Nat) w).setCell (p := ⟨g2, i, none⟩) (Nat.zero_le _) u).size, fun g _ _ h1 => Below.heap_setCell w _ u g h1, fun B _ h1 _ => (Below.refl B w).setCell (p := ⟨g2, i, none⟩) h1 u⟩
theorem MapW.both {w : World} {m g1 g2 : Nat} {a b c d e : Int} {L N : Nat} {A W A' W' : List Int} (h : MapW w m g1 g2 a b c d e L N A W) {i j : Nat} (hi : i < L) (hj : j < N) (u v : Int) (hA : A' = A.set i u) (hW : W' = W.set j v) (hI : InvM N A' W') :
    MapW ((w.setCell ⟨g2, j, none⟩ (.int .i64 v)).setCell ⟨g1, i, none⟩ (.int .i64 u)) m g1 g2 a b c d e L N A' W' := by
  obtain ⟨⟨c1, c2, hb⟩, rA, rW, n12, n1, n2, inv, len⟩ := h
  subst hA hW
  refine ⟨⟨c1, c2, (hb.far n2 _).far n1 _⟩, (rA.far n12 _).set_ (by rw [len]; exact hi) u, (rW.set_ (by rw [inv.len]; exact hj) v).far (fun h => n12 h.symm) _, n12, n1, n2, hI, by rw [List.length_set]; exact len⟩
theorem MapW.both' {w : World} {m g1 g2 : Nat} {a b c d e : Int} {L N : Nat} {A W A' W' : List Int} (h : MapW w m g1 g2 a b c d e L N A W) {i j : Nat} (hi : i < L) (hj : j < N) (u v : Int) (hA : A' = A.set i u) (hW : W' = W.set j v) (hI : InvM N A' W') :
    MapW ((w.setCell ⟨g1, i, none⟩ (.int .i64 u)).setCell ⟨g2, j, none⟩ (.int .i64 v)) m g1 g2 a b c d e L N A' W' := by
  obtain ⟨⟨c1, c2, hb⟩, rA, rW, n12, n1, n2, inv, len⟩ := h
  subst hA hW
  refine ⟨⟨c1, c2, (hb.far n1 _).far n2 _⟩, (rA.set_ (by rw [len]; exact hi) u).far n12 _, (rW.far (fun h => n12 h.symm) _).set_ (by rw [inv.len]; exact hj) v, n12, n1, n2, hI, by rw [List.length_set]; exact len⟩
theorem hasB_lo {A : List Int} {p : Int} (h : p < 0) : hasB A p = false := by
  unfold hasB
  rw [decide_eq_false (by omega : ¬ 0 ≤ p)]
  rfl
theorem hasB_hi {A : List Int} {p : Int} (h : ¬ p < (A.length : Int)) : hasB A p = false := by
  unfold hasB
  rw [decide_eq_false h, Bool.and_false]
  rfl
theorem hasB_no {A : List Int} {k : Nat} (hk : k < A.length) (h : A.getD k (-1) = -1) : hasB A (k : Int) = false := by
  unfold hasB
  rw [Int.toNat_natCast, (decide_eq_false (fun hh => hh h) : decide (A.getD k (-1) ≠ -1) = false), Bool.and_false]
theorem hasB_yes {A : List Int} {k : Nat} (hk : k < A.length) (h : A.getD k (-1) ≠ -1) : hasB A (k : Int) = true := by
  unfold hasB
  rw [Int.toNat_natCast, decide_eq_true h, decide_eq_true (by omega : (0 : Int) ≤ k), decide_eq_true (by omega : (k : Int) < A.length)]
  rfl
theorem numN {N : Nat} {A W : List Int} (h : InvM N A W) {k : Nat} (hk : k < A.length) (hz : A.getD k (-1) ≠ -1) : ∃ n : Nat, n < N ∧ A.getD k (-1) = (n : Int) := by
  have := h.rng k hk
  exact ⟨(A.getD k (-1)).toNat, by omega, by omega⟩
theorem hasB_out {A : List Int} {p : Int} (h : hasB A p = true) : ∃ k : Nat, p = (k : Int) ∧ k < A.length ∧ A.getD k (-1) ≠ -1 := by
  simp only [hasB, Bool.and_eq_true, decide_eq_true_eq] at h
  exact ⟨p.toNat, by omega, by omega, h.2⟩
theorem cell_far {w : World} {g i : Nat} {p : Addr} (h : g ≠ p.block) (u : Value) : (w.setCell p u).cell? ⟨g, i, none⟩ = w.cell? ⟨g, i, none⟩ := by
  simp only [World.cell?]
  rw [Below.heap_setCell w p u g h]
theorem MapW.like {w w' : World} {m g1 g2 : Nat} {a b c d e : Int} {L N : Nat} {A W : List Int} (h : MapW w m g1 g2 a b c d e L N A W) (e1 : w'.heap = w.heap) : MapW w' m g1 g2 a b c d e L N A W :=
  h.keep (by rw [e1]) (by rw [e1]) (by rw [e1])
theorem Touch.like {g1 g2 : Nat} {w w1 w2 : World} (h : Touch g1 g2 w w1) (e1 : w2.heap = w1.heap) (e2 : w2.os = w1.os) (e3 : w2.tape = w1.tape) (e4 : w2.output = w1.output) : Touch g1 g2 w w2 :=
  ⟨by rw [e1]; exact h.size, fun g hg h1 h2 => by rw [e1]; exact h.far g hg h1 h2, fun B h1 h2 h3 => ⟨e2.trans (h.bel B h1 h2 h3).os, e3.trans (h.bel B h1 h2 h3).tape, e4.trans (h.bel B h1 h2 h3).output, by rw [e1]; exact h.size, fun g hg => by rw [e1]; exact (h.bel B h1 h2 h3).block g hg⟩⟩
theorem Touch.refl {g1 g2 : Nat} (w : World) : Touch g1 g2 w w := Touch.of_below (Below.refl _ _)
theorem has_any (m g1 g2 : Nat) (a b c d e : Int) (L N : Nat) (A W : List Int) (p : Int) (w : World) (hM : MapW w m g1 g2 a b c d e L N A W) (hL : L ≤ 1000) :
    Calls Tryz.prog 151 #[.pointer (some ⟨m, 0, none⟩), .int .i64 p] w fun e' w' => e' = .returned (.bool (hasB A p)) ∧ w = w' := by
  obtain ⟨c1, c2, y0, y1, y2, y3, y4, y5, y6, ya, yb, fa, fb, fm⟩ := hM.get
  by_cases h1 : p < 0
  · rw [hasB_lo h1]
    clear ya yb fa fb fm hM
    go_enter Tryz.func151, Tryz.ntmps151
    go_wp2
    go_ret
    exact ⟨rfl, rfl⟩
  by_cases h3 : p < (L : Int)
  · obtain ⟨k, rfl⟩ : ∃ k : Nat, p = (k : Int) := ⟨p.toNat, by omega⟩
    have cz := ya k (by omega)
    have hk : k < A.length := by rw [hM.len]; omega
    by_cases h4 : A.getD k (-1) = -1
    · rw [hasB_no hk h4]
      rw [h4] at cz
      have i0 : (0 : Int) ≤ (k : Int) := by omega
      have i2 : k < L := by omega
      clear h4 hk ya yb fa fb fm hM h1
      go_enter Tryz.func151, Tryz.ntmps151
      go_wp2
      go_ret
      exact ⟨rfl, rfl⟩
    · rw [hasB_yes hk h4]
      obtain ⟨z, hz⟩ : ∃ z, A.getD k (-1) = z := ⟨_, rfl⟩
      rw [hz] at cz h4
      have i0 : (0 : Int) ≤ (k : Int) := by omega
      have i2 : k < L := by omega
      clear hz hk ya yb fa fb fm hM h1
      go_enter Tryz.func151, Tryz.ntmps151
      go_wp2
      go_ret
      exact ⟨congrArg (fun b => Ending.returned (Value.bool b)) (by simp [h4]), rfl⟩
  · rw [hasB_hi (by rw [hM.len]; exact h3)]
    clear ya yb fa fb fm hM
    have h2 : 0 ≤ p := by omega
    go_enter Tryz.func151, Tryz.ntmps151
    go_wp2
    go_ret
    exact ⟨rfl, rfl⟩
theorem has_b (m g1 g2 : Nat) (a b c d e : Int) (L N : Nat) (A W : List Int) (p : Int) (B : Bool) (w : World) (hM : MapW w m g1 g2 a b c d e L N A W) (hL : L ≤ 1000) (hB : hasB A p = B) :
    Calls Tryz.prog 151 #[.pointer (some ⟨m, 0, none⟩), .int .i64 p] w fun e' w' => e' = .returned (.bool B) ∧ w = w' := by
  rw [← hB]
  exact has_any m g1 g2 a b c d e L N A W p w hM hL
end Go.Proofs.YtkpcohfdcilfcaaGreat
namespace Go.Proofs.YtkpcohfdcilfcaaGreat
open Go.ChangeShapes Go.WideShapes Go.ChangeAt Go.RowKit
structure FlK where
  fm : Nat
  m : Nat
  gx : Nat
  gb : Nat
  km : Nat
  k1 : Nat
  k2 : Nat
  fr : Nat
  f1 : Nat
  f2 : Nat
  gt : Nat
  gw : Nat
  gs : Nat
  Af : Option Addr
  nf : Nat
  cf : Nat
  dat : List Nat
  wa : List (Option Addr × Nat)
def FlK.all (F : FlK) : List Nat := [F.fm, F.m, F.gx, F.gb, F.km, F.k1, F.k2, F.fr, F.f1, F.f2, F.gt, F.gw, F.gs]
def FlB (F : FlK) (g : Nat) : Prop := g ∈ F.all
def FlU (F : FlK) (g : Nat) : Prop := g ∈ F.all ∨ g ∈ F.dat
structure Wt where
  kind : Int
  dat : List Nat
structure FlS where
  ch : ChS
  cuts : Int
  degr : Bool
  seq : Int
  epoch : Int
  kA : List Int
  fA : List Int
  tr : List Bool
  cx : Int
  cy : Int
  sld : Bool
  wt : List Wt
  st : List Bool
def wtC (x : Wt) (a : Option Addr × Nat) : List Value := [.int .i64 x.kind, .slice a.1 x.dat.length a.2]
def wtV (wt : List Wt) (wa : List (Option Addr × Nat)) : List Value := (List.zipWith wtC wt wa).flatten
def DatW (w : World) (F : FlK) (x : Wt) (A : Option Addr × Nat) : Prop :=
  x.dat.length ≤ A.2 ∧ A.2 ≤ maxLen ∧ (x.dat = [] ∨ ∃ g, A.1 = some ⟨g, 0, none⟩ ∧ g ∈ F.dat ∧ ∀ i y, x.dat[i]? = some y → w.cell? ⟨g, i, none⟩ = some (byteV y))
structure FlW (w : World) (F : FlK) (a b c d e : Int) (fs : List Flt) (L N : Nat) (s : FlS) : Prop where
  box : Blk w F.fm 86 #[.pointer (some ⟨F.m, 0, none⟩), .int .i64 a, .int .i64 b, .int .i64 c, .int .i64 d, .int .i64 e, .int .i64 s.cuts, .bool s.degr, .int .i64 s.seq, .int .i64 s.epoch, .pointer (some ⟨F.km, 0, none⟩), .slice (some ⟨F.gt, 0, none⟩) L L, .pointer (some ⟨F.fr, 0, none⟩), .int .i64 s.cx, .int .i64 s.cy, .bool s.sld, .slice (some ⟨F.gw, 0, none⟩) L L, .slice (some ⟨F.gs, 0, none⟩) L L]
  chip : ChipW w F.m F.gx F.gb F.Af F.nf F.cf a b c d e fs s.ch
  kept : ∃ W, MapW w F.km F.k1 F.k2 a b c d e L N s.kA W
  fresh : ∃ W, MapW w F.fr F.f1 F.f2 a b c d e L N s.fA W
  tr : RowT w F.gt 4 (s.tr.map Value.bool)
  wt : RowT w F.gw 88 (wtV s.wt F.wa)
  st : RowT w F.gs 4 (s.st.map Value.bool)
  nd : F.all.Nodup
  lt : ∀ g, FlU F g → g < w.heap.size
  dj : ∀ g ∈ F.dat, g ∉ F.all
  fl : fs = [] ∨ ∃ g off, F.Af = some ⟨g, off, none⟩ ∧ g ∈ F.dat
  ltr : s.tr.length = L
  lwt : s.wt.length = L
  lwa : F.wa.length = L
  lst : s.st.length = L
  dw : ∀ (i : Nat) (x : Wt) (A : Option Addr × Nat), s.wt[i]? = some x → F.wa[i]? = some A → DatW w F x A
  may : mayB a b c d e = true
  hL : logicalI a b d = (L : Int)
  hN : (N : Int) = a * b
theorem cell_of_heap {w w' : World} {g : Nat} (h : w'.heap[g]? = w.heap[g]?) (o : Nat) : w'.cell? ⟨g, o, none⟩ = w.cell? ⟨g, o, none⟩ := by
  unfold World.cell?
  rw [h]
theorem below_dr (w : World) : Below w.heap.size w w.drew := below_dn (Below.refl w.heap.size w) 1
theorem RowT.keepb {w w' : World} {g : Nat} {t : TypeId} {xs : List Value} (h : RowT w g t xs) (hb : w'.heap[g]? = w.heap[g]?) : RowT w' g t xs := by
  obtain ⟨r, h⟩ := h
  exact ⟨r, hb.trans h⟩
theorem FlW.c0 {w : World} {F : FlK} {a b c d e : Int} {fs : List Flt} {L N : Nat} {s : FlS} (hF : FlW w F a b c d e fs L N s) : w.cell? ⟨F.fm, 0, none⟩ = some (.pointer (some ⟨F.m, 0, none⟩)) := by
  have := hF.box.cell_ 0
  simpa using this
theorem FlW.c1 {w : World} {F : FlK} {a b c d e : Int} {fs : List Flt} {L N : Nat} {s : FlS} (hF : FlW w F a b c d e fs L N s) : w.cell? ⟨F.fm, 1, none⟩ = some (.int .i64 a) := by
  have := hF.box.cell_ 1
  simpa using this
theorem FlW.c2 {w : World} {F : FlK} {a b c d e : Int} {fs : List Flt} {L N : Nat} {s : FlS} (hF : FlW w F a b c d e fs L N s) : w.cell? ⟨F.fm, 2, none⟩ = some (.int .i64 b) := by
  have := hF.box.cell_ 2
  simpa using this
theorem FlW.c3 {w : World} {F : FlK} {a b c d e : Int} {fs : List Flt} {L N : Nat} {s : FlS} (hF : FlW w F a b c d e fs L N s) : w.cell? ⟨F.fm, 3, none⟩ = some (.int .i64 c) := by
  have := hF.box.cell_ 3
  simpa using this
theorem FlW.c4 {w : World} {F : FlK} {a b c d e : Int} {fs : List Flt} {L N : Nat} {s : FlS} (hF : FlW w F a b c d e fs L N s) : w.cell? ⟨F.fm, 4, none⟩ = some (.int .i64 d) := by
  have := hF.box.cell_ 4
  simpa using this
theorem FlW.c5 {w : World} {F : FlK} {a b c d e : Int} {fs : List Flt} {L N : Nat} {s : FlS} (hF : FlW w F a b c d e fs L N s) : w.cell? ⟨F.fm, 5, none⟩ = some (.int .i64 e) := by
  have := hF.box.cell_ 5
  simpa using this
theorem FlW.c6 {w : World} {F : FlK} {a b c d e : Int} {fs : List Flt} {L N : Nat} {s : FlS} (hF : FlW w F a b c d e fs L N s) : w.cell? ⟨F.fm, 6, none⟩ = some (.int .i64 s.cuts) := by
  have := hF.box.cell_ 6
  simpa using this
theorem FlW.c7 {w : World} {F : FlK} {a b c d e : Int} {fs : List Flt} {L N : Nat} {s : FlS} (hF : FlW w F a b c d e fs L N s) : w.cell? ⟨F.fm, 7, none⟩ = some (.bool s.degr) := by
  have := hF.box.cell_ 7
  simpa using this
theorem FlW.c8 {w : World} {F : FlK} {a b c d e : Int} {fs : List Flt} {L N : Nat} {s : FlS} (hF : FlW w F a b c d e fs L N s) : w.cell? ⟨F.fm, 8, none⟩ = some (.int .i64 s.seq) := by
  have := hF.box.cell_ 8
  simpa using this
theorem FlW.c9 {w : World} {F : FlK} {a b c d e : Int} {fs : List Flt} {L N : Nat} {s : FlS} (hF : FlW w F a b c d e fs L N s) : w.cell? ⟨F.fm, 9, none⟩ = some (.int .i64 s.epoch) := by
  have := hF.box.cell_ 9
  simpa using this
theorem FlW.c10 {w : World} {F : FlK} {a b c d e : Int} {fs : List Flt} {L N : Nat} {s : FlS} (hF : FlW w F a b c d e fs L N s) : w.cell? ⟨F.fm, 10, none⟩ = some (.pointer (some ⟨F.km, 0, none⟩)) := by
  have := hF.box.cell_ 10
  simpa using this
theorem FlW.c11 {w : World} {F : FlK} {a b c d e : Int} {fs : List Flt} {L N : Nat} {s : FlS} (hF : FlW w F a b c d e fs L N s) : w.cell? ⟨F.fm, 11, none⟩ = some (.slice (some ⟨F.gt, 0, none⟩) L L) := by
  have := hF.box.cell_ 11
  simpa using this
theorem FlW.c12 {w : World} {F : FlK} {a b c d e : Int} {fs : List Flt} {L N : Nat} {s : FlS} (hF : FlW w F a b c d e fs L N s) : w.cell? ⟨F.fm, 12, none⟩ = some (.pointer (some ⟨F.fr, 0, none⟩)) := by
  have := hF.box.cell_ 12
  simpa using this
theorem FlW.c13 {w : World} {F : FlK} {a b c d e : Int} {fs : List Flt} {L N : Nat} {s : FlS} (hF : FlW w F a b c d e fs L N s) : w.cell? ⟨F.fm, 13, none⟩ = some (.int .i64 s.cx) := by
  have := hF.box.cell_ 13
  simpa using this
theorem FlW.c14 {w : World} {F : FlK} {a b c d e : Int} {fs : List Flt} {L N : Nat} {s : FlS} (hF : FlW w F a b c d e fs L N s) : w.cell? ⟨F.fm, 14, none⟩ = some (.int .i64 s.cy) := by
  have := hF.box.cell_ 14
  simpa using this
theorem FlW.c15 {w : World} {F : FlK} {a b c d e : Int} {fs : List Flt} {L N : Nat} {s : FlS} (hF : FlW w F a b c d e fs L N s) : w.cell? ⟨F.fm, 15, none⟩ = some (.bool s.sld) := by
  have := hF.box.cell_ 15
  simpa using this
theorem FlW.c16 {w : World} {F : FlK} {a b c d e : Int} {fs : List Flt} {L N : Nat} {s : FlS} (hF : FlW w F a b c d e fs L N s) : w.cell? ⟨F.fm, 16, none⟩ = some (.slice (some ⟨F.gw, 0, none⟩) L L) := by
  have := hF.box.cell_ 16
  simpa using this
theorem FlW.c17 {w : World} {F : FlK} {a b c d e : Int} {fs : List Flt} {L N : Nat} {s : FlS} (hF : FlW w F a b c d e fs L N s) : w.cell? ⟨F.fm, 17, none⟩ = some (.slice (some ⟨F.gs, 0, none⟩) L L) := by
  have := hF.box.cell_ 17
  simpa using this
theorem FlW.free {w : World} {F : FlK} {a b c d e : Int} {fs : List Flt} {L N : Nat} {s : FlS} (hF : FlW w F a b c d e fs L N s) (i : Nat) : w.frozen? ⟨F.fm, i, none⟩ = false := hF.box.free i
theorem FlW.blt {w : World} {F : FlK} {a b c d e : Int} {fs : List Flt} {L N : Nat} {s : FlS} (hF : FlW w F a b c d e fs L N s) {g : Nat} (h : FlB F g) : g < w.heap.size := hF.lt g (Or.inl h)
theorem flB_fm {F : FlK} : FlB F F.fm := by unfold FlB FlK.all; simp
theorem flB_m {F : FlK} : FlB F F.m := by unfold FlB FlK.all; simp
theorem flB_gx {F : FlK} : FlB F F.gx := by unfold FlB FlK.all; simp
theorem flB_gb {F : FlK} : FlB F F.gb := by unfold FlB FlK.all; simp
theorem flB_km {F : FlK} : FlB F F.km := by unfold FlB FlK.all; simp
theorem flB_k1 {F : FlK} : FlB F F.k1 := by unfold FlB FlK.all; simp
theorem flB_k2 {F : FlK} : FlB F F.k2 := by unfold FlB FlK.all; simp
theorem flB_fr {F : FlK} : FlB F F.fr := by unfold FlB FlK.all; simp
theorem flB_f1 {F : FlK} : FlB F F.f1 := by unfold FlB FlK.all; simp
theorem flB_f2 {F : FlK} : FlB F F.f2 := by unfold FlB FlK.all; simp
theorem flB_gt {F : FlK} : FlB F F.gt := by unfold FlB FlK.all; simp
theorem flB_gw {F : FlK} : FlB F F.gw := by unfold FlB FlK.all; simp
theorem flB_gs {F : FlK} : FlB F F.gs := by unfold FlB FlK.all; simp
theorem FlW.ne {w : World} {F : FlK} {a b c d e : Int} {fs : List Flt} {L N : Nat} {s : FlS} (hF : FlW w F a b c d e fs L N s) (i j : Nat) (hij : i < j := by decide) (hj : j < 13 := by decide) : F.all[i]'(by show i < 13; omega) ≠ F.all[j]'(by show j < 13; omega) :=
  List.pairwise_iff_getElem.1 hF.nd i j _ _ hij
theorem FlW.chipk {w w' : World} {F : FlK} {a b c d e : Int} {fs : List Flt} {L N : Nat} {s : FlS} (hF : FlW w F a b c d e fs L N s) (hz : w.heap.size ≤ w'.heap.size) (h1 : w'.heap[F.m]? = w.heap[F.m]?) (h2 : w'.heap[F.gx]? = w.heap[F.gx]?) (h3 : w'.heap[F.gb]? = w.heap[F.gb]?) (hd : ∀ g ∈ F.dat, w'.heap[g]? = w.heap[g]?) : ChipW w' F.m F.gx F.gb F.Af F.nf F.cf a b c d e fs s.ch := by
  have hC := hF.chip
  refine ⟨?_, hC.rX.keepb h2, hC.rK.keepb h3, ?_, hC.nx, hC.nb, hC.nxb, hC.lenX, hC.lenK, hC.nf, hC.may⟩
  · obtain ⟨q1, q2, q3, q4, q5, q6, q7, q8⟩ := hC.blk
    exact ⟨q1, q2, q3, q4, q5, q6, q7, h1.trans q8⟩
  · rcases hC.flt with h | ⟨g, off, hA, hl, n1, n2, n3, hq⟩
    · exact Or.inl h
    · rcases hF.fl with h | ⟨g', off', hA', hd'⟩
      · exact Or.inl h
      · rw [hA] at hA'
        cases hA'
        refine Or.inr ⟨g, off, hA, Nat.lt_of_lt_of_le hl hz, n1, n2, n3, fun k f hf => ?_⟩
        rw [cell_of_heap (hd g hd'), cell_of_heap (hd g hd'), cell_of_heap (hd g hd')]
        exact hq k f hf
theorem FlW.datk {w w' : World} {F : FlK} {a b c d e : Int} {fs : List Flt} {L N : Nat} {s : FlS} (hF : FlW w F a b c d e fs L N s) (hd : ∀ g ∈ F.dat, w'.heap[g]? = w.heap[g]?) : ∀ (i : Nat) (x : Wt) (A : Option Addr × Nat), s.wt[i]? = some x → F.wa[i]? = some A → DatW w' F x A := by
  intro i x A hx hA
  obtain ⟨d1, d2, d3⟩ := hF.dw i x A hx hA
  refine ⟨d1, d2, d3.imp id ?_⟩
  rintro ⟨g, e1, e2, e3⟩
  exact ⟨g, e1, e2, fun j y hy => (cell_of_heap (hd g e2) j).trans (e3 j y hy)⟩
theorem FlW.keep {w w' : World} {F : FlK} {a b c d e : Int} {fs : List Flt} {L N : Nat} {s : FlS} (hF : FlW w F a b c d e fs L N s) (hz : w.heap.size ≤ w'.heap.size) (hk : ∀ g, FlU F g → w'.heap[g]? = w.heap[g]?) : FlW w' F a b c d e fs L N s := by
  have hb : ∀ g, FlB F g → w'.heap[g]? = w.heap[g]? := fun g h => hk g (Or.inl h)
  have hc : ∀ g o, FlU F g → w'.cell? ⟨g, o, none⟩ = w.cell? ⟨g, o, none⟩ := fun g o h => cell_of_heap (hk g h) o
  obtain ⟨W1, h1⟩ := hF.kept
  obtain ⟨W2, h2⟩ := hF.fresh
  refine ⟨(hb _ flB_fm).trans hF.box, ?_, ⟨W1, h1.keep (hb _ flB_km) (hb _ flB_k1) (hb _ flB_k2)⟩, ⟨W2, h2.keep (hb _ flB_fr) (hb _ flB_f1) (hb _ flB_f2)⟩, hF.tr.keepb (hb _ flB_gt), hF.wt.keepb (hb _ flB_gw), hF.st.keepb (hb _ flB_gs), hF.nd, fun g h => Nat.lt_of_lt_of_le (hF.lt g h) hz, hF.dj, hF.fl, hF.ltr, hF.lwt, hF.lwa, hF.lst, ?_, hF.may, hF.hL, hF.hN⟩
  · exact hF.chipk hz (hb _ flB_m) (hb _ flB_gx) (hb _ flB_gb) (fun g h => hk g (Or.inr h))
  · exact hF.datk (fun g h => hk g (Or.inr h))
theorem FlW.below {w w' : World} {F : FlK} {a b c d e : Int} {fs : List Flt} {L N : Nat} {s : FlS} (hF : FlW w F a b c d e fs L N s) (hb : Below w.heap.size w w') : FlW w' F a b c d e fs L N s := hF.keep hb.size (fun g h => hb.block g (hF.lt g h))
theorem FlW.far {w w' : World} {F : FlK} {a b c d e : Int} {fs : List Flt} {L N : Nat} {s : FlS} (hF : FlW w F a b c d e fs L N s) {S : Nat → Prop} (hT : Tch S w w') (hs : ∀ g, FlU F g → ¬ S g) : FlW w' F a b c d e fs L N s := hF.keep hT.size (fun g h => hT.far g (hF.lt g h) (hs g h))
theorem FlW.like {w w' : World} {F : FlK} {a b c d e : Int} {fs : List Flt} {L N : Nat} {s : FlS} (hF : FlW w F a b c d e fs L N s) (he : w'.heap = w.heap := by rfl) : FlW w' F a b c d e fs L N s := hF.keep (by rw [he]; exact Nat.le_refl _) (fun g _ => by rw [he])
theorem FlW.drew_ {w : World} {F : FlK} {a b c d e : Int} {fs : List Flt} {L N : Nat} {s : FlS} (hF : FlW w F a b c d e fs L N s) : FlW w.drew F a b c d e fs L N s := hF.like
theorem flB_chip {F : FlK} {g : Nat} (h : chB F.m F.gx F.gb g) : FlB F g := by
  rcases h with rfl | rfl | rfl
  · exact flB_m
  · exact flB_gx
  · exact flB_gb
theorem FlW.chip_ {w w' : World} {F : FlK} {a b c d e : Int} {fs : List Flt} {L N : Nat} {s : FlS} (hF : FlW w F a b c d e fs L N s) {S : ChS} (hC : ChipW w' F.m F.gx F.gb F.Af F.nf F.cf a b c d e fs S) (hT : Tch (chB F.m F.gx F.gb) w w') : FlW w' F a b c d e fs L N { s with ch := S } := by
  have nd := hF.nd
  unfold FlK.all at nd
  simp only [List.nodup_cons, List.mem_cons, List.not_mem_nil, or_false, not_or] at nd
  obtain ⟨⟨n1, n2, n3, -⟩, ⟨m1, m2, m3⟩, ⟨x1, x2⟩, b1, -⟩ := nd
  have hne : ∀ g, FlB F g → g ≠ F.m → g ≠ F.gx → g ≠ F.gb → w'.heap[g]? = w.heap[g]? := fun g h q1 q2 q3 => hT.far g (hF.blt h) (fun e => by rcases e with e | e | e <;> contradiction)
  have hdt : ∀ g ∈ F.dat, w'.heap[g]? = w.heap[g]? := fun g h => hT.far g (hF.lt g (Or.inr h)) (fun e => hF.dj g h (flB_chip e))
  obtain ⟨W1, h1⟩ := hF.kept
  obtain ⟨W2, h2⟩ := hF.fresh
  have q : ∀ g, (g = F.fm ∨ g = F.km ∨ g = F.k1 ∨ g = F.k2 ∨ g = F.fr ∨ g = F.f1 ∨ g = F.f2 ∨ g = F.gt ∨ g = F.gw ∨ g = F.gs) → w'.heap[g]? = w.heap[g]? := by
    intro g hg
    refine hT.far g (hF.blt (by rcases hg with h | h | h | h | h | h | h | h | h | h <;> subst h <;> unfold FlB FlK.all <;> simp)) ?_
    rintro (e | e | e) <;> subst e <;> rcases hg with h | h | h | h | h | h | h | h | h | h <;> simp_all
  refine ⟨(q _ (by simp)).trans hF.box, hC, ⟨W1, h1.keep (q _ (by simp)) (q _ (by simp)) (q _ (by simp))⟩, ⟨W2, h2.keep (q _ (by simp)) (q _ (by simp)) (q _ (by simp))⟩, hF.tr.keepb (q _ (by simp)), hF.wt.keepb (q _ (by simp)), hF.st.keepb (q _ (by simp)), hF.nd, fun g h => Nat.lt_of_lt_of_le (hF.lt g h) hT.size, hF.dj, hF.fl, hF.ltr, hF.lwt, hF.lwa, hF.lst, ?_, hF.may, hF.hL, hF.hN⟩
  intro i x A hx hA
  obtain ⟨d1, d2, d3⟩ := hF.dw i x A hx hA
  refine ⟨d1, d2, d3.imp id ?_⟩
  rintro ⟨g, e1, e2, e3⟩
  exact ⟨g, e1, e2, fun j y hy => (cell_of_heap (hdt g e2) j).trans (e3 j y hy)⟩
end Go.Proofs.YtkpcohfdcilfcaaGreat
namespace Go.Proofs.YtkpcohfdcilfcaaGreat
open Go.ChangeShapes Go.WideShapes Go.ChangeAt Go.RowKit
attribute [local go_sem ↓] Go.wp_at_zero Go.wp_at_succ
def goodB (a : Int) (fs : List Flt) (s : ChS) (B : Int) : Bool := !badB fs B && !failedB a fs s B
def failC (a : Int) (fs : List Flt) (s : ChS) (k : Nat) : Nat := (List.range k).countP fun (i : Nat) => !goodB a fs s (i : Int)
theorem failC_succ (a : Int) (fs : List Flt) (s : ChS) (k : Nat) : failC a fs s (k + 1) = failC a fs s k + if goodB a fs s (k : Int) then 0 else 1 := by
  unfold failC
  rw [List.range_succ, List.countP_append]
  cases h : goodB a fs s (k : Int) <;> simp [h]
theorem failC_le (a : Int) (fs : List Flt) (s : ChS) (k : Nat) : failC a fs s k ≤ k := by
  unfold failC
  exact Nat.le_trans List.countP_le_length (by simp)
theorem tch_bel {S : Nat → Prop} {w w' : World} (h : Below w.heap.size w w') : Tch S w w' := .of_below h
theorem good_b (F : FlK) (a b c d e : Int) (fs : List Flt) (L N : Nat) (s : FlS) (B : Int) (w : World) (hF : FlW w F a b c d e fs L N s) (T : Bool) (hT : goodB a fs s.ch B = T) :
    Calls Tryz.prog 139 #[.pointer (some ⟨F.fm, 0, none⟩), .int .i64 B] w fun e' w' => e' = .returned (.bool T) ∧ Below w.heap.size w w' := by
  have k0 := hF.c0
  subst hT
  unfold goodB
  rcases (by cases hb : badB fs B <;> simp : badB fs B = true ∨ badB fs B = false) with hb | hb
  · rw [hb]
    go_enter Tryz.func139, Tryz.ntmps139
    go_wp2_with (first | (go_at_call 53; ((with_reducible refine (bad_any F.m F.gx F.gb F.Af F.nf F.cf a b c d e fs B _ s.ch hF.chip).mono ?_); rintro e' w1 ⟨e1, b1⟩; subst e1; rw [hb]; have HB := b1; have hG := hF.below b1; have k0 := hG.c0)) | (go_at_call 54; ((with_reducible refine (failed_any F.m F.gx F.gb F.Af F.nf F.cf a b c d e fs B _ s.ch hG.chip).mono ?_); rintro e' w2 ⟨rfl, b2⟩; have HB := btr HB HB.size b2)))
    go_ret
    exact ⟨by simp [hb], HB⟩
  · rw [hb]
    go_enter Tryz.func139, Tryz.ntmps139
    go_wp2_with (first | (go_at_call 53; ((with_reducible refine (bad_any F.m F.gx F.gb F.Af F.nf F.cf a b c d e fs B _ s.ch hF.chip).mono ?_); rintro e' w1 ⟨e1, b1⟩; subst e1; rw [hb]; have HB := b1; have hG := hF.below b1; have k0 := hG.c0)) | (go_at_call 54; ((with_reducible refine (failed_any F.m F.gx F.gb F.Af F.nf F.cf a b c d e fs B _ s.ch hG.chip).mono ?_); rintro e' w2 ⟨rfl, b2⟩; have HB := btr HB HB.size b2)))
    go_ret
    exact ⟨by simp [hb], HB⟩
theorem failed_n (F : FlK) (a b c d e : Int) (fs : List Flt) (L N : Nat) (s : FlS) (w : World) (hF : FlW w F a b c d e fs L N s) (n : Nat) (hn : failC a fs s.ch a.toNat = n) :
    Calls Tryz.prog 98 #[.pointer (some ⟨F.fm, 0, none⟩)] w fun e' w' => e' = .returned (.int .i64 (n : Int)) ∧ Below w.heap.size w w' := by
  have k1 := hF.c1
  have hm := hF.may
  obtain ⟨ha1, ha2, -⟩ := may_bd hm
  have HM := Lib.hid hm
  have HN := Lib.hid hn
  clear hm hn
  go_enter Tryz.func98, Tryz.ntmps98
  go_wp2_with fail
  go_loopw [3, 10] (fun nv i wr => ∃ k q : Nat, (k : Int) ≤ a ∧ i = .int .i64 k ∧ nv = .int .i64 q ∧ Hid (failC a fs s.ch k = q) ∧ q ≤ k ∧ Below w.heap.size w wr) (fun _ i _ => a.toNat - (intOf i).toNat)
  case atStart => exact ⟨0, 0, by omega, rfl, rfl, Lib.hid rfl, by omega, Below.refl _ _⟩
  case round =>
    obtain ⟨k, q, hk, rfl, rfl, HC, hq, HB⟩ := hrel
    have hG := hF.below HB
    by_cases hlt : (k : Int) < a
    · obtain ⟨T, hT⟩ : ∃ T, goodB a fs s.ch (k : Int) = T := ⟨_, rfl⟩
      have HT := Lib.hid hT
      have HX : Hid (failC a fs s.ch (k + 1) = q + if T then 0 else 1) := Lib.hid (by rw [failC_succ, HC.out, hT])
      clear hT
      cases T
      · go_wp2_with ((go_at_call 139; ((with_reducible refine (good_b F a b c d e fs L N s _ _ hG _ HT.out).mono ?_); rintro e' w1 ⟨rfl, b1⟩; have HB := btr HB HB.size b1)))
        go_roundw
        case rel => exact ⟨k + 1, q + 1, by omega, by go_num, by go_num, Lib.hid (by rw [HX.out]; rfl), by omega, HB⟩
        case measure => simp [intOf]; omega
      · go_wp2_with ((go_at_call 139; ((with_reducible refine (good_b F a b c d e fs L N s _ _ hG _ HT.out).mono ?_); rintro e' w1 ⟨rfl, b1⟩; have HB := btr HB HB.size b1)))
        go_roundw
        case rel => exact ⟨k + 1, q, by omega, by go_num, rfl, Lib.hid (by rw [HX.out]; rfl), by omega, HB⟩
        case measure => simp [intOf]; omega
    · have hka : k = a.toNat := by omega
      have hnq : q = n := by rw [← HC.out, hka, HN.out]
      subst hnq
      go_wp2_with fail
      go_ret
      exact ⟨rfl, HB⟩
theorem FlW.put {w w' : World} {F : FlK} {a b c d e : Int} {fs : List Flt} {L N : Nat} {s s' : FlS} (hF : FlW w F a b c d e fs L N s) (hT : Tch (fun g => g = F.fm) w w') (hB : Blk w' F.fm 86 #[.pointer (some ⟨F.m, 0, none⟩), .int .i64 a, .int .i64 b, .int .i64 c, .int .i64 d, .int .i64 e, .int .i64 s'.cuts, .bool s'.degr, .int .i64 s'.seq, .int .i64 s'.epoch, .pointer (some ⟨F.km, 0, none⟩), .slice (some ⟨F.gt, 0, none⟩) L L, .pointer (some ⟨F.fr, 0, none⟩), .int .i64 s'.cx, .int .i64 s'.cy, .bool s'.sld, .slice (some ⟨F.gw, 0, none⟩) L L, .slice (some ⟨F.gs, 0, none⟩) L L])
    (h1 : s'.ch = s.ch := by rfl) (h2 : s'.kA = s.kA := by rfl) (h3 : s'.fA = s.fA := by rfl) (h4 : s'.tr = s.tr := by rfl) (h5 : s'.wt = s.wt := by rfl) (h6 : s'.st = s.st := by rfl) : FlW w' F a b c d e fs L N s' := by
  have q : ∀ g, FlU F g → g ≠ F.fm → w'.heap[g]? = w.heap[g]? := fun g h hne => hT.far g (hF.lt g h) (fun e => hne e)
  obtain ⟨W1, q1⟩ := hF.kept
  obtain ⟨W2, q2⟩ := hF.fresh
  have hd : ∀ g ∈ F.dat, g ≠ F.fm := fun g h e => hF.dj g h (e ▸ flB_fm)
  have Q := fun g (h : FlB F g) (hne : F.fm ≠ g) => q g (Or.inl h) (fun e => hne e.symm)
  have hdq : ∀ g ∈ F.dat, w'.heap[g]? = w.heap[g]? := fun g h => q g (Or.inr h) (hd g h)
  refine ⟨hB, ?_, ⟨W1, ?_⟩, ⟨W2, ?_⟩, ?_, ?_, ?_, hF.nd, fun g h => Nat.lt_of_lt_of_le (hF.lt g h) hT.size, hF.dj, hF.fl, by rw [h4]; exact hF.ltr, by rw [h5]; exact hF.lwt, hF.lwa, by rw [h6]; exact hF.lst, by rw [h5]; exact hF.datk hdq, hF.may, hF.hL, hF.hN⟩
  · rw [h1]
    exact hF.chipk hT.size (Q _ flB_m (hF.ne 0 1)) (Q _ flB_gx (hF.ne 0 2)) (Q _ flB_gb (hF.ne 0 3)) hdq
  · rw [h2]
    exact q1.keep (Q _ flB_km (hF.ne 0 4)) (Q _ flB_k1 (hF.ne 0 5)) (Q _ flB_k2 (hF.ne 0 6))
  · rw [h3]
    exact q2.keep (Q _ flB_fr (hF.ne 0 7)) (Q _ flB_f1 (hF.ne 0 8)) (Q _ flB_f2 (hF.ne 0 9))
  · rw [h4]
    exact hF.tr.keepb (Q _ flB_gt (hF.ne 0 10))
  · rw [h5]
    exact hF.wt.keepb (Q _ flB_gw (hF.ne 0 11))
  · rw [h6]
    exact hF.st.keepb (Q _ flB_gs (hF.ne 0 12))
def FlS.over (s : FlS) (a d : Int) (fs : List Flt) : Bool := s.degr || decide (d < (failC a fs s.ch a.toNat : Int))
theorem FlW.setDegr {w : World} {F : FlK} {a b c d e : Int} {fs : List Flt} {L N : Nat} {s : FlS} (hF : FlW w F a b c d e fs L N s) (v : Bool) : FlW (w.setCell ⟨F.fm, 7, none⟩ (.bool v)) F a b c d e fs L N { s with degr := v } ∧ Tch (FlB F) w (w.setCell ⟨F.fm, 7, none⟩ (.bool v)) := by
  have hT : Tch (fun g => g = F.fm) w (w.setCell ⟨F.fm, 7, none⟩ (.bool v)) := Tch.setm w F.fm 7 _
  exact ⟨hF.put hT (by have := hF.box.set_ 7 (.bool v); simpa using this), hT.mono (fun g h => by rw [h]; exact flB_fm)⟩
theorem overdue_any (F : FlK) (a b c d e : Int) (fs : List Flt) (L N : Nat) (s : FlS) (w : World) (hF : FlW w F a b c d e fs L N s) (T : Bool) (hT : s.over a d fs = T) :
    Calls Tryz.prog 63 #[.pointer (some ⟨F.fm, 0, none⟩)] w fun e' w' => e' = .returned (.bool T) ∧ FlW w' F a b c d e fs L N { s with degr := T } ∧ Tch (FlB F) w w' := by
  have hD := hF.drew_
  have k4 := hD.c4
  have k7 := hD.c7
  have fz := hF.free 7
  have fzD := hD.free 7
  unfold FlS.over at hT
  obtain ⟨dg, hdg⟩ : ∃ x, s.degr = x := ⟨_, rfl⟩
  have HDG := Lib.hid hdg
  rw [hdg] at k7 hT
  cases dg
  · obtain ⟨n, hn⟩ : ∃ n, failC a fs s.ch a.toNat = n := ⟨_, rfl⟩
    rw [hn] at hT
    have HN := Lib.hid hn
    rw [Bool.false_or] at hT
    subst hT
    clear hn hdg
    go_enter Tryz.func63, Tryz.ntmps63
    go_upto_region 1 with fail
    refine wp_region_noPanic ?_
    refine wp_region_held_drew (S := (fun w_ => w_.cell? ⟨F.fm, 4, none⟩ = some (.int .i64 d))) (by kernel_rfl) ?_ (fun hHeld => ?_)
    · (first | with_reducible exact k4 | with_reducible exact j4 | exact hS.1.c4 | assumption)
    refine tk 0 ?_; try simp only [Act.put, pz1, pz2, pz3]
    refine tk 1 ?_; try simp only [Act.put, pz1, pz2, pz3]
    refine tk 2 ?_; try simp only [Act.put, pz1, pz2, pz3]
    refine tk 3 ?_; try simp only [Act.put, pz1, pz2, pz3]
    refine wpAnyH_ready (rs := [4]) (by kernel_rfl) (by simp) ?_
    refine AllReadyH.cons (o := ⟨some 7, .load 4 (.tmp 6), 4, "clear.go:28", #[⟨3, .data⟩], none⟩) rfl (fun K hK => ?_) AllReadyH.nil
    go_simp
    refine hK.out _ _ ?_ (fun hNew => ?_)
    · (first | with_reducible exact k4 | with_reducible exact j4 | exact hS.1.c4 | assumption)
    clear hK K hHeld
    have hHeld := hNew
    clear hNew
    try simp only [Act.put, pz1, pz2, pz3]
    refine tk 5 ?_; try simp only [Act.put, pz1, pz2, pz3]
    refine tk 6 ?_; try simp only [Act.put, pz1, pz2, pz3]
    refine tk 8 ?_; try simp only [Act.put, pz1, pz2, pz3]
    refine tk 9 ?_; try simp only [Act.put, pz1, pz2, pz3]
    refine tk 10 ?_; try simp only [Act.put, pz1, pz2, pz3]
    refine tk 11 ?_; try simp only [Act.put, pz1, pz2, pz3]
    refine tk 12 ?_; try simp only [Act.put, pz1, pz2, pz3]
    refine wpAnyH_ready (rs := [7]) (by kernel_rfl) (by simp) ?_
    refine AllReadyH.cons (o := ⟨some 10, .call { callee := .value (.func 98), args := #[.tmp 9], argTypes := #[28] }, 3, "clear.go:28", #[⟨6, .data⟩, ⟨5, .chain⟩, ⟨5, .guard⟩], some (5, false)⟩) rfl (fun K hK => ?_) AllReadyH.nil
    go_simp
    (go_at_call 98; ((with_reducible refine (failed_n F a b c d e fs L N s _ hD _ HN.out).mono ?_); rintro e' w1 ⟨rfl, b1⟩; have hG := hD.below b1; have fz1 := hG.free 7; have j4 := hG.c4; have j7 := hG.c7; rw [HDG.out] at j7; have hS := hG.setDegr (decide (d < (n : Int))); have k7s := hS.1.c7))
    go_wp2_with fail
    refine hK.out _ _ ?_ (fun hNew => ?_)
    · (first | with_reducible exact k4 | with_reducible exact j4 | exact hS.1.c4 | assumption)
    clear hK K hHeld
    have hHeld := hNew
    clear hNew
    try simp only [Act.put, pz1, pz2, pz3]
    refine tk 13 ?_; try simp only [Act.put, pz1, pz2, pz3]
    refine tk 14 ?_; try simp only [Act.put, pz1, pz2, pz3]
    refine tk 15 ?_; try simp only [Act.put, pz1, pz2, pz3]
    refine tk 16 ?_; try simp only [Act.put, pz1, pz2, pz3]
    refine wpAnyH_ready (rs := [17]) (by kernel_rfl) (by simp) ?_
    refine AllReadyH.cons (o := ⟨none, .store 4 (.tmp 19) (.tmp 17), 0, "clear.go:28", #[⟨16, .data⟩, ⟨14, .data⟩, ⟨7, .chain⟩, ⟨0, .phase⟩, ⟨1, .phase⟩, ⟨2, .phase⟩, ⟨3, .phase⟩, ⟨4, .phase⟩, ⟨5, .phase⟩, ⟨6, .phase⟩, ⟨7, .phase⟩, ⟨8, .phase⟩, ⟨9, .phase⟩, ⟨10, .phase⟩, ⟨11, .phase⟩, ⟨12, .phase⟩, ⟨13, .phase⟩, ⟨14, .phase⟩], none⟩) rfl (fun K hK => ?_) AllReadyH.nil
    go_simp
    refine hK.out _ _ ?_ (fun hNew => ?_)
    · (first | with_reducible exact k4 | with_reducible exact j4 | exact hS.1.c4 | assumption)
    clear hK K hHeld
    have hHeld := hNew
    clear hNew
    try simp only [Act.put, pz1, pz2, pz3]
    refine wpAnyH_done (by kernel_rfl) ?_ _
    refine NoPanic.normal ?_
    go_wp2_with fail
    go_ret
    exact ⟨rfl, hS.1.like, (((tch_bel (below_dr w)).trans (tch_bel b1)).trans hS.2).like⟩
  · obtain rfl : T = true := by rw [← hT]; simp
    have hS := hF.setDegr true
    have k7s := hS.1.c7
    clear hT hdg
    go_enter Tryz.func63, Tryz.ntmps63
    go_upto_region 1 with fail
    refine wp_region_noPanic ?_
    refine wp_region_held_drew (S := (fun w_ => w_.cell? ⟨F.fm, 4, none⟩ = some (.int .i64 d))) (by kernel_rfl) ?_ (fun hHeld => ?_)
    · (first | with_reducible exact k4 | with_reducible exact j4 | exact hS.1.c4 | assumption)
    refine tk 0 ?_; try simp only [Act.put, pz1, pz2, pz3]
    refine tk 1 ?_; try simp only [Act.put, pz1, pz2, pz3]
    refine tk 2 ?_; try simp only [Act.put, pz1, pz2, pz3]
    refine tk 3 ?_; try simp only [Act.put, pz1, pz2, pz3]
    refine wpAnyH_ready (rs := [4]) (by kernel_rfl) (by simp) ?_
    refine AllReadyH.cons (o := ⟨some 7, .load 4 (.tmp 6), 4, "clear.go:28", #[⟨3, .data⟩], none⟩) rfl (fun K hK => ?_) AllReadyH.nil
    go_simp
    refine hK.out _ _ ?_ (fun hNew => ?_)
    · (first | with_reducible exact k4 | with_reducible exact j4 | exact hS.1.c4 | assumption)
    clear hK K hHeld
    have hHeld := hNew
    clear hNew
    try simp only [Act.put, pz1, pz2, pz3]
    refine tk 5 ?_; try simp only [Act.put, pz1, pz2, pz3]
    refine tu 6 ?_
    try simp only [Act.put, pz1, pz2, pz3]
    refine tu 7 ?_
    try simp only [Act.put, pz1, pz2, pz3]
    refine tu 8 ?_
    try simp only [Act.put, pz1, pz2, pz3]
    refine tu 9 ?_
    try simp only [Act.put, pz1, pz2, pz3]
    refine tu 10 ?_
    try simp only [Act.put, pz1, pz2, pz3]
    refine tu 11 ?_
    try simp only [Act.put, pz1, pz2, pz3]
    refine tu 12 ?_
    try simp only [Act.put, pz1, pz2, pz3]
    refine tu 13 ?_
    try simp only [Act.put, pz1, pz2, pz3]
    refine tk 14 ?_; try simp only [Act.put, pz1, pz2, pz3]
    refine tk 15 ?_; try simp only [Act.put, pz1, pz2, pz3]
    refine tk 16 ?_; try simp only [Act.put, pz1, pz2, pz3]
    refine wpAnyH_ready (rs := [17]) (by kernel_rfl) (by simp) ?_
    refine AllReadyH.cons (o := ⟨none, .store 4 (.tmp 19) (.tmp 17), 0, "clear.go:28", #[⟨16, .data⟩, ⟨14, .data⟩, ⟨7, .chain⟩, ⟨0, .phase⟩, ⟨1, .phase⟩, ⟨2, .phase⟩, ⟨3, .phase⟩, ⟨4, .phase⟩, ⟨5, .phase⟩, ⟨6, .phase⟩, ⟨7, .phase⟩, ⟨8, .phase⟩, ⟨9, .phase⟩, ⟨10, .phase⟩, ⟨11, .phase⟩, ⟨12, .phase⟩, ⟨13, .phase⟩, ⟨14, .phase⟩], none⟩) rfl (fun K hK => ?_) AllReadyH.nil
    go_simp
    refine hK.out _ _ ?_ (fun hNew => ?_)
    · (first | with_reducible exact k4 | with_reducible exact j4 | exact hS.1.c4 | assumption)
    clear hK K hHeld
    have hHeld := hNew
    clear hNew
    try simp only [Act.put, pz1, pz2, pz3]
    refine wpAnyH_done (by kernel_rfl) ?_ _
    refine NoPanic.normal ?_
    go_wp2_with fail
    go_ret
    exact ⟨rfl, hS.1.like, hS.2.like⟩
theorem watch_any (F : FlK) (a b c d e : Int) (fs : List Flt) (L N : Nat) (s : FlS) (w : World) (hF : FlW w F a b c d e fs L N s) (T : Bool) (hT : s.over a d fs = T) (z : Int) (hz : (if T then 12 else 0) = z) :
    Calls Tryz.prog 145 #[.pointer (some ⟨F.fm, 0, none⟩)] w fun e' w' => e' = .returned (.int .i64 z) ∧ FlW w' F a b c d e fs L N { s with degr := T } ∧ Tch (FlB F) w w' := by
  have HT := Lib.hid hT
  clear hT
  subst hz
  cases T
  · skip
    go_enter Tryz.func145, Tryz.ntmps145
    go_wp2_with ((go_at_call 63; ((with_reducible refine (overdue_any F a b c d e fs L N s _ hF _ HT.out).mono ?_); rintro e' w1 ⟨rfl, hG, hTc⟩; skip)))
    go_ret
    exact ⟨rfl, hG, hTc⟩
  · skip
    go_enter Tryz.func145, Tryz.ntmps145
    go_wp2_with ((go_at_call 63; ((with_reducible refine (overdue_any F a b c d e fs L N s _ hF _ HT.out).mono ?_); rintro e' w1 ⟨rfl, hG, hTc⟩; skip)))
    go_ret
    exact ⟨rfl, hG, hTc⟩
end Go.Proofs.YtkpcohfdcilfcaaGreat
namespace Go.Proofs.YtkpcohfdcilfcaaGreat
open Go.ChangeShapes Go.WideShapes Go.ChangeAt Go.RowKit
theorem place_any (m g1 g2 : Nat) (a b c d e : Int) (L N : Nat) (A W : List Int) (n : Nat) (w : World) (hM : MapW w m g1 g2 a b c d e L N A W) (hb : 1 ≤ b) (hb2 : b ≤ 100) (hn : n ≤ 10000) :
    Calls Tryz.prog 152 #[.pointer (some ⟨m, 0, none⟩), .int .i64 (n : Int)] w fun e' w' => e' = .returned (.agg #[.int .i64 ((n : Int) / b), .int .i64 ((n : Int) % b)]) ∧ Below w.heap.size w w' := by
  obtain ⟨c1, c2, y0, y1, y2, y3, y4, y5, y6, ya, yb, fa, fb, fm⟩ := hM.get
  have hlt := hM.lt.1
  have h8 : IntKind.i64.wrap ((n : Int) / b) = (n : Int) / b := wrapSM _ (by have := Int.ediv_nonneg (a := (n : Int)) (b := b) (by omega) (by omega); omega) (by have := Int.ediv_le_self (b := b) (show 0 ≤ (n : Int) by omega); omega)
  have h0 : 0 ≤ (n : Int) := by omega
  have hnn : (n : Int) ≤ 10000 := by omega
  have h1 : (n : Int).tdiv b = (n : Int) / b := Int.tdiv_eq_ediv_of_nonneg h0
  have h2 : (n : Int).tmod b = (n : Int) % b := Int.tmod_eq_emod_of_nonneg h0
  have h3 : 0 ≤ (n : Int) / b := Int.ediv_nonneg h0 (by omega)
  have h4 : (n : Int) / b ≤ (n : Int) := Int.ediv_le_self _ h0
  have h5 : 0 ≤ (n : Int) % b := Int.emod_nonneg _ (by omega)
  have h6 : (n : Int) % b < b := Int.emod_lt_of_pos _ (by omega)
  have h7 : ¬ b = 0 := by omega
  clear y0 y2 y3 y4 y5 y6 ya yb fa fb hM
  go_enter Tryz.func152, Tryz.ntmps152
  go_upto_region 1 with fail
  refine wp_region_noPanic ?_
  refine wp_region_held_drew (S := (fun w' => w'.cell? ⟨m, 1, none⟩ = some (.int .i64 b))) (by kernel_rfl) ?_ (fun hHeld => ?_)
  · (first | exact (Below.cell (p := ⟨m, 1, none⟩) ((Below.refl w.heap.size w).alloc (Nat.le_refl _) _).drew hlt).trans y1 | exact (Below.cell (p := ⟨m, 1, none⟩) ((Below.refl w.heap.size w).alloc (Nat.le_refl _) _) hlt).trans y1 | assumption)
  refine tk 0 ?_; try simp only [Act.put, pz1, pz2, pz3]
  refine tk 1 ?_; try simp only [Act.put, pz1, pz2, pz3]
  refine tk 2 ?_; try simp only [Act.put, pz1, pz2, pz3]
  refine tk 3 ?_; try simp only [Act.put, pz1, pz2, pz3]
  refine tk 4 ?_; try simp only [Act.put, pz1, pz2, pz3]
  refine tk 5 ?_; try simp only [Act.put, pz1, pz2, pz3]
  refine tk 6 ?_; try simp only [Act.put, pz1, pz2, pz3]
  refine tk 7 ?_; try simp only [Act.put, pz1, pz2, pz3]
  refine tk 8 ?_; try simp only [Act.put, pz1, pz2, pz3]
  refine tk 9 ?_; try simp only [Act.put, pz1, pz2, pz3]
  refine tk 10 ?_; try simp only [Act.put, pz1, pz2, pz3]
  refine tk 11 ?_; try simp only [Act.put, pz1, pz2, pz3]
  refine tk 12 ?_; try simp only [Act.put, pz1, pz2, pz3]
  refine tk 13 ?_; try simp only [Act.put, pz1, pz2, pz3]
  refine tk 14 ?_; try simp only [Act.put, pz1, pz2, pz3]
  refine wpAnyH_ready (rs := [15]) (by kernel_rfl) (by simp) ?_
  refine AllReadyH.cons (o := ⟨none, .store 68 (.tmp 4) (.tmp 19), 0, "maps.go:33", #[⟨14, .data⟩, ⟨0, .phase⟩, ⟨1, .phase⟩, ⟨2, .phase⟩, ⟨3, .phase⟩, ⟨4, .phase⟩, ⟨5, .phase⟩, ⟨6, .phase⟩, ⟨7, .phase⟩, ⟨8, .phase⟩, ⟨9, .phase⟩, ⟨10, .phase⟩, ⟨11, .phase⟩, ⟨12, .phase⟩, ⟨13, .phase⟩, ⟨14, .phase⟩], none⟩) rfl (fun K hK => ?_) AllReadyH.nil
  go_simp
  skip
  refine hK.out _ _ ?_ (fun hNew => ?_)
  · (first | exact (Below.cell (p := ⟨m, 1, none⟩) ((Below.refl w.heap.size w).alloc (Nat.le_refl _) _).drew hlt).trans y1 | exact (Below.cell (p := ⟨m, 1, none⟩) ((Below.refl w.heap.size w).alloc (Nat.le_refl _) _) hlt).trans y1 | assumption)
  clear hK K hHeld
  have hHeld := hNew
  clear hNew
  try simp only [Act.put, pz1, pz2, pz3]
  refine wpAnyH_done (by kernel_rfl) ?_ _
  refine NoPanic.normal ?_
  go_wp2_with fail
  refine bodyPost_ret (v := .agg #[.int .i64 ((n : Int) / b), .int .i64 ((n : Int) % b)]) (by simp [results, Tryz.results152, go_sem, h8]) rfl ⟨rfl, ?_⟩
  exact ((Below.refl _ _).alloc (Nat.le_refl _) _).drew
theorem drop_no (m g1 g2 : Nat) (a b c d e : Int) (L N : Nat) (A W : List Int) (p : Int) (w : World) (hM : MapW w m g1 g2 a b c d e L N A W) (hL : L ≤ 1000) (hh : hasB A p = false) :
    Calls Tryz.prog 136 #[.pointer (some ⟨m, 0, none⟩), .int .i64 p] w fun e' w' => e' = .returned (.bool false) ∧ w = w' := by
  have HH := Lib.hid hh
  clear hh
  go_enter Tryz.func136, Tryz.ntmps136
  go_wp2_with (go_at_call 151; ((with_reducible refine (has_b _ _ _ _ _ _ _ _ _ _ _ _ _ _ _ hM hL HH.out).mono ?_); rintro e' wN ⟨rfl, rfl⟩; skip))
  go_ret
  exact ⟨rfl, rfl⟩
theorem drop_yes (m g1 g2 : Nat) (a b c d e : Int) (L N : Nat) (A W : List Int) (k n : Nat) (w : World) (hM : MapW w m g1 g2 a b c d e L N A W) (hL : L ≤ 1000) (hN : N ≤ 1000) (hk : k < L) (hn : n < N) (hz : A.getD k (-1) = (n : Int)) :
    Calls Tryz.prog 136 #[.pointer (some ⟨m, 0, none⟩), .int .i64 (k : Int)] w fun e' w' => e' = .returned (.bool true) ∧ MapW w' m g1 g2 a b c d e L N (A.set k (-1)) (W.set n (-1)) ∧ Touch g1 g2 w w' := by
  obtain ⟨c1, c2, y0, y1, y2, y3, y4, y5, y6, ya, yb, fa, fb, fm⟩ := hM.get
  have cz := ya k hk
  rw [hz] at cz
  have cw := yb n hn
  have fw := fb n
  have n12 := hM.n12
  have n2 := hM.n2
  have k5 := (cell_far (w := w) (i := 5) (p := ⟨g2, n, none⟩) n2 (.int .i64 (-1))).trans y5
  have k6 := (cell_far (w := w) (i := 6) (p := ⟨g2, n, none⟩) n2 (.int .i64 (-1))).trans y6
  have kz := (cell_far (w := w) (i := k) (p := ⟨g2, n, none⟩) n12 (.int .i64 (-1))).trans cz
  have fz := fa k
  have HB := hM.both hk hn (-1) (-1) rfl rfl (hM.inv.drop (by rw [hM.len]; exact hk) hn hz)
  have HT := (Touch.set2 (g1 := g1) (g2 := g2) w n (.int .i64 (-1))).trans (Touch.set1 _ k (.int .i64 (-1)))
  have HH : Hid (hasB A (k : Int) = true) := Lib.hid (hasB_yes (by rw [hM.len]; exact hk) (by rw [hz]; omega))
  have i0 : (0 : Int) ≤ (k : Int) := by omega
  have j0 : (0 : Int) ≤ (n : Int) := by omega
  clear y0 y1 y2 y3 y4 ya yb fa fb hz
  go_enter Tryz.func136, Tryz.ntmps136
  go_upto_region 3 with (go_at_call 151; ((with_reducible refine (has_b _ _ _ _ _ _ _ _ _ _ _ _ _ _ _ hM hL HH.out).mono ?_); rintro e' wN ⟨rfl, rfl⟩; skip))
  refine wp_region_noPanic ?_
  refine wp_region_held_drew (S := (fun w' => w'.cell? ⟨m, 5, none⟩ = some (.slice (some ⟨g1, 0, none⟩) L c1) ∧ w'.cell? ⟨m, 6, none⟩ = some (.slice (some ⟨g2, 0, none⟩) N c2) ∧ w'.cell? ⟨g1, k, none⟩ = some (.int .i64 (n : Int)))) (by kernel_rfl) ?_ (fun hHeld => ?_)
  · (first | exact ⟨y5, y6, cz⟩ | exact ⟨k5, k6, kz⟩ | assumption)
  refine tk 0 ?_; try simp only [Act.put, pz1, pz2, pz3]
  refine tk 1 ?_; try simp only [Act.put, pz1, pz2, pz3]
  refine tk 2 ?_; try simp only [Act.put, pz1, pz2, pz3]
  refine tk 3 ?_; try simp only [Act.put, pz1, pz2, pz3]
  refine tk 4 ?_; try simp only [Act.put, pz1, pz2, pz3]
  refine tk 5 ?_; try simp only [Act.put, pz1, pz2, pz3]
  refine tk 6 ?_; try simp only [Act.put, pz1, pz2, pz3]
  refine tk 7 ?_; try simp only [Act.put, pz1, pz2, pz3]
  refine tk 8 ?_; try simp only [Act.put, pz1, pz2, pz3]
  refine tk 9 ?_; try simp only [Act.put, pz1, pz2, pz3]
  refine tk 10 ?_; try simp only [Act.put, pz1, pz2, pz3]
  refine tk 11 ?_; try simp only [Act.put, pz1, pz2, pz3]
  refine wpAnyH_ready (rs := [12]) (by kernel_rfl) (by simp) ?_
  refine AllReadyH.cons (o := ⟨none, .store 3 (.tmp 20) (.const (.int .i64 (-1))), 0, "maps.go:61", #[⟨11, .data⟩, ⟨0, .phase⟩, ⟨1, .phase⟩, ⟨2, .phase⟩, ⟨3, .phase⟩, ⟨4, .phase⟩, ⟨5, .phase⟩, ⟨6, .phase⟩, ⟨7, .phase⟩, ⟨8, .phase⟩, ⟨9, .phase⟩, ⟨10, .phase⟩], none⟩) rfl (fun K hK => ?_) AllReadyH.nil
  go_simp
  skip
  refine hK.out _ _ ?_ (fun hNew => ?_)
  · (first | exact ⟨y5, y6, cz⟩ | exact ⟨k5, k6, kz⟩ | assumption)
  clear hK K hHeld
  have hHeld := hNew
  clear hNew
  try simp only [Act.put, pz1, pz2, pz3]
  refine wpAnyH_done (by kernel_rfl) ?_ _
  refine NoPanic.normal ?_
  go_wp2_with fail
  go_ret
  exact ⟨rfl, HB.like rfl, HT.like rfl rfl rfl rfl⟩
theorem at_no (m g1 g2 : Nat) (a b c d e : Int) (L N : Nat) (A W : List Int) (p : Int) (w : World) (hM : MapW w m g1 g2 a b c d e L N A W) (hL : L ≤ 1000) (hh : hasB A p = false) :
    Calls Tryz.prog 113 #[.pointer (some ⟨m, 0, none⟩), .int .i64 p] w fun e' w' => e' = .returned (.tuple #[.agg #[.int .i64 0, .int .i64 0], .bool false]) ∧ Below w.heap.size w w' := by
  have HH := Lib.hid hh
  clear hh
  have hM := hM.below ((Below.refl _ _).alloc (Nat.le_refl _) (.cells #[.int .i64 0, .int .i64 0] 68))
  go_enter Tryz.func113, Tryz.ntmps113
  go_wp2_with (go_at_call 151; ((with_reducible refine (has_b _ _ _ _ _ _ _ _ _ _ _ _ _ _ _ hM hL HH.out).mono ?_); rintro e' wN ⟨rfl, rfl⟩; skip))
  refine bodyPost_ret (v := .tuple #[.agg #[.int .i64 0, .int .i64 0], .bool false]) (by simp [results, Tryz.results113, go_sem]) rfl ⟨rfl, ?_⟩
  exact (Below.refl _ _).alloc (Nat.le_refl _) _
theorem at_yes (m g1 g2 : Nat) (a b c d e : Int) (L N : Nat) (A W : List Int) (k n : Nat) (w : World) (hM : MapW w m g1 g2 a b c d e L N A W) (hL : L ≤ 1000) (hN : N ≤ 1000) (hb : 1 ≤ b) (hb2 : b ≤ 100) (hk : k < L) (hn : n < N) (hz : A.getD k (-1) = (n : Int)) :
    Calls Tryz.prog 113 #[.pointer (some ⟨m, 0, none⟩), .int .i64 (k : Int)] w fun e' w' => e' = .returned (.tuple #[.agg #[.int .i64 ((n : Int) / b), .int .i64 ((n : Int) % b)], .bool true]) ∧ Below w.heap.size w w' := by
  have HH : Hid (hasB A (k : Int) = true) := Lib.hid (hasB_yes (by rw [hM.len]; exact hk) (by rw [hz]; omega))
  have HB0 : Below w.heap.size w (w.alloc (.cells #[.int .i64 0, .int .i64 0] 68)) := (Below.refl _ _).alloc (Nat.le_refl _) _
  have G1 : Blk (w.alloc (.cells #[.int .i64 0, .int .i64 0] 68)) w.heap.size 68 #[.int .i64 0, .int .i64 0] := Blk.new_ _ _ _
  have hM := hM.below HB0
  obtain ⟨c1, c2, y0, y1, y2, y3, y4, y5, y6, ya, yb, fa, fb, fm⟩ := hM.get
  have cz := ya k hk
  rw [hz] at cz
  have i0 : (0 : Int) ≤ (k : Int) := by omega
  have hn' : n ≤ 10000 := by omega
  clear y0 y1 y2 y3 y4 y6 ya yb fa fb hz hn
  go_enter Tryz.func113, Tryz.ntmps113
  go_wp2_with (first
    | (go_at_call 151; ((with_reducible refine (has_b _ _ _ _ _ _ _ _ _ _ _ _ _ _ _ hM hL HH.out).mono ?_); rintro e' wN ⟨rfl, rfl⟩; skip))
    | (go_at_call 152; ((with_reducible refine (place_any _ _ _ _ _ _ _ _ _ _ _ _ n _ hM hb hb2 hn').mono ?_); rintro e' wP ⟨rfl, hb9⟩; have HB0 := btr HB0 HB0.size hb9; have G1 := G1.below hb9 G1.lt; have z0 := G1.cell_ 0; have z1 := G1.cell_ 1; have zf := G1.free; simp at z0 z1 zf)))
  refine bodyPost_ret (v := .tuple #[.agg #[.int .i64 ((n : Int) / b), .int .i64 ((n : Int) % b)], .bool true]) (by simp [results, Tryz.results113, go_sem, z0, z1]) rfl ⟨rfl, ?_⟩
  exact ((HB0.setCell (p := ⟨w.heap.size, 0, none⟩) (Nat.le_refl _) _).setCell (p := ⟨w.heap.size, 1, none⟩) (Nat.le_refl _) _)
end Go.Proofs.YtkpcohfdcilfcaaGreat
namespace Go.Proofs.YtkpcohfdcilfcaaGreat
open Go.ChangeShapes Go.WideShapes Go.ChangeAt Go.RowKit
theorem undrewM {w w' : World} (h : Below w.drew.heap.size w.drew w') : Below w.heap.size w w' := ⟨h.os, h.tape, h.output, h.size, h.block⟩
theorem num_b (a b c d e x y n : Int) (w : World) (hm : Hid (mayB a b c d e = true)) (hn : Hid (numberI a b x y = n)) :
    Calls Tryz.prog 115 #[.agg #[.int .i64 a, .int .i64 b, .int .i64 c, .int .i64 d, .int .i64 e], .agg #[.int .i64 x, .int .i64 y]] w fun e' w' => e' = .returned (.int .i64 n) ∧ Below w.heap.size w w' := by
  have q := Number_any a b c d e x y w
  rwa [ifMay_yes _ hm.out, hn.out] at q
def whoB (a b : Int) (A : List Int) (x y : Int) : Bool := thereB a b x y && decide (whoI A (x * b + y) ≠ -1)
def whoR (a b : Int) (A : List Int) (x y : Int) : Int := if whoB a b A x y then whoI A (x * b + y) else 0
theorem number_no {a b x y : Int} (h : thereB a b x y = false) : numberI a b x y = -1 := by simp [numberI, h]
theorem number_yesM {a b x y : Int} (h : thereB a b x y = true) : numberI a b x y = x * b + y := by simp [numberI, h]
theorem who_out (m g1 g2 : Nat) (a b c d e : Int) (L N : Nat) (A W : List Int) (x y : Int) (w : World) (hM : MapW w m g1 g2 a b c d e L N A W) (HM : Hid (mayB a b c d e = true)) (hN : N ≤ 1000) (hh : thereB a b x y = false) :
    Calls Tryz.prog 138 #[.pointer (some ⟨m, 0, none⟩), .agg #[.int .i64 x, .int .i64 y]] w fun e' w' => e' = .returned (.tuple #[.int .i64 0, .bool false]) ∧ Below w.heap.size w w' := by
  have hn : Hid (numberI a b x y = -1) := Lib.hid (number_no hh)
  clear hh
  have HB0 : Below w.heap.size w (w.alloc (.cells #[.int .i64 x, .int .i64 y] 68)) := (Below.refl _ _).alloc (Nat.le_refl _) _
  have G1 : Blk (w.alloc (.cells #[.int .i64 x, .int .i64 y] 68)) w.heap.size 68 #[.int .i64 x, .int .i64 y] := Blk.new_ _ _ _
  have z0 : (w.alloc (.cells #[.int .i64 x, .int .i64 y] 68)).cell? ⟨w.heap.size, 0, none⟩ = some (.int .i64 x) := G1.cell_ 0
  have z1 : (w.alloc (.cells #[.int .i64 x, .int .i64 y] 68)).cell? ⟨w.heap.size, 1, none⟩ = some (.int .i64 y) := G1.cell_ 1
  have hM := hM.below HB0
  obtain ⟨c1, c2, y0, y1, y2, y3, y4, y5, y6, ya, yb, fa, fb, fm⟩ := hM.get
  go_enter Tryz.func138, Tryz.ntmps138
  go_upto_region 3 with fail
  refine wp_region_noPanic ?_
  refine wp_region_held_drew (S := (fun w' => w'.cell? ⟨m, 0, none⟩ = some (.int .i64 a) ∧ w'.cell? ⟨m, 1, none⟩ = some (.int .i64 b) ∧ w'.cell? ⟨m, 2, none⟩ = some (.int .i64 c) ∧ w'.cell? ⟨m, 3, none⟩ = some (.int .i64 d) ∧ w'.cell? ⟨m, 4, none⟩ = some (.int .i64 e) ∧ w'.cell? ⟨w.heap.size, 0, none⟩ = some (.int .i64 x) ∧ w'.cell? ⟨w.heap.size, 1, none⟩ = some (.int .i64 y))) (by kernel_rfl) ?_ (fun hHeld => ?_)
  · (first | exact ⟨y0, y1, y2, y3, y4, z0, z1⟩ | assumption)
  refine tk 0 ?_; try simp only [Act.put, pz1, pz2, pz3]
  refine tk 1 ?_; try simp only [Act.put, pz1, pz2, pz3]
  refine tk 2 ?_; try simp only [Act.put, pz1, pz2, pz3]
  refine tk 3 ?_; try simp only [Act.put, pz1, pz2, pz3]
  refine tk 4 ?_; try simp only [Act.put, pz1, pz2, pz3]
  refine wpAnyH_ready (rs := [5]) (by kernel_rfl) (by simp) ?_
  refine AllReadyH.cons (o := ⟨some 14, .call { callee := .value (.func 115), args := #[.tmp 12, .tmp 13], argTypes := #[23, 68] }, 3, "maps.go:79", #[⟨3, .data⟩, ⟨4, .data⟩], none⟩) rfl (fun K hK => ?_) AllReadyH.nil
  go_simp
  (go_at_call 115; ((with_reducible refine (num_b _ _ _ _ _ _ _ _ _ HM hn).mono ?_); rintro e' wN ⟨rfl, hb⟩; have hb := undrewM hb; have hM := hM.below hb; have HB0 := btr HB0 HB0.size hb; have G1 := G1.below hb G1.lt; clear y0 y1 y2 y3 y4 y5 y6 ya yb fa fb fm z0 z1; obtain ⟨c1, c2, y0, y1, y2, y3, y4, y5, y6, ya, yb, fa, fb, fm⟩ := hM.get; have z0 := G1.cell_ 0; have z1 := G1.cell_ 1; simp at z0 z1))
  go_wp2_with fail
  refine hK.out _ _ ?_ (fun hNew => ?_)
  · (first | exact ⟨y0, y1, y2, y3, y4, z0, z1⟩ | assumption)
  clear hK K hHeld
  have hHeld := hNew
  clear hNew
  try simp only [Act.put, pz1, pz2, pz3]
  refine tk 6 ?_; try simp only [Act.put, pz1, pz2, pz3]
  refine wpAnyH_done (by kernel_rfl) ?_ _
  refine NoPanic.normal ?_
  go_wp2_with fail
  go_ret2
  exact ⟨rfl, HB0⟩
theorem who_in (m g1 g2 : Nat) (a b c d e : Int) (L N : Nat) (A W : List Int) (x y : Int) (n : Nat) (z : Int) (w : World) (hM : MapW w m g1 g2 a b c d e L N A W) (HM : Hid (mayB a b c d e = true)) (hN : N ≤ 1000) (hh : thereB a b x y = true) (hxy : x * b + y = (n : Int)) (hnN : n < N) (hz : whoI A (n : Int) = z) (hz1 : z ≠ -1) :
    Calls Tryz.prog 138 #[.pointer (some ⟨m, 0, none⟩), .agg #[.int .i64 x, .int .i64 y]] w fun e' w' => e' = .returned (.tuple #[.int .i64 z, .bool true]) ∧ Below w.heap.size w w' := by
  have hn : Hid (numberI a b x y = (n : Int)) := Lib.hid ((number_yesM hh).trans hxy)
  have hzq : (z == -1) = false := by simp [hz1]
  have hwz : Hid (W.getD n (-1) = z) := Lib.hid ((hM.inv.who n hnN).trans hz)
  have i0 : (0 : Int) ≤ (n : Int) := by omega
  have i1 : (n : Int) < (N : Int) := by omega
  clear hh hxy hz
  have HB0 : Below w.heap.size w (w.alloc (.cells #[.int .i64 x, .int .i64 y] 68)) := (Below.refl _ _).alloc (Nat.le_refl _) _
  have G1 : Blk (w.alloc (.cells #[.int .i64 x, .int .i64 y] 68)) w.heap.size 68 #[.int .i64 x, .int .i64 y] := Blk.new_ _ _ _
  have z0 : (w.alloc (.cells #[.int .i64 x, .int .i64 y] 68)).cell? ⟨w.heap.size, 0, none⟩ = some (.int .i64 x) := G1.cell_ 0
  have z1 : (w.alloc (.cells #[.int .i64 x, .int .i64 y] 68)).cell? ⟨w.heap.size, 1, none⟩ = some (.int .i64 y) := G1.cell_ 1
  have hM := hM.below HB0
  obtain ⟨c1, c2, y0, y1, y2, y3, y4, y5, y6, ya, yb, fa, fb, fm⟩ := hM.get
  go_enter Tryz.func138, Tryz.ntmps138
  go_upto_region 3 with fail
  refine wp_region_noPanic ?_
  refine wp_region_held_drew (S := (fun w' => w'.cell? ⟨m, 0, none⟩ = some (.int .i64 a) ∧ w'.cell? ⟨m, 1, none⟩ = some (.int .i64 b) ∧ w'.cell? ⟨m, 2, none⟩ = some (.int .i64 c) ∧ w'.cell? ⟨m, 3, none⟩ = some (.int .i64 d) ∧ w'.cell? ⟨m, 4, none⟩ = some (.int .i64 e) ∧ w'.cell? ⟨w.heap.size, 0, none⟩ = some (.int .i64 x) ∧ w'.cell? ⟨w.heap.size, 1, none⟩ = some (.int .i64 y))) (by kernel_rfl) ?_ (fun hHeld => ?_)
  · (first | exact ⟨y0, y1, y2, y3, y4, z0, z1⟩ | assumption)
  refine tk 0 ?_; try simp only [Act.put, pz1, pz2, pz3]
  refine tk 1 ?_; try simp only [Act.put, pz1, pz2, pz3]
  refine tk 2 ?_; try simp only [Act.put, pz1, pz2, pz3]
  refine tk 3 ?_; try simp only [Act.put, pz1, pz2, pz3]
  refine tk 4 ?_; try simp only [Act.put, pz1, pz2, pz3]
  refine wpAnyH_ready (rs := [5]) (by kernel_rfl) (by simp) ?_
  refine AllReadyH.cons (o := ⟨some 14, .call { callee := .value (.func 115), args := #[.tmp 12, .tmp 13], argTypes := #[23, 68] }, 3, "maps.go:79", #[⟨3, .data⟩, ⟨4, .data⟩], none⟩) rfl (fun K hK => ?_) AllReadyH.nil
  go_simp
  (go_at_call 115; ((with_reducible refine (num_b _ _ _ _ _ _ _ _ _ HM hn).mono ?_); rintro e' wN ⟨rfl, hb⟩; have hb := undrewM hb; have hM := hM.below hb; have HB0 := btr HB0 HB0.size hb; have G1 := G1.below hb G1.lt; clear y0 y1 y2 y3 y4 y5 y6 ya yb fa fb fm z0 z1; obtain ⟨c1, c2, y0, y1, y2, y3, y4, y5, y6, ya, yb, fa, fb, fm⟩ := hM.get; have z0 := G1.cell_ 0; have z1 := G1.cell_ 1; simp at z0 z1))
  go_wp2_with fail
  refine hK.out _ _ ?_ (fun hNew => ?_)
  · (first | exact ⟨y0, y1, y2, y3, y4, z0, z1⟩ | assumption)
  clear hK K hHeld
  have hHeld := hNew
  clear hNew
  try simp only [Act.put, pz1, pz2, pz3]
  refine tk 6 ?_; try simp only [Act.put, pz1, pz2, pz3]
  refine wpAnyH_done (by kernel_rfl) ?_ _
  refine NoPanic.normal ?_
  have cw := yb n hnN
  rw [hwz.out] at cw
  clear ya yb fa
  go_wp2_with fail
  go_ret2
  exact ⟨rfl, HB0⟩
theorem who_in_no (m g1 g2 : Nat) (a b c d e : Int) (L N : Nat) (A W : List Int) (x y : Int) (n : Nat) (w : World) (hM : MapW w m g1 g2 a b c d e L N A W) (HM : Hid (mayB a b c d e = true)) (hN : N ≤ 1000) (hh : thereB a b x y = true) (hxy : x * b + y = (n : Int)) (hnN : n < N) (hz : whoI A (n : Int) = -1) :
    Calls Tryz.prog 138 #[.pointer (some ⟨m, 0, none⟩), .agg #[.int .i64 x, .int .i64 y]] w fun e' w' => e' = .returned (.tuple #[.int .i64 0, .bool false]) ∧ Below w.heap.size w w' := by
  have hn : Hid (numberI a b x y = (n : Int)) := Lib.hid ((number_yesM hh).trans hxy)
  have hwz : Hid (W.getD n (-1) = -1) := Lib.hid ((hM.inv.who n hnN).trans hz)
  have i0 : (0 : Int) ≤ (n : Int) := by omega
  have i1 : (n : Int) < (N : Int) := by omega
  clear hh hxy hz
  have HB0 : Below w.heap.size w (w.alloc (.cells #[.int .i64 x, .int .i64 y] 68)) := (Below.refl _ _).alloc (Nat.le_refl _) _
  have G1 : Blk (w.alloc (.cells #[.int .i64 x, .int .i64 y] 68)) w.heap.size 68 #[.int .i64 x, .int .i64 y] := Blk.new_ _ _ _
  have z0 : (w.alloc (.cells #[.int .i64 x, .int .i64 y] 68)).cell? ⟨w.heap.size, 0, none⟩ = some (.int .i64 x) := G1.cell_ 0
  have z1 : (w.alloc (.cells #[.int .i64 x, .int .i64 y] 68)).cell? ⟨w.heap.size, 1, none⟩ = some (.int .i64 y) := G1.cell_ 1
  have hM := hM.below HB0
  obtain ⟨c1, c2, y0, y1, y2, y3, y4, y5, y6, ya, yb, fa, fb, fm⟩ := hM.get
  go_enter Tryz.func138, Tryz.ntmps138
  go_upto_region 3 with fail
  refine wp_region_noPanic ?_
  refine wp_region_held_drew (S := (fun w' => w'.cell? ⟨m, 0, none⟩ = some (.int .i64 a) ∧ w'.cell? ⟨m, 1, none⟩ = some (.int .i64 b) ∧ w'.cell? ⟨m, 2, none⟩ = some (.int .i64 c) ∧ w'.cell? ⟨m, 3, none⟩ = some (.int .i64 d) ∧ w'.cell? ⟨m, 4, none⟩ = some (.int .i64 e) ∧ w'.cell? ⟨w.heap.size, 0, none⟩ = some (.int .i64 x) ∧ w'.cell? ⟨w.heap.size, 1, none⟩ = some (.int .i64 y))) (by kernel_rfl) ?_ (fun hHeld => ?_)
  · (first | exact ⟨y0, y1, y2, y3, y4, z0, z1⟩ | assumption)
  refine tk 0 ?_; try simp only [Act.put, pz1, pz2, pz3]
  refine tk 1 ?_; try simp only [Act.put, pz1, pz2, pz3]
  refine tk 2 ?_; try simp only [Act.put, pz1, pz2, pz3]
  refine tk 3 ?_; try simp only [Act.put, pz1, pz2, pz3]
  refine tk 4 ?_; try simp only [Act.put, pz1, pz2, pz3]
  refine wpAnyH_ready (rs := [5]) (by kernel_rfl) (by simp) ?_
  refine AllReadyH.cons (o := ⟨some 14, .call { callee := .value (.func 115), args := #[.tmp 12, .tmp 13], argTypes := #[23, 68] }, 3, "maps.go:79", #[⟨3, .data⟩, ⟨4, .data⟩], none⟩) rfl (fun K hK => ?_) AllReadyH.nil
  go_simp
  (go_at_call 115; ((with_reducible refine (num_b _ _ _ _ _ _ _ _ _ HM hn).mono ?_); rintro e' wN ⟨rfl, hb⟩; have hb := undrewM hb; have hM := hM.below hb; have HB0 := btr HB0 HB0.size hb; have G1 := G1.below hb G1.lt; clear y0 y1 y2 y3 y4 y5 y6 ya yb fa fb fm z0 z1; obtain ⟨c1, c2, y0, y1, y2, y3, y4, y5, y6, ya, yb, fa, fb, fm⟩ := hM.get; have z0 := G1.cell_ 0; have z1 := G1.cell_ 1; simp at z0 z1))
  go_wp2_with fail
  refine hK.out _ _ ?_ (fun hNew => ?_)
  · (first | exact ⟨y0, y1, y2, y3, y4, z0, z1⟩ | assumption)
  clear hK K hHeld
  have hHeld := hNew
  clear hNew
  try simp only [Act.put, pz1, pz2, pz3]
  refine tk 6 ?_; try simp only [Act.put, pz1, pz2, pz3]
  refine wpAnyH_done (by kernel_rfl) ?_ _
  refine NoPanic.normal ?_
  have cw := yb n hnN
  rw [hwz.out] at cw
  clear ya yb fa
  go_wp2_with fail
  go_ret2
  exact ⟨rfl, HB0⟩
theorem who_any (m g1 g2 : Nat) (a b c d e : Int) (L N : Nat) (A W : List Int) (x y : Int) (w : World) (hM : MapW w m g1 g2 a b c d e L N A W) (HM : Hid (mayB a b c d e = true)) (hN : N ≤ 1000) (hab : (N : Int) = a * b) :
    Calls Tryz.prog 138 #[.pointer (some ⟨m, 0, none⟩), .agg #[.int .i64 x, .int .i64 y]] w fun e' w' => e' = .returned (.tuple #[.int .i64 (whoR a b A x y), .bool (whoB a b A x y)]) ∧ Below w.heap.size w w' := by
  cases hh : thereB a b x y
  · have h1 : whoB a b A x y = false := by simp [whoB, hh]
    have h2 : whoR a b A x y = 0 := by simp [whoR, h1]
    rw [h1, h2]
    exact who_out m g1 g2 a b c d e L N A W x y w hM HM hN hh
  · have hb := may_bd HM.out
    obtain ⟨p1, p2⟩ := num_bd hh (by omega)
    obtain ⟨n, hn⟩ : ∃ n : Nat, x * b + y = (n : Int) := ⟨(x * b + y).toNat, by omega⟩
    have hnN : n < N := by omega
    by_cases hz : whoI A (n : Int) = -1
    · have h1 : whoB a b A x y = false := by
        unfold whoB
        rw [hn, hz]
        simp
      have h2 : whoR a b A x y = 0 := by simp [whoR, h1]
      rw [h1, h2]
      exact who_in_no m g1 g2 a b c d e L N A W x y n w hM HM hN hh hn hnN hz
    · have h1 : whoB a b A x y = true := by
        unfold whoB
        rw [hn, hh, decide_eq_true hz]
        rfl
      have h2 : whoR a b A x y = whoI A (n : Int) := by
        unfold whoR
        rw [h1, hn]
        rfl
      rw [h1, h2]
      exact who_in m g1 g2 a b c d e L N A W x y n _ w hM HM hN hh hn hnN rfl hz
end Go.Proofs.YtkpcohfdcilfcaaGreat
namespace Go.Proofs.YtkpcohfdcilfcaaGreat
open Go.ChangeShapes Go.WideShapes Go.ChangeAt Go.RowKit
theorem put_short (m g1 g2 : Nat) (a b c d e : Int) (L N : Nat) (A W : List Int) (p x y : Int) (w : World) (hM : MapW w m g1 g2 a b c d e L N A W) (hL : L ≤ 1000) (hh : p < 0 ∨ (L : Int) ≤ p) :
    Calls Tryz.prog 92 #[.pointer (some ⟨m, 0, none⟩), .int .i64 p, .agg #[.int .i64 x, .int .i64 y]] w fun e' w' => e' = .returned (.bool false) ∧ Below w.heap.size w w' := by
  have HB0 : Below w.heap.size w (w.alloc (.cells #[.int .i64 x, .int .i64 y] 68)) := (Below.refl _ _).alloc (Nat.le_refl _) _
  have G1 : Blk (w.alloc (.cells #[.int .i64 x, .int .i64 y] 68)) w.heap.size 68 #[.int .i64 x, .int .i64 y] := Blk.new_ _ _ _
  have z0 : (w.alloc (.cells #[.int .i64 x, .int .i64 y] 68)).cell? ⟨w.heap.size, 0, none⟩ = some (.int .i64 x) := G1.cell_ 0
  have z1 : (w.alloc (.cells #[.int .i64 x, .int .i64 y] 68)).cell? ⟨w.heap.size, 1, none⟩ = some (.int .i64 y) := G1.cell_ 1
  have hM := hM.below HB0
  obtain ⟨c1, c2, y0, y1, y2, y3, y4, y5, y6, ya, yb, fa, fb, fm⟩ := hM.get
  clear ya yb fa fb
  rcases hh with hh | hh
  · go_enter Tryz.func92, Tryz.ntmps92
    go_wp2_with fail
    go_ret
    exact ⟨rfl, HB0⟩
  · have h0 : 0 ≤ p := by omega
    have h1 : ¬ p < (L : Int) := by omega
    go_enter Tryz.func92, Tryz.ntmps92
    go_wp2_with fail
    go_ret
    exact ⟨rfl, HB0⟩
theorem put_out (m g1 g2 : Nat) (a b c d e : Int) (L N : Nat) (A W : List Int) (k : Nat) (x y : Int) (w : World) (hM : MapW w m g1 g2 a b c d e L N A W) (HM : Hid (mayB a b c d e = true)) (hL : L ≤ 1000) (hN : N ≤ 1000) (hk : k < L) (hh : thereB a b x y = false) :
    Calls Tryz.prog 92 #[.pointer (some ⟨m, 0, none⟩), .int .i64 (k : Int), .agg #[.int .i64 x, .int .i64 y]] w fun e' w' => e' = .returned (.bool false) ∧ Below w.heap.size w w' := by
  have hn : Hid (numberI a b x y = -1) := Lib.hid (number_no hh)
  have i0 : (0 : Int) ≤ (k : Int) := by omega
  have i1 : (k : Int) < (L : Int) := by omega
  clear hh
  have HB0 : Below w.heap.size w (w.alloc (.cells #[.int .i64 x, .int .i64 y] 68)) := (Below.refl _ _).alloc (Nat.le_refl _) _
  have G1 : Blk (w.alloc (.cells #[.int .i64 x, .int .i64 y] 68)) w.heap.size 68 #[.int .i64 x, .int .i64 y] := Blk.new_ _ _ _
  have z0 : (w.alloc (.cells #[.int .i64 x, .int .i64 y] 68)).cell? ⟨w.heap.size, 0, none⟩ = some (.int .i64 x) := G1.cell_ 0
  have z1 : (w.alloc (.cells #[.int .i64 x, .int .i64 y] 68)).cell? ⟨w.heap.size, 1, none⟩ = some (.int .i64 y) := G1.cell_ 1
  have hM := hM.below HB0
  obtain ⟨c1, c2, y0, y1, y2, y3, y4, y5, y6, ya, yb, fa, fb, fm⟩ := hM.get
  go_enter Tryz.func92, Tryz.ntmps92
  go_upto_region 3 with fail
  refine wp_region_noPanic ?_
  refine wp_region_held_drew (S := (fun w' => w'.cell? ⟨m, 0, none⟩ = some (.int .i64 a) ∧ w'.cell? ⟨m, 1, none⟩ = some (.int .i64 b) ∧ w'.cell? ⟨m, 2, none⟩ = some (.int .i64 c) ∧ w'.cell? ⟨m, 3, none⟩ = some (.int .i64 d) ∧ w'.cell? ⟨m, 4, none⟩ = some (.int .i64 e) ∧ w'.cell? ⟨w.heap.size, 0, none⟩ = some (.int .i64 x) ∧ w'.cell? ⟨w.heap.size, 1, none⟩ = some (.int .i64 y))) (by kernel_rfl) ?_ (fun hHeld => ?_)
  · (first | exact ⟨y0, y1, y2, y3, y4, z0, z1⟩ | assumption)
  refine tk 0 ?_; try simp only [Act.put, pz1, pz2, pz3]
  refine tk 1 ?_; try simp only [Act.put, pz1, pz2, pz3]
  refine tk 2 ?_; try simp only [Act.put, pz1, pz2, pz3]
  refine tk 3 ?_; try simp only [Act.put, pz1, pz2, pz3]
  refine tk 4 ?_; try simp only [Act.put, pz1, pz2, pz3]
  refine wpAnyH_ready (rs := [5]) (by kernel_rfl) (by simp) ?_
  refine AllReadyH.cons (o := ⟨some 28, .call { callee := .value (.func 115), args := #[.tmp 26, .tmp 27], argTypes := #[23, 68] }, 3, "maps.go:46", #[⟨3, .data⟩, ⟨4, .data⟩], none⟩) rfl (fun K hK => ?_) AllReadyH.nil
  go_simp
  (go_at_call 115; ((with_reducible refine (num_b _ _ _ _ _ _ _ _ _ HM hn).mono ?_); rintro e' wN ⟨rfl, hb⟩; have hb := undrewM hb; have hM := hM.below hb; have HB0 := btr HB0 HB0.size hb; have G1 := G1.below hb G1.lt; clear y0 y1 y2 y3 y4 y5 y6 ya yb fa fb fm z0 z1; obtain ⟨c1, c2, y0, y1, y2, y3, y4, y5, y6, ya, yb, fa, fb, fm⟩ := hM.get; have z0 := G1.cell_ 0; have z1 := G1.cell_ 1; simp at z0 z1))
  go_wp2_with fail
  refine hK.out _ _ ?_ (fun hNew => ?_)
  · (first | exact ⟨y0, y1, y2, y3, y4, z0, z1⟩ | assumption)
  clear hK K hHeld
  have hHeld := hNew
  clear hNew
  try simp only [Act.put, pz1, pz2, pz3]
  refine tk 6 ?_; try simp only [Act.put, pz1, pz2, pz3]
  refine wpAnyH_done (by kernel_rfl) ?_ _
  refine NoPanic.normal ?_
  go_wp2_with fail
  go_ret
  exact ⟨rfl, HB0⟩
theorem put_taken (m g1 g2 : Nat) (a b c d e : Int) (L N : Nat) (A W : List Int) (k : Nat) (x y : Int) (n : Nat) (z : Int) (w : World) (hM : MapW w m g1 g2 a b c d e L N A W) (HM : Hid (mayB a b c d e = true)) (hL : L ≤ 1000) (hN : N ≤ 1000) (hk : k < L) (hh : thereB a b x y = true) (hxy : x * b + y = (n : Int)) (hnN : n < N) (hz : whoI A (n : Int) = z) (hz1 : z ≠ -1) (hz2 : z ≠ (k : Int)) :
    Calls Tryz.prog 92 #[.pointer (some ⟨m, 0, none⟩), .int .i64 (k : Int), .agg #[.int .i64 x, .int .i64 y]] w fun e' w' => e' = .returned (.bool false) ∧ Below w.heap.size w w' := by
  have hn : Hid (numberI a b x y = (n : Int)) := Lib.hid ((number_yesM hh).trans hxy)
  have hzq : (z != -1) = true := by simp [hz1]
  have hzr : (z != (k : Int)) = true := by simp [hz2]
  have hwz : Hid (W.getD n (-1) = z) := Lib.hid ((hM.inv.who n hnN).trans hz)
  have i0 : (0 : Int) ≤ (k : Int) := by omega
  have i1 : (k : Int) < (L : Int) := by omega
  have j0 : (0 : Int) ≤ (n : Int) := by omega
  have j1 : (n : Int) < (N : Int) := by omega
  clear hh hxy hz
  have HB0 : Below w.heap.size w (w.alloc (.cells #[.int .i64 x, .int .i64 y] 68)) := (Below.refl _ _).alloc (Nat.le_refl _) _
  have G1 : Blk (w.alloc (.cells #[.int .i64 x, .int .i64 y] 68)) w.heap.size 68 #[.int .i64 x, .int .i64 y] := Blk.new_ _ _ _
  have z0 : (w.alloc (.cells #[.int .i64 x, .int .i64 y] 68)).cell? ⟨w.heap.size, 0, none⟩ = some (.int .i64 x) := G1.cell_ 0
  have z1 : (w.alloc (.cells #[.int .i64 x, .int .i64 y] 68)).cell? ⟨w.heap.size, 1, none⟩ = some (.int .i64 y) := G1.cell_ 1
  have hM := hM.below HB0
  obtain ⟨c1, c2, y0, y1, y2, y3, y4, y5, y6, ya, yb, fa, fb, fm⟩ := hM.get
  go_enter Tryz.func92, Tryz.ntmps92
  go_upto_region 3 with fail
  refine wp_region_noPanic ?_
  refine wp_region_held_drew (S := (fun w' => w'.cell? ⟨m, 0, none⟩ = some (.int .i64 a) ∧ w'.cell? ⟨m, 1, none⟩ = some (.int .i64 b) ∧ w'.cell? ⟨m, 2, none⟩ = some (.int .i64 c) ∧ w'.cell? ⟨m, 3, none⟩ = some (.int .i64 d) ∧ w'.cell? ⟨m, 4, none⟩ = some (.int .i64 e) ∧ w'.cell? ⟨w.heap.size, 0, none⟩ = some (.int .i64 x) ∧ w'.cell? ⟨w.heap.size, 1, none⟩ = some (.int .i64 y))) (by kernel_rfl) ?_ (fun hHeld => ?_)
  · (first | exact ⟨y0, y1, y2, y3, y4, z0, z1⟩ | assumption)
  refine tk 0 ?_; try simp only [Act.put, pz1, pz2, pz3]
  refine tk 1 ?_; try simp only [Act.put, pz1, pz2, pz3]
  refine tk 2 ?_; try simp only [Act.put, pz1, pz2, pz3]
  refine tk 3 ?_; try simp only [Act.put, pz1, pz2, pz3]
  refine tk 4 ?_; try simp only [Act.put, pz1, pz2, pz3]
  refine wpAnyH_ready (rs := [5]) (by kernel_rfl) (by simp) ?_
  refine AllReadyH.cons (o := ⟨some 28, .call { callee := .value (.func 115), args := #[.tmp 26, .tmp 27], argTypes := #[23, 68] }, 3, "maps.go:46", #[⟨3, .data⟩, ⟨4, .data⟩], none⟩) rfl (fun K hK => ?_) AllReadyH.nil
  go_simp
  (go_at_call 115; ((with_reducible refine (num_b _ _ _ _ _ _ _ _ _ HM hn).mono ?_); rintro e' wN ⟨rfl, hb⟩; have hb := undrewM hb; have hM := hM.below hb; have HB0 := btr HB0 HB0.size hb; have G1 := G1.below hb G1.lt; clear y0 y1 y2 y3 y4 y5 y6 ya yb fa fb fm z0 z1; obtain ⟨c1, c2, y0, y1, y2, y3, y4, y5, y6, ya, yb, fa, fb, fm⟩ := hM.get; have z0 := G1.cell_ 0; have z1 := G1.cell_ 1; simp at z0 z1))
  go_wp2_with fail
  refine hK.out _ _ ?_ (fun hNew => ?_)
  · (first | exact ⟨y0, y1, y2, y3, y4, z0, z1⟩ | assumption)
  clear hK K hHeld
  have hHeld := hNew
  clear hNew
  try simp only [Act.put, pz1, pz2, pz3]
  refine tk 6 ?_; try simp only [Act.put, pz1, pz2, pz3]
  refine wpAnyH_done (by kernel_rfl) ?_ _
  refine NoPanic.normal ?_
  have cw := yb n hnN
  rw [hwz.out] at cw
  clear ya yb fa
  go_wp2_with fail
  go_ret
  exact ⟨rfl, HB0⟩
theorem put_new (m g1 g2 : Nat) (a b c d e : Int) (L N : Nat) (A W : List Int) (k : Nat) (x y : Int) (n : Nat) (w : World) (hM : MapW w m g1 g2 a b c d e L N A W) (HM : Hid (mayB a b c d e = true)) (hL : L ≤ 1000) (hN : N ≤ 1000) (hk : k < L) (hh : thereB a b x y = true) (hxy : x * b + y = (n : Int)) (hnN : n < N) (hz : whoI A (n : Int) = -1) (hA : A.getD k (-1) = -1) :
    Calls Tryz.prog 92 #[.pointer (some ⟨m, 0, none⟩), .int .i64 (k : Int), .agg #[.int .i64 x, .int .i64 y]] w fun e' w' => e' = .returned (.bool true) ∧ MapW w' m g1 g2 a b c d e L N (A.set k (n : Int)) (W.set n (k : Int)) ∧ Touch g1 g2 w w' := by
  have hn : Hid (numberI a b x y = (n : Int)) := Lib.hid ((number_yesM hh).trans hxy)
  have hwz : Hid (W.getD n (-1) = -1) := Lib.hid ((hM.inv.who n hnN).trans hz)
  have HH : Hid (hasB A (k : Int) = false) := Lib.hid (hasB_no (by rw [hM.len]; exact hk) hA)
  have HI : Hid (InvM N (A.set k (n : Int)) (W.set n (k : Int))) := Lib.hid (hM.inv.put (by rw [hM.len]; exact hk) hnN hA hz)
  have i0 : (0 : Int) ≤ (k : Int) := by omega
  have i1 : (k : Int) < (L : Int) := by omega
  have j0 : (0 : Int) ≤ (n : Int) := by omega
  have j1 : (n : Int) < (N : Int) := by omega
  clear hh hxy hz hA
  have HB0 : Below w.heap.size w (w.alloc (.cells #[.int .i64 x, .int .i64 y] 68)) := (Below.refl _ _).alloc (Nat.le_refl _) _
  have G1 : Blk (w.alloc (.cells #[.int .i64 x, .int .i64 y] 68)) w.heap.size 68 #[.int .i64 x, .int .i64 y] := Blk.new_ _ _ _
  have z0 : (w.alloc (.cells #[.int .i64 x, .int .i64 y] 68)).cell? ⟨w.heap.size, 0, none⟩ = some (.int .i64 x) := G1.cell_ 0
  have z1 : (w.alloc (.cells #[.int .i64 x, .int .i64 y] 68)).cell? ⟨w.heap.size, 1, none⟩ = some (.int .i64 y) := G1.cell_ 1
  have hM := hM.below HB0
  obtain ⟨c1, c2, y0, y1, y2, y3, y4, y5, y6, ya, yb, fa, fb, fm⟩ := hM.get
  go_enter Tryz.func92, Tryz.ntmps92
  go_upto_region 3 with fail
  refine wp_region_noPanic ?_
  refine wp_region_held_drew (S := (fun w' => w'.cell? ⟨m, 0, none⟩ = some (.int .i64 a) ∧ w'.cell? ⟨m, 1, none⟩ = some (.int .i64 b) ∧ w'.cell? ⟨m, 2, none⟩ = some (.int .i64 c) ∧ w'.cell? ⟨m, 3, none⟩ = some (.int .i64 d) ∧ w'.cell? ⟨m, 4, none⟩ = some (.int .i64 e) ∧ w'.cell? ⟨w.heap.size, 0, none⟩ = some (.int .i64 x) ∧ w'.cell? ⟨w.heap.size, 1, none⟩ = some (.int .i64 y))) (by kernel_rfl) ?_ (fun hHeld => ?_)
  · (first | exact ⟨y0, y1, y2, y3, y4, z0, z1⟩ | assumption)
  refine tk 0 ?_; try simp only [Act.put, pz1, pz2, pz3]
  refine tk 1 ?_; try simp only [Act.put, pz1, pz2, pz3]
  refine tk 2 ?_; try simp only [Act.put, pz1, pz2, pz3]
  refine tk 3 ?_; try simp only [Act.put, pz1, pz2, pz3]
  refine tk 4 ?_; try simp only [Act.put, pz1, pz2, pz3]
  refine wpAnyH_ready (rs := [5]) (by kernel_rfl) (by simp) ?_
  refine AllReadyH.cons (o := ⟨some 28, .call { callee := .value (.func 115), args := #[.tmp 26, .tmp 27], argTypes := #[23, 68] }, 3, "maps.go:46", #[⟨3, .data⟩, ⟨4, .data⟩], none⟩) rfl (fun K hK => ?_) AllReadyH.nil
  go_simp
  (go_at_call 115; ((with_reducible refine (num_b _ _ _ _ _ _ _ _ _ HM hn).mono ?_); rintro e' wN ⟨rfl, hb⟩; have hb := undrewM hb; have hM := hM.below hb; have HB0 := btr HB0 HB0.size hb; have G1 := G1.below hb G1.lt; clear y0 y1 y2 y3 y4 y5 y6 ya yb fa fb fm z0 z1; obtain ⟨c1, c2, y0, y1, y2, y3, y4, y5, y6, ya, yb, fa, fb, fm⟩ := hM.get; have z0 := G1.cell_ 0; have z1 := G1.cell_ 1; simp at z0 z1))
  go_wp2_with fail
  refine hK.out _ _ ?_ (fun hNew => ?_)
  · (first | exact ⟨y0, y1, y2, y3, y4, z0, z1⟩ | assumption)
  clear hK K hHeld
  have hHeld := hNew
  clear hNew
  try simp only [Act.put, pz1, pz2, pz3]
  refine tk 6 ?_; try simp only [Act.put, pz1, pz2, pz3]
  refine wpAnyH_done (by kernel_rfl) ?_ _
  refine NoPanic.normal ?_
  obtain ⟨wK, hwK⟩ : ∃ W : World, W = wN := ⟨_, rfl⟩
  have cw := yb n hnN
  rw [hwz.out] at cw
  have cz := ya k hk
  have fz := fa k
  have gz := fb n
  have n1 := hM.n1
  have k6 := (cell_far (w := wN) (i := 6) (p := ⟨g1, k, none⟩) n1 (.int .i64 (n : Int))).trans y6
  have kw := (cell_far (w := wN) (i := n) (p := ⟨g1, k, none⟩) (fun h => hM.n12 h.symm) (.int .i64 (n : Int))).trans cw
  have HB := hM.both' hk hnN (n : Int) (k : Int) rfl rfl HI.out
  have HT := ((Touch.of_below (g1 := g1) (g2 := g2) HB0).trans (Touch.set1 wN k (.int .i64 (n : Int)))).trans (Touch.set2 _ n (.int .i64 (k : Int)))
  clear ya yb fa fb hwK wK
  go_wp2_with (go_at_call 136; ((with_reducible refine (drop_no _ _ _ _ _ _ _ _ _ _ _ _ _ _ hM hL HH.out).mono ?_); rintro e' wD ⟨rfl, rfl⟩; skip))
  go_ret
  exact ⟨rfl, HB.like rfl, HT.like rfl rfl rfl rfl⟩
theorem put_old (m g1 g2 : Nat) (a b c d e : Int) (L N : Nat) (A W : List Int) (k : Nat) (x y : Int) (n n0 : Nat) (z : Int) (w : World) (hM : MapW w m g1 g2 a b c d e L N A W) (HM : Hid (mayB a b c d e = true)) (hL : L ≤ 1000) (hN : N ≤ 1000) (hk : k < L) (hh : thereB a b x y = true) (hxy : x * b + y = (n : Int)) (hnN : n < N) (hz : whoI A (n : Int) = z) (hz1 : z = -1 ∨ z = (k : Int)) (hn0 : n0 < N) (hA : A.getD k (-1) = (n0 : Int)) :
    Calls Tryz.prog 92 #[.pointer (some ⟨m, 0, none⟩), .int .i64 (k : Int), .agg #[.int .i64 x, .int .i64 y]] w fun e' w' => e' = .returned (.bool true) ∧ MapW w' m g1 g2 a b c d e L N (A.set k (n : Int)) ((W.set n0 (-1)).set n (k : Int)) ∧ Touch g1 g2 w w' := by
  have hn : Hid (numberI a b x y = (n : Int)) := Lib.hid ((number_yesM hh).trans hxy)
  have hwz : Hid (W.getD n (-1) = z) := Lib.hid ((hM.inv.who n hnN).trans hz)
  have HZ0 := Lib.hid hA
  have hkA : k < A.length := by rw [hM.len]; exact hk
  have hno : whoI (A.set k (-1)) (n : Int) = -1 := by
    refine who_none fun q hq => ?_
    rw [getD_set]
    by_cases hkq : k = q
    · rw [if_pos ⟨hkq, hkA⟩]
      omega
    · rw [if_neg (fun h => hkq h.1)]
      intro hx
      have h1 := who_at hM.inv (p := q) (by simpa using hq) (n := (n : Int)) (by omega) hx
      rw [hz] at h1
      rcases hz1 with h2 | h2 <;> omega
  have HI : Hid (InvM N (A.set k (n : Int)) ((W.set n0 (-1)).set n (k : Int))) := Lib.hid (by
    have := (hM.inv.drop hkA hn0 hA).put (p := k) (n := n) (by simpa using hkA) hnN (by rw [getD_set]; simp [hkA]) hno
    rwa [set_set] at this)
  have i0 : (0 : Int) ≤ (k : Int) := by omega
  have i1 : (k : Int) < (L : Int) := by omega
  have j0 : (0 : Int) ≤ (n : Int) := by omega
  have j1 : (n : Int) < (N : Int) := by omega
  clear hh hxy hz hA hno hkA
  have HB0 : Below w.heap.size w (w.alloc (.cells #[.int .i64 x, .int .i64 y] 68)) := (Below.refl _ _).alloc (Nat.le_refl _) _
  have G1 : Blk (w.alloc (.cells #[.int .i64 x, .int .i64 y] 68)) w.heap.size 68 #[.int .i64 x, .int .i64 y] := Blk.new_ _ _ _
  have z0 : (w.alloc (.cells #[.int .i64 x, .int .i64 y] 68)).cell? ⟨w.heap.size, 0, none⟩ = some (.int .i64 x) := G1.cell_ 0
  have z1 : (w.alloc (.cells #[.int .i64 x, .int .i64 y] 68)).cell? ⟨w.heap.size, 1, none⟩ = some (.int .i64 y) := G1.cell_ 1
  have hM := hM.below HB0
  obtain ⟨c1, c2, y0, y1, y2, y3, y4, y5, y6, ya, yb, fa, fb, fm⟩ := hM.get
  rcases hz1 with rfl | rfl
  · go_enter Tryz.func92, Tryz.ntmps92
    go_upto_region 3 with fail
    refine wp_region_noPanic ?_
    refine wp_region_held_drew (S := (fun w' => w'.cell? ⟨m, 0, none⟩ = some (.int .i64 a) ∧ w'.cell? ⟨m, 1, none⟩ = some (.int .i64 b) ∧ w'.cell? ⟨m, 2, none⟩ = some (.int .i64 c) ∧ w'.cell? ⟨m, 3, none⟩ = some (.int .i64 d) ∧ w'.cell? ⟨m, 4, none⟩ = some (.int .i64 e) ∧ w'.cell? ⟨w.heap.size, 0, none⟩ = some (.int .i64 x) ∧ w'.cell? ⟨w.heap.size, 1, none⟩ = some (.int .i64 y))) (by kernel_rfl) ?_ (fun hHeld => ?_)
    · (first | exact ⟨y0, y1, y2, y3, y4, z0, z1⟩ | assumption)
    refine tk 0 ?_; try simp only [Act.put, pz1, pz2, pz3]
    refine tk 1 ?_; try simp only [Act.put, pz1, pz2, pz3]
    refine tk 2 ?_; try simp only [Act.put, pz1, pz2, pz3]
    refine tk 3 ?_; try simp only [Act.put, pz1, pz2, pz3]
    refine tk 4 ?_; try simp only [Act.put, pz1, pz2, pz3]
    refine wpAnyH_ready (rs := [5]) (by kernel_rfl) (by simp) ?_
    refine AllReadyH.cons (o := ⟨some 28, .call { callee := .value (.func 115), args := #[.tmp 26, .tmp 27], argTypes := #[23, 68] }, 3, "maps.go:46", #[⟨3, .data⟩, ⟨4, .data⟩], none⟩) rfl (fun K hK => ?_) AllReadyH.nil
    go_simp
    (go_at_call 115; ((with_reducible refine (num_b _ _ _ _ _ _ _ _ _ HM hn).mono ?_); rintro e' wN ⟨rfl, hb⟩; have hb := undrewM hb; have hM := hM.below hb; have HB0 := btr HB0 HB0.size hb; have G1 := G1.below hb G1.lt; clear y0 y1 y2 y3 y4 y5 y6 ya yb fa fb fm z0 z1; obtain ⟨c1, c2, y0, y1, y2, y3, y4, y5, y6, ya, yb, fa, fb, fm⟩ := hM.get; have z0 := G1.cell_ 0; have z1 := G1.cell_ 1; simp at z0 z1))
    go_wp2_with fail
    refine hK.out _ _ ?_ (fun hNew => ?_)
    · (first | exact ⟨y0, y1, y2, y3, y4, z0, z1⟩ | assumption)
    clear hK K hHeld
    have hHeld := hNew
    clear hNew
    try simp only [Act.put, pz1, pz2, pz3]
    refine tk 6 ?_; try simp only [Act.put, pz1, pz2, pz3]
    refine wpAnyH_done (by kernel_rfl) ?_ _
    refine NoPanic.normal ?_
    have cw := yb n hnN
    rw [hwz.out] at cw
    clear ya yb fa
    go_wp2_with (go_at_call 136; ((with_reducible refine (drop_yes _ _ _ _ _ _ _ _ _ _ _ _ k n0 _ hM hL hN hk hn0 HZ0.out).mono ?_); rintro e' wD ⟨rfl, hMD, hTD⟩; have HB := hMD.both' hk hnN (n : Int) (k : Int) (set_set _ _ _ _).symm rfl HI.out; have HT := (((Touch.of_below (g1 := g1) (g2 := g2) HB0).trans hTD).trans (Touch.set1 wD k (.int .i64 (n : Int)))).trans (Touch.set2 _ n (.int .i64 (k : Int))); clear y0 y1 y2 y3 y4 y5 y6 fb fm cw; obtain ⟨c1, c2, y0, y1, y2, y3, y4, y5, y6, ya, yb, fa, fb, fm⟩ := hMD.get; have fz := fa k; have gz := fb n; have cz := ya k hk; have cw := yb n hnN; have k6 := (cell_far (w := wD) (i := 6) (p := ⟨g1, k, none⟩) hM.n1 (.int .i64 (n : Int))).trans y6; have kw := (cell_far (w := wD) (i := n) (p := ⟨g1, k, none⟩) (fun h => hM.n12 h.symm) (.int .i64 (n : Int))).trans cw; clear ya yb fa fb))
    go_ret
    exact ⟨rfl, HB.like rfl, HT.like rfl rfl rfl rfl⟩
  · go_enter Tryz.func92, Tryz.ntmps92
    go_upto_region 3 with fail
    refine wp_region_noPanic ?_
    refine wp_region_held_drew (S := (fun w' => w'.cell? ⟨m, 0, none⟩ = some (.int .i64 a) ∧ w'.cell? ⟨m, 1, none⟩ = some (.int .i64 b) ∧ w'.cell? ⟨m, 2, none⟩ = some (.int .i64 c) ∧ w'.cell? ⟨m, 3, none⟩ = some (.int .i64 d) ∧ w'.cell? ⟨m, 4, none⟩ = some (.int .i64 e) ∧ w'.cell? ⟨w.heap.size, 0, none⟩ = some (.int .i64 x) ∧ w'.cell? ⟨w.heap.size, 1, none⟩ = some (.int .i64 y))) (by kernel_rfl) ?_ (fun hHeld => ?_)
    · (first | exact ⟨y0, y1, y2, y3, y4, z0, z1⟩ | assumption)
    refine tk 0 ?_; try simp only [Act.put, pz1, pz2, pz3]
    refine tk 1 ?_; try simp only [Act.put, pz1, pz2, pz3]
    refine tk 2 ?_; try simp only [Act.put, pz1, pz2, pz3]
    refine tk 3 ?_; try simp only [Act.put, pz1, pz2, pz3]
    refine tk 4 ?_; try simp only [Act.put, pz1, pz2, pz3]
    refine wpAnyH_ready (rs := [5]) (by kernel_rfl) (by simp) ?_
    refine AllReadyH.cons (o := ⟨some 28, .call { callee := .value (.func 115), args := #[.tmp 26, .tmp 27], argTypes := #[23, 68] }, 3, "maps.go:46", #[⟨3, .data⟩, ⟨4, .data⟩], none⟩) rfl (fun K hK => ?_) AllReadyH.nil
    go_simp
    (go_at_call 115; ((with_reducible refine (num_b _ _ _ _ _ _ _ _ _ HM hn).mono ?_); rintro e' wN ⟨rfl, hb⟩; have hb := undrewM hb; have hM := hM.below hb; have HB0 := btr HB0 HB0.size hb; have G1 := G1.below hb G1.lt; clear y0 y1 y2 y3 y4 y5 y6 ya yb fa fb fm z0 z1; obtain ⟨c1, c2, y0, y1, y2, y3, y4, y5, y6, ya, yb, fa, fb, fm⟩ := hM.get; have z0 := G1.cell_ 0; have z1 := G1.cell_ 1; simp at z0 z1))
    go_wp2_with fail
    refine hK.out _ _ ?_ (fun hNew => ?_)
    · (first | exact ⟨y0, y1, y2, y3, y4, z0, z1⟩ | assumption)
    clear hK K hHeld
    have hHeld := hNew
    clear hNew
    try simp only [Act.put, pz1, pz2, pz3]
    refine tk 6 ?_; try simp only [Act.put, pz1, pz2, pz3]
    refine wpAnyH_done (by kernel_rfl) ?_ _
    refine NoPanic.normal ?_
    have cw := yb n hnN
    rw [hwz.out] at cw
    clear ya yb fa
    go_wp2_with (go_at_call 136; ((with_reducible refine (drop_yes _ _ _ _ _ _ _ _ _ _ _ _ k n0 _ hM hL hN hk hn0 HZ0.out).mono ?_); rintro e' wD ⟨rfl, hMD, hTD⟩; have HB := hMD.both' hk hnN (n : Int) (k : Int) (set_set _ _ _ _).symm rfl HI.out; have HT := (((Touch.of_below (g1 := g1) (g2 := g2) HB0).trans hTD).trans (Touch.set1 wD k (.int .i64 (n : Int)))).trans (Touch.set2 _ n (.int .i64 (k : Int))); clear y0 y1 y2 y3 y4 y5 y6 fb fm cw; obtain ⟨c1, c2, y0, y1, y2, y3, y4, y5, y6, ya, yb, fa, fb, fm⟩ := hMD.get; have fz := fa k; have gz := fb n; have cz := ya k hk; have cw := yb n hnN; have k6 := (cell_far (w := wD) (i := 6) (p := ⟨g1, k, none⟩) hM.n1 (.int .i64 (n : Int))).trans y6; have kw := (cell_far (w := wD) (i := n) (p := ⟨g1, k, none⟩) (fun h => hM.n12 h.symm) (.int .i64 (n : Int))).trans cw; clear ya yb fa fb))
    go_ret
    exact ⟨rfl, HB.like rfl, HT.like rfl rfl rfl rfl⟩
theorem put_anyM (m g1 g2 : Nat) (a b c d e : Int) (L N : Nat) (A W : List Int) (p x y : Int) (w : World) (hM : MapW w m g1 g2 a b c d e L N A W) (HM : Hid (mayB a b c d e = true)) (hL : L ≤ 1000) (hN : N ≤ 1000) (hab : (N : Int) = a * b) :
    Calls Tryz.prog 92 #[.pointer (some ⟨m, 0, none⟩), .int .i64 p, .agg #[.int .i64 x, .int .i64 y]] w fun e' w' => e' = .returned (.bool (putB a b A p x y)) ∧ (∃ W', MapW w' m g1 g2 a b c d e L N (putL a b A p x y) W') ∧ Touch g1 g2 w w' := by
  have hstay : ∀ w', putB a b A p x y = false → Below w.heap.size w w' → (∃ W', MapW w' m g1 g2 a b c d e L N (putL a b A p x y) W') ∧ Touch g1 g2 w w' := by
    intro w' h hb
    refine ⟨⟨W, ?_⟩, Touch.of_below hb⟩
    have : putL a b A p x y = A := by simp [putL, h]
    rw [this]
    exact hM.below hb
  have hlen := hM.len
  by_cases h1 : p < 0 ∨ (L : Int) ≤ p
  · have h2 : putB a b A p x y = false := by
      unfold putB
      rcases h1 with h1 | h1
      · rw [decide_eq_false (by omega : ¬ 0 ≤ p)]
        rfl
      · rw [decide_eq_false (by omega : ¬ p < (A.length : Int)), Bool.and_false]
        rfl
    rw [h2]
    refine (put_short m g1 g2 a b c d e L N A W p x y w hM hL h1).mono ?_
    rintro e' w' ⟨rfl, hb⟩
    exact ⟨rfl, hstay w' h2 hb⟩
  obtain ⟨k, rfl⟩ : ∃ k : Nat, p = (k : Int) := ⟨p.toNat, by omega⟩
  have hk : k < L := by omega
  have hr : putB a b A (k : Int) x y = (thereB a b x y && (decide (whoI A (x * b + y) = -1) || decide (whoI A (x * b + y) = (k : Int)))) := by
    unfold putB
    rw [decide_eq_true (by omega : (0 : Int) ≤ k), decide_eq_true (by omega : (k : Int) < (A.length : Int))]
    rfl
  cases hh : thereB a b x y
  · have h2 : putB a b A (k : Int) x y = false := by rw [hr, hh]; rfl
    rw [h2]
    refine (put_out m g1 g2 a b c d e L N A W k x y w hM HM hL hN hk hh).mono ?_
    rintro e' w' ⟨rfl, hb⟩
    exact ⟨rfl, hstay w' h2 hb⟩
  have hb := may_bd HM.out
  obtain ⟨p1, p2⟩ := num_bd hh (by omega)
  obtain ⟨n, hn⟩ : ∃ n : Nat, x * b + y = (n : Int) := ⟨(x * b + y).toNat, by omega⟩
  have hnN : n < N := by omega
  rw [hh, hn] at hr
  obtain ⟨z, hz⟩ : ∃ z, whoI A (n : Int) = z := ⟨_, rfl⟩
  rw [hz] at hr
  by_cases h3 : z = -1 ∨ z = (k : Int)
  · have h2 : putB a b A (k : Int) x y = true := by
      rw [hr]
      rcases h3 with h3 | h3 <;> simp [h3]
    have hl : putL a b A (k : Int) x y = A.set k (n : Int) := by simp [putL, h2, hn]
    rw [h2, hl]
    by_cases h4 : A.getD k (-1) = -1
    · have h5 : z = -1 := by
        rcases h3 with h3 | h3
        · exact h3
        · exfalso
          rcases whoI_cases A (n : Int) with ⟨h6, _⟩ | ⟨q, hq, h6, h7⟩
          · omega
          · have : q = k := by omega
            rw [this, h4] at h7
            omega
      refine (put_new m g1 g2 a b c d e L N A W k x y n w hM HM hL hN hk hh hn hnN (by rw [hz, h5]) h4).mono ?_
      rintro e' w' ⟨rfl, hM', hT⟩
      exact ⟨rfl, ⟨_, hM'⟩, hT⟩
    · obtain ⟨n0, hn0, hA⟩ := numN hM.inv (by rw [hlen]; exact hk) h4
      refine (put_old m g1 g2 a b c d e L N A W k x y n n0 z w hM HM hL hN hk hh hn hnN hz h3 hn0 hA).mono ?_
      rintro e' w' ⟨rfl, hM', hT⟩
      exact ⟨rfl, ⟨_, hM'⟩, hT⟩
  · have h2 : putB a b A (k : Int) x y = false := by
      rw [hr]
      simp
      omega
    rw [h2]
    refine (put_taken m g1 g2 a b c d e L N A W k x y n z w hM HM hL hN hk hh hn hnN hz (by omega) (by omega)).mono ?_
    rintro e' w' ⟨rfl, hb⟩
    exact ⟨rfl, hstay w' h2 hb⟩
def atT (b : Int) (A : List Int) (p : Int) : Value := if hasB A p then .tuple #[.agg #[.int .i64 (A.getD p.toNat (-1) / b), .int .i64 (A.getD p.toNat (-1) % b)], .bool true] else .tuple #[.agg #[.int .i64 0, .int .i64 0], .bool false]
theorem at_any (m g1 g2 : Nat) (a b c d e : Int) (L N : Nat) (A W : List Int) (p : Int) (w : World) (hM : MapW w m g1 g2 a b c d e L N A W) (HM : Hid (mayB a b c d e = true)) (hL : L ≤ 1000) (hN : N ≤ 1000) :
    Calls Tryz.prog 113 #[.pointer (some ⟨m, 0, none⟩), .int .i64 p] w fun e' w' => e' = .returned (atT b A p) ∧ Below w.heap.size w w' := by
  have hb := may_bd HM.out
  cases hh : hasB A p
  · have : atT b A p = .tuple #[.agg #[.int .i64 0, .int .i64 0], .bool false] := by simp [atT, hh]
    rw [this]
    exact at_no m g1 g2 a b c d e L N A W p w hM hL hh
  · obtain ⟨k, rfl, hk, hz⟩ := hasB_out hh
    obtain ⟨n, hn, hA⟩ := numN hM.inv hk hz
    have : atT b A (k : Int) = .tuple #[.agg #[.int .i64 ((n : Int) / b), .int .i64 ((n : Int) % b)], .bool true] := by
      unfold atT
      rw [if_pos hh, Int.toNat_natCast, hA]
    rw [this]
    exact at_yes m g1 g2 a b c d e L N A W k n w hM hL hN (by omega) (by omega) (by rw [← hM.len]; exact hk) hn hA
end Go.Proofs.YtkpcohfdcilfcaaGreat
namespace Go.Proofs.YtkpcohfdcilfcaaGreat
open Go.ChangeShapes Go.WideShapes Go.ChangeAt Go.RowKit
attribute [local go_sem ↓] Go.wp_at_zero Go.wp_at_succ
theorem off_no (F : FlK) (a b c d e : Int) (fs : List Flt) (L N : Nat) (s : FlS) (w : World) (hF : FlW w F a b c d e fs L N s) (hon : s.ch.on = true) (hc : s.ch.cuts = s.cuts) :
    Calls Tryz.prog 46 #[.pointer (some ⟨F.fm, 0, none⟩)] w fun e' w' => e' = .returned (.bool false) ∧ Below w.heap.size w w' := by
  have hD := hF.drew_
  have QD := And.intro hD.c0 hD.c6
  have k0 := QD.1
  have k6 := QD.2
  go_enter Tryz.func46, Tryz.ntmps46
  go_upto_region 1 with fail
  refine wp_region_noPanic ?_
  refine wp_region_held_drew (S := (fun w_ => w_.cell? ⟨F.fm, 0, none⟩ = some (.pointer (some ⟨F.m, 0, none⟩)) ∧ w_.cell? ⟨F.fm, 6, none⟩ = some (.int .i64 s.cuts))) (by kernel_rfl) ?_ (fun hHeld => ?_)
  · (first | with_reducible exact QD | assumption)
  refine tk 0 ?_; try simp only [Act.put, pz1, pz2, pz3]
  refine tk 1 ?_; try simp only [Act.put, pz1, pz2, pz3]
  refine tk 2 ?_; try simp only [Act.put, pz1, pz2, pz3]
  refine tk 3 ?_; try simp only [Act.put, pz1, pz2, pz3]
  refine wpAnyH_ready (rs := [4]) (by kernel_rfl) (by simp) ?_
  refine AllReadyH.cons (o := ⟨some 7, .call { callee := .value (.func 58), args := #[.tmp 6], argTypes := #[27] }, 4, "flash.go:64", #[⟨3, .data⟩], none⟩) rfl (fun K hK => ?_) AllReadyH.nil
  go_simp
  (go_at_call 58; ((with_reducible refine (on_any F.m F.gx F.gb F.Af F.nf F.cf a b c d e fs _ s.ch hD.chip).mono ?_); rintro e' w1 ⟨rfl, rfl⟩; (try rw [hon])))
  go_wp2_with fail
  refine hK.out _ _ ?_ (fun hNew => ?_)
  · (first | with_reducible exact QD | assumption)
  clear hK K hHeld
  have hHeld := hNew
  clear hNew
  try simp only [Act.put, pz1, pz2, pz3]
  refine tk 5 ?_; try simp only [Act.put, pz1, pz2, pz3]
  refine tk 6 ?_; try simp only [Act.put, pz1, pz2, pz3]
  refine tk 7 ?_; try simp only [Act.put, pz1, pz2, pz3]
  refine tk 8 ?_; try simp only [Act.put, pz1, pz2, pz3]
  refine tk 9 ?_; try simp only [Act.put, pz1, pz2, pz3]
  refine tk 10 ?_; try simp only [Act.put, pz1, pz2, pz3]
  refine tk 12 ?_; try simp only [Act.put, pz1, pz2, pz3]
  refine tk 13 ?_; try simp only [Act.put, pz1, pz2, pz3]
  refine tk 14 ?_; try simp only [Act.put, pz1, pz2, pz3]
  refine tk 15 ?_; try simp only [Act.put, pz1, pz2, pz3]
  refine wpAnyH_ready (rs := [11]) (by kernel_rfl) (by simp) ?_
  refine AllReadyH.cons (o := ⟨some 14, .call { callee := .value (.func 57), args := #[.tmp 13], argTypes := #[27] }, 3, "flash.go:64", #[⟨10, .data⟩, ⟨6, .chain⟩, ⟨6, .guard⟩], some (6, false)⟩) rfl (fun K hK => ?_) AllReadyH.nil
  go_simp
  (go_at_call 57; ((with_reducible refine (cuts_any F.m F.gx F.gb F.Af F.nf F.cf a b c d e fs _ s.ch hD.chip).mono ?_); rintro e' w2 ⟨rfl, rfl⟩; (try rw [hc])))
  go_wp2_with fail
  refine hK.out _ _ ?_ (fun hNew => ?_)
  · (first | with_reducible exact QD | assumption)
  clear hK K hHeld
  have hHeld := hNew
  clear hNew
  try simp only [Act.put, pz1, pz2, pz3]
  refine tk 16 ?_; try simp only [Act.put, pz1, pz2, pz3]
  refine tk 17 ?_; try simp only [Act.put, pz1, pz2, pz3]
  refine tk 18 ?_; try simp only [Act.put, pz1, pz2, pz3]
  refine wpAnyH_done (by kernel_rfl) ?_ _
  refine NoPanic.normal ?_
  go_wp2_with fail
  go_ret
  exact ⟨by simp, below_dr w⟩
theorem off_yes (F : FlK) (a b c d e : Int) (fs : List Flt) (L N : Nat) (s : FlS) (w : World) (hF : FlW w F a b c d e fs L N s) (hon : s.ch.on = false) :
    Calls Tryz.prog 46 #[.pointer (some ⟨F.fm, 0, none⟩)] w fun e' w' => e' = .returned (.bool true) ∧ Below w.heap.size w w' := by
  have hD := hF.drew_
  have QD := And.intro hD.c0 hD.c6
  have k0 := QD.1
  have k6 := QD.2
  go_enter Tryz.func46, Tryz.ntmps46
  go_upto_region 1 with fail
  refine wp_region_noPanic ?_
  refine wp_region_held_drew (S := (fun w_ => w_.cell? ⟨F.fm, 0, none⟩ = some (.pointer (some ⟨F.m, 0, none⟩)) ∧ w_.cell? ⟨F.fm, 6, none⟩ = some (.int .i64 s.cuts))) (by kernel_rfl) ?_ (fun hHeld => ?_)
  · (first | with_reducible exact QD | assumption)
  refine tk 0 ?_; try simp only [Act.put, pz1, pz2, pz3]
  refine tk 1 ?_; try simp only [Act.put, pz1, pz2, pz3]
  refine tk 2 ?_; try simp only [Act.put, pz1, pz2, pz3]
  refine tk 3 ?_; try simp only [Act.put, pz1, pz2, pz3]
  refine wpAnyH_ready (rs := [4]) (by kernel_rfl) (by simp) ?_
  refine AllReadyH.cons (o := ⟨some 7, .call { callee := .value (.func 58), args := #[.tmp 6], argTypes := #[27] }, 4, "flash.go:64", #[⟨3, .data⟩], none⟩) rfl (fun K hK => ?_) AllReadyH.nil
  go_simp
  (go_at_call 58; ((with_reducible refine (on_any F.m F.gx F.gb F.Af F.nf F.cf a b c d e fs _ s.ch hD.chip).mono ?_); rintro e' w1 ⟨rfl, rfl⟩; (try rw [hon])))
  go_wp2_with fail
  refine hK.out _ _ ?_ (fun hNew => ?_)
  · (first | with_reducible exact QD | assumption)
  clear hK K hHeld
  have hHeld := hNew
  clear hNew
  try simp only [Act.put, pz1, pz2, pz3]
  refine tk 5 ?_; try simp only [Act.put, pz1, pz2, pz3]
  refine tk 6 ?_; try simp only [Act.put, pz1, pz2, pz3]
  refine tu 7 ?_
  try simp only [Act.put, pz1, pz2, pz3]
  refine tu 8 ?_
  try simp only [Act.put, pz1, pz2, pz3]
  refine tu 9 ?_
  try simp only [Act.put, pz1, pz2, pz3]
  refine tu 10 ?_
  try simp only [Act.put, pz1, pz2, pz3]
  refine tu 11 ?_
  try simp only [Act.put, pz1, pz2, pz3]
  refine tu 12 ?_
  try simp only [Act.put, pz1, pz2, pz3]
  refine tu 13 ?_
  try simp only [Act.put, pz1, pz2, pz3]
  refine tu 14 ?_
  try simp only [Act.put, pz1, pz2, pz3]
  refine tu 15 ?_
  try simp only [Act.put, pz1, pz2, pz3]
  refine tu 16 ?_
  try simp only [Act.put, pz1, pz2, pz3]
  refine tk 17 ?_; try simp only [Act.put, pz1, pz2, pz3]
  refine tk 18 ?_; try simp only [Act.put, pz1, pz2, pz3]
  refine wpAnyH_done (by kernel_rfl) ?_ _
  refine NoPanic.normal ?_
  go_wp2_with fail
  go_ret
  exact ⟨by simp, below_dr w⟩
theorem logical_f (F : FlK) (a b c d e : Int) (fs : List Flt) (L N : Nat) (s : FlS) (w : World) (hF : FlW w F a b c d e fs L N s) :
    Calls Tryz.prog 18 #[.pointer (some ⟨F.fm, 0, none⟩)] w fun e' w' => e' = .returned (.int .i64 (L : Int)) ∧ w = w' := by
  have k16 := hF.c16
  go_enter Tryz.func18, Tryz.ntmps18
  go_wp2_with fail
  go_ret
  exact ⟨rfl, rfl⟩
def mayP (L : Nat) (p : Int) : Bool := decide (0 ≤ p) && decide (p < (L : Int))
theorem may_f (F : FlK) (a b c d e : Int) (fs : List Flt) (L N : Nat) (s : FlS) (p : Int) (w : World) (hF : FlW w F a b c d e fs L N s) (T : Bool) (hT : mayP L p = T) :
    Calls Tryz.prog 47 #[.pointer (some ⟨F.fm, 0, none⟩), .int .i64 p] w fun e' w' => e' = .returned (.bool T) ∧ w = w' := by
  unfold mayP at hT
  rcases Int.lt_or_le p 0 with h | h
  · have h0 : ¬ (0 : Int) ≤ p := by omega
    rw [decide_eq_false h0] at hT
    obtain rfl : false = T := hT
    go_enter Tryz.func47, Tryz.ntmps47
    go_wp2_with fail
    go_ret
    exact ⟨rfl, rfl⟩
  · rw [decide_eq_true h, Bool.true_and] at hT
    subst hT
    go_enter Tryz.func47, Tryz.ntmps47
    go_wp2_with ((go_at_call 18; ((with_reducible refine (logical_f F a b c d e fs L N s _ hF).mono ?_); rintro e' w1 ⟨rfl, rfl⟩; skip)))
    go_ret
    exact ⟨rfl, rfl⟩
def storedB (s : FlS) (k : Nat) : Bool := hasB s.kA (k : Int) && !s.tr.getD k false
theorem FlW.lk {w : World} {F : FlK} {a b c d e : Int} {fs : List Flt} {L N : Nat} {s : FlS} (hF : FlW w F a b c d e fs L N s) : s.kA.length = L := by
  obtain ⟨W, h⟩ := hF.kept
  exact h.len
theorem FlW.bL {w : World} {F : FlK} {a b c d e : Int} {fs : List Flt} {L N : Nat} {s : FlS} (hF : FlW w F a b c d e fs L N s) : L ≤ 1000 ∧ N ≤ 1000 ∧ 1 ≤ b ∧ b ≤ 100 := by
  obtain ⟨h1, h2, h3, h4, -, -, h5, h6, -⟩ := may_bd hF.may
  have hN := hF.hN
  have hL := hF.hL
  have hm := Int.mul_le_mul h2 h4 (by omega) (by omega)
  unfold logicalI at hL
  have h7 : (a - d - 3) * b ≤ 20 * 8 := Int.mul_le_mul (by omega) h4 (by omega) (by omega)
  omega
theorem at_f (F : FlK) (a b c d e : Int) (fs : List Flt) (L N : Nat) (s : FlS) (k : Nat) (w : World) (hF : FlW w F a b c d e fs L N s) (B : Bool) (hB : hasB s.kA (k : Int) = B) :
    Calls Tryz.prog 113 #[.pointer (some ⟨F.km, 0, none⟩), .int .i64 (k : Int)] w fun e' w' => (∃ x y : Int, e' = .returned (.tuple #[.agg #[.int .i64 x, .int .i64 y], .bool B]) ∧ (B = true → x = s.kA.getD k (-1) / b ∧ y = s.kA.getD k (-1) % b)) ∧ Below w.heap.size w w' := by
  obtain ⟨W, hM⟩ := hF.kept
  obtain ⟨l1, l2, -⟩ := hF.bL
  refine (at_any _ _ _ a b c d e L N s.kA W (k : Int) w hM (Lib.hid hF.may) l1 l2).mono ?_
  rintro e' w' ⟨rfl, h⟩
  refine ⟨?_, h⟩
  unfold atT
  rw [hB]
  cases B
  · exact ⟨0, 0, rfl, fun h => by cases h⟩
  · exact ⟨_, _, rfl, fun _ => ⟨rfl, rfl⟩⟩
theorem stored_b (F : FlK) (a b c d e : Int) (fs : List Flt) (L N : Nat) (s : FlS) (k : Nat) (w : World) (hF : FlW w F a b c d e fs L N s) (hk : k < L) (T : Bool) (hT : storedB s k = T) :
    Calls Tryz.prog 71 #[.pointer (some ⟨F.fm, 0, none⟩), .int .i64 (k : Int)] w fun e' w' => e' = .returned (.bool T) ∧ Below w.heap.size w w' := by
  have k10 := hF.c10
  obtain ⟨B0, hB0⟩ : ∃ B, hasB s.kA (k : Int) = B := ⟨_, rfl⟩
  obtain ⟨t0, ht0⟩ : ∃ B, s.tr.getD k false = B := ⟨_, rfl⟩
  have HB := Lib.hid hB0
  have HTR : Hid ((s.tr.map Value.bool)[k]? = some (.bool t0)) := Lib.hid (by
    have := hF.ltr
    rw [List.getElem?_map, List.getElem?_eq_getElem (by omega), ← ht0, List.getD_eq_getElem?_getD, List.getElem?_eq_getElem (by omega)]
    rfl)
  unfold storedB at hT
  rw [hB0, ht0] at hT
  have i0 : (0 : Int) ≤ (k : Int) := by omega
  have i1 : (k : Int) < (L : Int) := by omega
  clear hB0 ht0
  cases B0
  · obtain rfl : false = T := hT
    (try clear hT)
    go_enter Tryz.func71, Tryz.ntmps71
    go_wp2_with ((go_at_call 113; ((with_reducible refine (at_f F a b c d e fs L N s k _ hF _ HB.out).mono ?_); rintro e' w1 ⟨⟨x, y, rfl, -⟩, b1⟩; have hG := (hF.below b1).below ((Below.refl _ w1).alloc (Nat.le_refl _) (.cells #[.int .i64 x, .int .i64 y] 68)); have j7 := hG.c11; have y0 := hG.tr.cell_ HTR.out)))
    go_ret
    exact ⟨rfl, by first | exact b1 | exact (b1.alloc b1.size _)⟩
  · cases t0
    · obtain rfl : true = T := hT
      (try clear hT)
      go_enter Tryz.func71, Tryz.ntmps71
      go_wp2_with ((go_at_call 113; ((with_reducible refine (at_f F a b c d e fs L N s k _ hF _ HB.out).mono ?_); rintro e' w1 ⟨⟨x, y, rfl, -⟩, b1⟩; have hG := (hF.below b1).below ((Below.refl _ w1).alloc (Nat.le_refl _) (.cells #[.int .i64 x, .int .i64 y] 68)); have j7 := hG.c11; have y0 := hG.tr.cell_ HTR.out)))
      go_ret
      exact ⟨rfl, by first | exact b1 | exact (b1.alloc b1.size _)⟩
    · obtain rfl : false = T := hT
      (try clear hT)
      go_enter Tryz.func71, Tryz.ntmps71
      go_wp2_with ((go_at_call 113; ((with_reducible refine (at_f F a b c d e fs L N s k _ hF _ HB.out).mono ?_); rintro e' w1 ⟨⟨x, y, rfl, -⟩, b1⟩; have hG := (hF.below b1).below ((Below.refl _ w1).alloc (Nat.le_refl _) (.cells #[.int .i64 x, .int .i64 y] 68)); have j7 := hG.c11; have y0 := hG.tr.cell_ HTR.out)))
      go_ret
      exact ⟨rfl, by first | exact b1 | exact (b1.alloc b1.size _)⟩
def hasF (s : FlS) (k : Nat) : Bool := match s.wt[k]? with
  | some x => if x.kind = 0 then storedB s k else x.kind == 1
  | none => false
theorem wtV_at {wt : List Wt} {wa : List (Option Addr × Nat)} {k : Nat} {x : Wt} {A : Option Addr × Nat} (hx : wt[k]? = some x) (hA : wa[k]? = some A) : (wtV wt wa)[k * 2]? = some (.int .i64 x.kind) ∧ (wtV wt wa)[k * 2 + 1]? = some (.slice A.1 x.dat.length A.2) := by
  unfold wtV
  induction wt generalizing wa k with
  | nil => simp at hx
  | cons y wt ih =>
    cases wa with
    | nil => simp at hA
    | cons B wa =>
      cases k with
      | zero =>
        simp at hx hA
        subst hx hA
        exact ⟨rfl, rfl⟩
      | succ k =>
        have h := ih (wa := wa) (k := k) (by simpa using hx) (by simpa using hA)
        rw [List.zipWith_cons_cons, List.flatten_cons]
        have e : (wtC y B).length = 2 := rfl
        have e1 : (k + 1) * 2 = (wtC y B).length + k * 2 := by rw [e]; omega
        have e2 : (k + 1) * 2 + 1 = (wtC y B).length + (k * 2 + 1) := by rw [e]; omega
        rw [e1, List.getElem?_append_right (by omega), Nat.add_sub_cancel_left]
        refine ⟨h.1, ?_⟩
        rw [Nat.add_assoc, List.getElem?_append_right (by omega), Nat.add_sub_cancel_left]
        exact h.2
theorem FlW.wt_ {w : World} {F : FlK} {a b c d e : Int} {fs : List Flt} {L N : Nat} {s : FlS} (hF : FlW w F a b c d e fs L N s) {k : Nat} (hk : k < L) : ∃ (x : Wt) (A : Option Addr) (cA : Nat), s.wt[k]? = some x ∧ F.wa[k]? = some (A, cA) ∧ w.cell? ⟨F.gw, k * 2, none⟩ = some (.int .i64 x.kind) ∧ w.cell? ⟨F.gw, k * 2 + 1, none⟩ = some (.slice A x.dat.length cA) ∧ DatW w F x (A, cA) := by
  have h1 := hF.lwt
  have h2 := hF.lwa
  have e1 : s.wt[k]? = some s.wt[k] := List.getElem?_eq_getElem (by omega)
  have e2 : F.wa[k]? = some F.wa[k] := List.getElem?_eq_getElem (by omega)
  obtain ⟨q1, q2⟩ := wtV_at e1 e2
  exact ⟨_, _, _, e1, e2, hF.wt.cell_ q1, hF.wt.cell_ q2, hF.dw k _ _ e1 e2⟩
theorem has_f (F : FlK) (a b c d e : Int) (fs : List Flt) (L N : Nat) (s : FlS) (k : Nat) (w : World) (hF : FlW w F a b c d e fs L N s) (hk : k < L) (T : Bool) (hT : hasF s k = T) :
    Calls Tryz.prog 70 #[.pointer (some ⟨F.fm, 0, none⟩), .int .i64 (k : Int)] w fun e' w' => e' = .returned (.bool T) ∧ Below w.heap.size w w' := by
  have k16 := hF.c16
  obtain ⟨x, A, cA, hx, -, y0, -, -⟩ := hF.wt_ hk
  have i0 : (0 : Int) ≤ (k : Int) := by omega
  have i1 : (k : Int) < (L : Int) := by omega
  unfold hasF at hT
  rw [hx] at hT
  obtain ⟨q, hq⟩ : ∃ q, x.kind = q := ⟨_, rfl⟩
  rw [hq] at y0
  simp only [hq] at hT
  clear hx
  by_cases hz : q = 0
  · subst hz
    rw [if_pos rfl] at hT
    have HST := Lib.hid hT
    clear hT hq
    go_enter Tryz.func70, Tryz.ntmps70
    go_wp2_with ((go_at_call 71; ((with_reducible refine (stored_b F a b c d e fs L N s k _ hF hk _ HST.out).mono ?_); rintro e' w1 ⟨rfl, b1⟩; skip)))
    go_ret
    exact ⟨rfl, b1⟩
  · rw [if_neg hz] at hT
    have z1 : (q != 0) = true := by simpa using hz
    subst hT
    clear hq
    go_enter Tryz.func70, Tryz.ntmps70
    go_wp2_with fail
    go_ret
    exact ⟨rfl, Below.refl _ _⟩
end Go.Proofs.YtkpcohfdcilfcaaGreat
namespace Go.Proofs.YtkpcohfdcilfcaaGreat
open Go.ChangeShapes Go.WideShapes Go.ChangeAt Go.RowKit
attribute [local go_sem ↓] Go.wp_at_zero Go.wp_at_succ
theorem infoBoolF : (Tryz.prog.info? 4).map (fun i => (i.zero, i.size, i.bytes)) = some (some (.bool false), 1, 1) := by kernel_rfl
theorem infoIntF : (Tryz.prog.info? 3).map (fun i => (i.zero, i.size, i.bytes)) = some (some (.int .i64 0), 1, 8) := by kernel_rfl
theorem fill_next {α : Type} {l : List α} {z x : α} {k n : Nat} (hl : l.length = n) (hx : l[k]? = some x) : (l.take k ++ List.replicate (n - k) z).set k x = l.take (k + 1) ++ List.replicate (n - (k + 1)) z := by
  have hk := (List.getElem?_eq_some_iff.1 hx).1
  have e : n - k = (n - (k + 1)) + 1 := by omega
  have hlt : (l.take k).length = k := by rw [List.length_take]; omega
  rw [e, List.replicate_succ, List.set_append_right _ _ (by omega), hlt, Nat.sub_self, List.set_cons_zero, List.take_add_one, hx]
  simp
theorem fill_at {α : Type} {l : List α} {z : α} {k n : Nat} (hl : l.length = n) (hk : k < n) : (l.take k ++ List.replicate (n - k) z)[k]? = some z := by
  have hlt : (l.take k).length = k := by rw [List.length_take]; omega
  rw [List.getElem?_append_right (by omega), hlt, Nat.sub_self, List.getElem?_replicate]
  rw [if_pos (by omega)]
theorem RowT.slr {w : World} {g : Nat} {t : TypeId} {vs : List Value} (h : RowT w g t vs) : Sl w w.heap.size (some ⟨g, 0, none⟩) vs := by
  refine Or.inr ⟨g, 0, rfl, h.lt, fun j u hj => ?_⟩
  rw [Nat.zero_add]
  exact h.cell_ hj
theorem erased_f (F : FlK) (a b c d e : Int) (fs : List Flt) (L N : Nat) (s : FlS) (B u : Int) (w : World) (hF : FlW w F a b c d e fs L N s) (hu : s.ch.ask a B 0 = u) (T : Bool) (hT : (u == 0) = T) :
    Calls Tryz.prog 147 #[.pointer (some ⟨F.fm, 0, none⟩), .int .i64 B] w fun e' w' => e' = .returned (.bool T) ∧ w = w' := by
  have k0 := hF.c0
  have HU := Lib.hid hu
  subst hT
  clear hu
  go_enter Tryz.func147, Tryz.ntmps147
  go_wp2_with ((go_at_call 155; ((with_reducible refine (used_any F.m F.gx F.gb F.Af F.nf F.cf a b c d e fs B _ s.ch hF.chip).mono ?_); rintro e' w1 ⟨rfl, rfl⟩; rw [HU.out])))
  go_ret
  exact ⟨rfl, rfl⟩
theorem used_f (F : FlK) (a b c d e : Int) (fs : List Flt) (L N : Nat) (s : FlS) (B u : Int) (w : World) (hF : FlW w F a b c d e fs L N s) (hu : s.ch.ask a B 0 = u) (T : Bool) (hT : decide (0 < u) = T) :
    Calls Tryz.prog 120 #[.pointer (some ⟨F.fm, 0, none⟩), .int .i64 B] w fun e' w' => e' = .returned (.bool T) ∧ w = w' := by
  have k0 := hF.c0
  have HU := Lib.hid hu
  subst hT
  clear hu
  go_enter Tryz.func120, Tryz.ntmps120
  go_wp2_with ((go_at_call 155; ((with_reducible refine (used_any F.m F.gx F.gb F.Af F.nf F.cf a b c d e fs B _ s.ch hF.chip).mono ?_); rintro e' w1 ⟨rfl, rfl⟩; rw [HU.out])))
  go_ret
  exact ⟨rfl, rfl⟩
theorem every_f (F : FlK) (a b c d e : Int) (fs : List Flt) (L N : Nat) (s : FlS) (B : Int) (w : World) (hF : FlW w F a b c d e fs L N s) :
    Calls Tryz.prog 104 #[.pointer (some ⟨F.fm, 0, none⟩), .int .i64 B] w fun e' w' => e' = .returned (.bool true) ∧ w = w' := by
  go_enter Tryz.func104, Tryz.ntmps104
  go_wp2_with fail
  go_ret
  exact ⟨rfl, rfl⟩
theorem full_f (F : FlK) (a b c d e : Int) (fs : List Flt) (L N : Nat) (s : FlS) (B u : Int) (w : World) (hF : FlW w F a b c d e fs L N s) (hu : s.ch.ask a B 0 = u) (T : Bool) (hT : (u == b) = T) :
    Calls Tryz.prog 169 #[.pointer (some ⟨F.fm, 0, none⟩), .int .i64 B] w fun e' w' => e' = .returned (.bool T) ∧ Below w.heap.size w w' := by
  have hD := hF.drew_
  have QD := And.intro hD.c0 hD.c2
  have k0 := QD.1
  have k2 := QD.2
  have HU := Lib.hid hu
  subst hT
  clear hu
  go_enter Tryz.func169, Tryz.ntmps169
  go_upto_region 1 with fail
  refine wp_region_noPanic ?_
  refine wp_region_held_drew (S := (fun w_ => w_.cell? ⟨F.fm, 0, none⟩ = some (.pointer (some ⟨F.m, 0, none⟩)) ∧ w_.cell? ⟨F.fm, 2, none⟩ = some (.int .i64 b))) (by kernel_rfl) ?_ (fun hHeld => ?_)
  · (first | with_reducible exact QD | assumption)
  refine tk 0 ?_; try simp only [Act.put, pz1, pz2, pz3]
  refine tk 1 ?_; try simp only [Act.put, pz1, pz2, pz3]
  refine tk 2 ?_; try simp only [Act.put, pz1, pz2, pz3]
  refine tk 3 ?_; try simp only [Act.put, pz1, pz2, pz3]
  refine tk 4 ?_; try simp only [Act.put, pz1, pz2, pz3]
  refine tk 6 ?_; try simp only [Act.put, pz1, pz2, pz3]
  refine tk 7 ?_; try simp only [Act.put, pz1, pz2, pz3]
  refine tk 8 ?_; try simp only [Act.put, pz1, pz2, pz3]
  refine tk 9 ?_; try simp only [Act.put, pz1, pz2, pz3]
  refine tk 10 ?_; try simp only [Act.put, pz1, pz2, pz3]
  refine wpAnyH_ready (rs := [5]) (by kernel_rfl) (by simp) ?_
  refine AllReadyH.cons (o := ⟨some 10, .call { callee := .value (.func 155), args := #[.tmp 8, .tmp 9], argTypes := #[27, 3] }, 3, "clear.go:88", #[⟨3, .data⟩, ⟨4, .data⟩], none⟩) rfl (fun K hK => ?_) AllReadyH.nil
  go_simp
  (go_at_call 155; ((with_reducible refine (used_any F.m F.gx F.gb F.Af F.nf F.cf a b c d e fs B _ s.ch hD.chip).mono ?_); rintro e' w1 ⟨rfl, rfl⟩; rw [HU.out]))
  go_wp2_with fail
  refine hK.out _ _ ?_ (fun hNew => ?_)
  · (first | with_reducible exact QD | assumption)
  clear hK K hHeld
  have hHeld := hNew
  clear hNew
  try simp only [Act.put, pz1, pz2, pz3]
  refine tk 11 ?_; try simp only [Act.put, pz1, pz2, pz3]
  refine tk 12 ?_; try simp only [Act.put, pz1, pz2, pz3]
  refine wpAnyH_done (by kernel_rfl) ?_ _
  refine NoPanic.normal ?_
  go_wp2_with fail
  go_ret
  exact ⟨rfl, below_dr w⟩
theorem roomy_f (F : FlK) (a b c d e : Int) (fs : List Flt) (L N : Nat) (s : FlS) (B u : Int) (w : World) (hF : FlW w F a b c d e fs L N s) (hu : s.ch.ask a B 0 = u) (T : Bool) (hT : (goodB a fs s.ch B && !(u == b)) = T) :
    Calls Tryz.prog 143 #[.pointer (some ⟨F.fm, 0, none⟩), .int .i64 B] w fun e' w' => e' = .returned (.bool T) ∧ Below w.heap.size w w' := by
  have HU := Lib.hid hu
  obtain ⟨G, hG⟩ : ∃ G, goodB a fs s.ch B = G := ⟨_, rfl⟩
  obtain ⟨T0, hT0⟩ : ∃ T, (u == b) = T := ⟨_, rfl⟩
  rw [hG, hT0] at hT
  subst hT
  have HG := Lib.hid hG
  have HT := Lib.hid hT0
  clear hu hG hT0
  cases G
  · skip
    go_enter Tryz.func143, Tryz.ntmps143
    go_wp2_with ((go_at_call 139; ((with_reducible refine (good_b F a b c d e fs L N s _ _ hF _ HG.out).mono ?_); rintro e' w1 ⟨rfl, b1⟩; have hG := hF.below b1)))
    go_ret
    exact ⟨rfl, b1⟩
  · skip
    go_enter Tryz.func143, Tryz.ntmps143
    go_wp2_with (first | (go_at_call 139; ((with_reducible refine (good_b F a b c d e fs L N s _ _ hF _ HG.out).mono ?_); rintro e' w1 ⟨rfl, b1⟩; have hG := hF.below b1)) | (go_at_call 169; ((with_reducible refine (full_f F a b c d e fs L N s _ _ _ hG HU.out _ HT.out).mono ?_); rintro e' w2 ⟨rfl, b2⟩; skip)))
    go_ret
    exact ⟨by simp, btr b1 b1.size b2⟩
def thoseL (a : Int) (fs : List Flt) (s : ChS) (so : Nat → Bool) (n : Nat) : List Bool := (List.range n).map fun (k : Nat) => goodB a fs s (k : Int) && so k
theorem thoseL_len (a : Int) (fs : List Flt) (s : ChS) (so : Nat → Bool) (n : Nat) : (thoseL a fs s so n).length = n := by simp [thoseL]
theorem thoseL_at {a : Int} {fs : List Flt} {s : ChS} {so : Nat → Bool} {n k : Nat} (h : k < n) : (thoseL a fs s so n)[k]? = some (goodB a fs s (k : Int) && so k) := by
  unfold thoseL
  rw [List.getElem?_map, List.getElem?_range h]
  rfl
theorem those_every (F : FlK) (a b c d e : Int) (fs : List Flt) (L N : Nat) (s : FlS) (w : World) (hF : FlW w F a b c d e fs L N s) (NA : Nat) (hA : a = (NA : Int)) (l : List Bool) (hl : thoseL a fs s.ch (fun _ => true) NA = l) :
    Calls Tryz.prog 103 #[.pointer (some ⟨F.fm, 0, none⟩), .func (.func 104) #[.pointer (some ⟨F.fm, 0, none⟩)] #[]] w fun e' w' => (∃ g, e' = .returned (.slice (some ⟨g, 0, none⟩) NA NA) ∧ RowT w' g 4 (l.map Value.bool) ∧ w.heap.size ≤ g) ∧ Below w.heap.size w w' := by
  have hm := may_bd hF.may
  obtain ⟨ha1, ha2, -⟩ := hm
  subst hA
  have k1 := hF.c1
  have hlen : l.length = NA := by rw [← hl]; exact thoseL_len _ _ _ _ _
  have HL := Lib.hid hl
  have HLN : Hid ((l.map Value.bool).length = NA) := Lib.hid (by rw [List.length_map]; exact hlen)
  clear hl hlen
  go_enter Tryz.func103, Tryz.ntmps103
  go_upto_region 2 with (at_make; obtain ⟨ti0, hi, hz0, hz1, hz2⟩ := info_parts infoBoolF; refine wpList_make_full _ rfl _ _ 83 rfl w.heap.size 4 ti0 (.bool false) 1 Tryz.underlying83 hi hz0 hz1 _ _ _ _ NA rfl rfl rfl rfl (by rw [hz2]; omega) (by unfold maxLen; omega) (Nat.le_refl _) ?_; intro w1 hown1 hgrow1; clear hi hz0 hz1 hz2)
  have hB1 : Below w.heap.size w w1 := (Below.refl _ _).grown hgrow1 (Nat.le_refl _) (fun j hj => by cases hj)
  have hR0 := RowT.own hown1
  rw [show (madeCells (Value.bool false).cells (NA * 1)).toList = List.replicate (NA * 1) (Value.bool false) from toList_madeCells_one _ _, Nat.mul_one] at hR0
  have hR1 : RowT w1 w.heap.size 4 ((l.map Value.bool).take 0 ++ List.replicate (NA - 0) (.bool false)) := by simpa using hR0
  clear hown1 hgrow1 hR0
  obtain ⟨g, hg⟩ : ∃ g, w.heap.size = g := ⟨_, rfl⟩
  have HGG := Lib.hid hg
  rw [hg] at hR1 ⊢
  have hBg : Below g w w1 := by rw [← hg]; exact hB1
  clear hg
  go_wp2_with fail
  go_loopw [15] (fun i wr => ∃ k : Nat, k ≤ NA ∧ i = .int .i64 k ∧ RowT wr g 4 ((l.map Value.bool).take k ++ List.replicate (NA - k) (.bool false)) ∧ Below g w wr) (fun i _ => NA - (intOf i).toNat)
  case atStart => exact ⟨0, by omega, rfl, hR1, hBg⟩
  case round =>
    obtain ⟨k, hk, rfl, hR, HB⟩ := hrel
    have hG := hF.below (by rw [HGG.out]; exact HB)
    by_cases hlt : k < NA
    · have i0 : (0 : Int) ≤ (k : Int) := by omega
      have i1 : (k : Int) < (NA : Int) := by omega
      obtain ⟨T, hT⟩ : ∃ T, goodB ((NA : Nat) : Int) fs s.ch (k : Int) = T := ⟨_, rfl⟩
      have HG := Lib.hid hT
      obtain ⟨U, hU⟩ : ∃ U, (fun _ => true) k = U := ⟨_, rfl⟩
      have HU := Lib.hid hU
      have HAT := Lib.hid (fill_at (z := Value.bool false) HLN.out hlt)
      have HNX : Hid (((l.map Value.bool).take k ++ List.replicate (NA - k) (Value.bool false)).set k (.bool (T && U)) = (l.map Value.bool).take (k + 1) ++ List.replicate (NA - (k + 1)) (.bool false)) := Lib.hid (fill_next HLN.out (by
        have h1 := thoseL_at (a := (NA : Int)) (fs := fs) (s := s.ch) (so := fun _ => true) hlt
        rw [HL.out] at h1
        rw [List.getElem?_map, h1, ← hT, ← hU]
        rfl))
      have HLL : Hid (k < ((l.map Value.bool).take k ++ List.replicate (NA - k) (Value.bool false)).length) := Lib.hid (by
        have := HLN.out
        rw [List.length_append, List.length_take, List.length_replicate]
        omega)
      obtain ⟨xs, hxs⟩ : ∃ xs, (l.map Value.bool).take k ++ List.replicate (NA - k) (Value.bool false) = xs := ⟨_, rfl⟩
      rw [hxs] at hR HAT HNX HLL
      clear hT hU hxs
      cases T
      · go_wp2_with ((go_at_call 139; ((with_reducible refine (good_b F _ b c d e fs L N s _ _ hG _ HG.out).mono ?_); rintro e' w2 ⟨rfl, b2⟩; have hG2 := hG.below b2; have hR2 := hR.below b2; have r2 := hR2.cell_ HAT.out; have fz2 := hR2.free k)))
        have hS := hR2.set_ HLL.out (.bool false)
        have e9 : xs.set k (.bool false) = (l.map Value.bool).take (k + 1) ++ List.replicate (NA - (k + 1)) (Value.bool false) := HNX.out
        rw [e9] at hS
        go_roundw
        case rel => exact ⟨k + 1, by omega, by go_num, hS, (btr HB (Nat.le_of_lt hR.lt) b2).setCell (Nat.le_refl _) _⟩
        case measure => simp [intOf]; omega
      · obtain rfl : true = U := HU.out
        go_wp2_with (first | (go_at_call 139; ((with_reducible refine (good_b F _ b c d e fs L N s _ _ hG _ HG.out).mono ?_); rintro e' w2 ⟨rfl, b2⟩; have hG2 := hG.below b2; have hR2 := hR.below b2; have r2 := hR2.cell_ HAT.out; have fz2 := hR2.free k)) | (go_at_call 104; ((with_reducible refine (every_f F _ b c d e fs L N s _ _ hG2).mono ?_); rintro e' w3 ⟨rfl, rfl⟩; skip)))
        have hS := hR2.set_ HLL.out (.bool true)
        have e9 : xs.set k (.bool true) = (l.map Value.bool).take (k + 1) ++ List.replicate (NA - (k + 1)) (Value.bool false) := by rw [← HNX.out, Bool.true_and]
        rw [e9] at hS
        go_roundw
        case rel => exact ⟨k + 1, by omega, by go_num, hS, (btr HB (Nat.le_of_lt hR.lt) b2).setCell (Nat.le_refl _) _⟩
        case measure => simp [intOf]; omega
    · obtain rfl : NA = k := by omega
      have hR9 := hR
      rw [Nat.sub_self, List.replicate_zero, List.append_nil, List.take_of_length_le (by rw [HLN.out]; exact Nat.le_refl _)] at hR9
      clear hR
      go_wp2_with fail
      go_ret
      exact ⟨⟨g, rfl, hR9, by rw [HGG.out]; exact Nat.le_refl _⟩, by rw [HGG.out]; exact HB⟩
theorem those_erased (F : FlK) (a b c d e : Int) (fs : List Flt) (L N : Nat) (s : FlS) (w : World) (hF : FlW w F a b c d e fs L N s) (NA : Nat) (hA : a = (NA : Int)) (l : List Bool) (hl : thoseL a fs s.ch (fun k => s.ch.ask a (k : Int) 0 == 0) NA = l) :
    Calls Tryz.prog 103 #[.pointer (some ⟨F.fm, 0, none⟩), .func (.func 147) #[.pointer (some ⟨F.fm, 0, none⟩)] #[]] w fun e' w' => (∃ g, e' = .returned (.slice (some ⟨g, 0, none⟩) NA NA) ∧ RowT w' g 4 (l.map Value.bool) ∧ w.heap.size ≤ g) ∧ Below w.heap.size w w' := by
  have hm := may_bd hF.may
  obtain ⟨ha1, ha2, -⟩ := hm
  subst hA
  have k1 := hF.c1
  have hlen : l.length = NA := by rw [← hl]; exact thoseL_len _ _ _ _ _
  have HL := Lib.hid hl
  have HLN : Hid ((l.map Value.bool).length = NA) := Lib.hid (by rw [List.length_map]; exact hlen)
  clear hl hlen
  go_enter Tryz.func103, Tryz.ntmps103
  go_upto_region 2 with (at_make; obtain ⟨ti0, hi, hz0, hz1, hz2⟩ := info_parts infoBoolF; refine wpList_make_full _ rfl _ _ 83 rfl w.heap.size 4 ti0 (.bool false) 1 Tryz.underlying83 hi hz0 hz1 _ _ _ _ NA rfl rfl rfl rfl (by rw [hz2]; omega) (by unfold maxLen; omega) (Nat.le_refl _) ?_; intro w1 hown1 hgrow1; clear hi hz0 hz1 hz2)
  have hB1 : Below w.heap.size w w1 := (Below.refl _ _).grown hgrow1 (Nat.le_refl _) (fun j hj => by cases hj)
  have hR0 := RowT.own hown1
  rw [show (madeCells (Value.bool false).cells (NA * 1)).toList = List.replicate (NA * 1) (Value.bool false) from toList_madeCells_one _ _, Nat.mul_one] at hR0
  have hR1 : RowT w1 w.heap.size 4 ((l.map Value.bool).take 0 ++ List.replicate (NA - 0) (.bool false)) := by simpa using hR0
  clear hown1 hgrow1 hR0
  obtain ⟨g, hg⟩ : ∃ g, w.heap.size = g := ⟨_, rfl⟩
  have HGG := Lib.hid hg
  rw [hg] at hR1 ⊢
  have hBg : Below g w w1 := by rw [← hg]; exact hB1
  clear hg
  go_wp2_with fail
  go_loopw [15] (fun i wr => ∃ k : Nat, k ≤ NA ∧ i = .int .i64 k ∧ RowT wr g 4 ((l.map Value.bool).take k ++ List.replicate (NA - k) (.bool false)) ∧ Below g w wr) (fun i _ => NA - (intOf i).toNat)
  case atStart => exact ⟨0, by omega, rfl, hR1, hBg⟩
  case round =>
    obtain ⟨k, hk, rfl, hR, HB⟩ := hrel
    have hG := hF.below (by rw [HGG.out]; exact HB)
    by_cases hlt : k < NA
    · have i0 : (0 : Int) ≤ (k : Int) := by omega
      have i1 : (k : Int) < (NA : Int) := by omega
      obtain ⟨T, hT⟩ : ∃ T, goodB ((NA : Nat) : Int) fs s.ch (k : Int) = T := ⟨_, rfl⟩
      have HG := Lib.hid hT
      obtain ⟨U, hU⟩ : ∃ U, (fun k => s.ch.ask ((NA : Nat) : Int) (k : Int) 0 == 0) k = U := ⟨_, rfl⟩
      have HU := Lib.hid hU
      have HAT := Lib.hid (fill_at (z := Value.bool false) HLN.out hlt)
      have HNX : Hid (((l.map Value.bool).take k ++ List.replicate (NA - k) (Value.bool false)).set k (.bool (T && U)) = (l.map Value.bool).take (k + 1) ++ List.replicate (NA - (k + 1)) (.bool false)) := Lib.hid (fill_next HLN.out (by
        have h1 := thoseL_at (a := (NA : Int)) (fs := fs) (s := s.ch) (so := fun k => s.ch.ask ((NA : Nat) : Int) (k : Int) 0 == 0) hlt
        rw [HL.out] at h1
        rw [List.getElem?_map, h1, ← hT, ← hU]
        rfl))
      have HLL : Hid (k < ((l.map Value.bool).take k ++ List.replicate (NA - k) (Value.bool false)).length) := Lib.hid (by
        have := HLN.out
        rw [List.length_append, List.length_take, List.length_replicate]
        omega)
      obtain ⟨xs, hxs⟩ : ∃ xs, (l.map Value.bool).take k ++ List.replicate (NA - k) (Value.bool false) = xs := ⟨_, rfl⟩
      rw [hxs] at hR HAT HNX HLL
      clear hT hU hxs
      cases T
      · go_wp2_with ((go_at_call 139; ((with_reducible refine (good_b F _ b c d e fs L N s _ _ hG _ HG.out).mono ?_); rintro e' w2 ⟨rfl, b2⟩; have hG2 := hG.below b2; have hR2 := hR.below b2; have r2 := hR2.cell_ HAT.out; have fz2 := hR2.free k)))
        have hS := hR2.set_ HLL.out (.bool false)
        have e9 : xs.set k (.bool false) = (l.map Value.bool).take (k + 1) ++ List.replicate (NA - (k + 1)) (Value.bool false) := HNX.out
        rw [e9] at hS
        go_roundw
        case rel => exact ⟨k + 1, by omega, by go_num, hS, (btr HB (Nat.le_of_lt hR.lt) b2).setCell (Nat.le_refl _) _⟩
        case measure => simp [intOf]; omega
      · skip
        go_wp2_with (first | (go_at_call 139; ((with_reducible refine (good_b F _ b c d e fs L N s _ _ hG _ HG.out).mono ?_); rintro e' w2 ⟨rfl, b2⟩; have hG2 := hG.below b2; have hR2 := hR.below b2; have r2 := hR2.cell_ HAT.out; have fz2 := hR2.free k)) | (go_at_call 147; ((with_reducible refine (erased_f F _ b c d e fs L N s _ _ _ hG2 rfl _ HU.out).mono ?_); rintro e' w3 ⟨rfl, rfl⟩; skip)))
        have hS := hR2.set_ HLL.out (.bool U)
        have e9 : xs.set k (.bool U) = (l.map Value.bool).take (k + 1) ++ List.replicate (NA - (k + 1)) (Value.bool false) := by rw [← HNX.out, Bool.true_and]
        rw [e9] at hS
        go_roundw
        case rel => exact ⟨k + 1, by omega, by go_num, hS, (btr HB (Nat.le_of_lt hR.lt) b2).setCell (Nat.le_refl _) _⟩
        case measure => simp [intOf]; omega
    · obtain rfl : NA = k := by omega
      have hR9 := hR
      rw [Nat.sub_self, List.replicate_zero, List.append_nil, List.take_of_length_le (by rw [HLN.out]; exact Nat.le_refl _)] at hR9
      clear hR
      go_wp2_with fail
      go_ret
      exact ⟨⟨g, rfl, hR9, by rw [HGG.out]; exact Nat.le_refl _⟩, by rw [HGG.out]; exact HB⟩
def wearL (a : Int) (s : ChS) (n : Nat) : List Int := (List.range n).map fun (k : Nat) => s.ask a (k : Int) 1
theorem wearL_len (a : Int) (s : ChS) (n : Nat) : (wearL a s n).length = n := by simp [wearL]
theorem wearL_at {a : Int} {s : ChS} {n k : Nat} (h : k < n) : (wearL a s n)[k]? = some (s.ask a (k : Int) 1) := by
  unfold wearL
  rw [List.getElem?_map, List.getElem?_range h]
  rfl
theorem wears_f (F : FlK) (a b c d e : Int) (fs : List Flt) (L N : Nat) (s : FlS) (w : World) (hF : FlW w F a b c d e fs L N s) (NA : Nat) (hA : a = (NA : Int)) (l : List Int) (hl : wearL a s.ch NA = l) :
    Calls Tryz.prog 102 #[.pointer (some ⟨F.fm, 0, none⟩)] w fun e' w' => (∃ g, e' = .returned (.slice (some ⟨g, 0, none⟩) NA NA) ∧ RowT w' g 3 (l.map (Value.int .i64)) ∧ w.heap.size ≤ g) ∧ Below w.heap.size w w' := by
  have hm := may_bd hF.may
  obtain ⟨ha1, ha2, -⟩ := hm
  subst hA
  have k1 := hF.c1
  have hlen : l.length = NA := by rw [← hl]; exact wearL_len _ _ _
  have HL := Lib.hid hl
  have HLN : Hid ((l.map (Value.int .i64)).length = NA) := Lib.hid (by rw [List.length_map]; exact hlen)
  clear hl hlen
  go_enter Tryz.func102, Tryz.ntmps102
  go_upto_region 2 with (at_make; obtain ⟨ti0, hi, hz0, hz1, hz2⟩ := info_parts infoIntF; refine wpList_make_full _ rfl _ _ 24 rfl w.heap.size 3 ti0 (.int .i64 0) 1 Tryz.underlying24 hi hz0 hz1 _ _ _ _ NA rfl rfl rfl rfl (by rw [hz2]; omega) (by unfold maxLen; omega) (Nat.le_refl _) ?_; intro w1 hown1 hgrow1; clear hi hz0 hz1 hz2)
  have hB1 : Below w.heap.size w w1 := (Below.refl _ _).grown hgrow1 (Nat.le_refl _) (fun j hj => by cases hj)
  have hR0 := RowT.own hown1
  rw [show (madeCells (Value.int .i64 0).cells (NA * 1)).toList = List.replicate (NA * 1) (Value.int .i64 0) from toList_madeCells_one _ _, Nat.mul_one] at hR0
  have hR1 : RowT w1 w.heap.size 3 ((l.map (Value.int .i64)).take 0 ++ List.replicate (NA - 0) (.int .i64 0)) := by simpa using hR0
  clear hown1 hgrow1 hR0
  obtain ⟨g, hg⟩ : ∃ g, w.heap.size = g := ⟨_, rfl⟩
  have HGG := Lib.hid hg
  rw [hg] at hR1 ⊢
  have hBg : Below g w w1 := by rw [← hg]; exact hB1
  clear hg
  go_wp2_with fail
  go_loopw [13] (fun i wr => ∃ k : Nat, k ≤ NA ∧ i = .int .i64 k ∧ RowT wr g 3 ((l.map (Value.int .i64)).take k ++ List.replicate (NA - k) (.int .i64 0)) ∧ Below g w wr) (fun i _ => NA - (intOf i).toNat)
  case atStart => exact ⟨0, by omega, rfl, hR1, hBg⟩
  case round =>
    obtain ⟨k, hk, rfl, hR, HB⟩ := hrel
    have hG := hF.below (by rw [HGG.out]; exact HB)
    by_cases hlt : k < NA
    · have i0 : (0 : Int) ≤ (k : Int) := by omega
      have i1 : (k : Int) < (NA : Int) := by omega
      obtain ⟨U, hU⟩ : ∃ U, s.ch.ask ((NA : Nat) : Int) (k : Int) 1 = U := ⟨_, rfl⟩
      have HU := Lib.hid hU
      have HAT := Lib.hid (fill_at (z := Value.int .i64 0) HLN.out hlt)
      have HNX : Hid (((l.map (Value.int .i64)).take k ++ List.replicate (NA - k) (Value.int .i64 0)).set k (.int .i64 U) = (l.map (Value.int .i64)).take (k + 1) ++ List.replicate (NA - (k + 1)) (.int .i64 0)) := Lib.hid (fill_next HLN.out (by
        have h1 := wearL_at (a := (NA : Int)) (s := s.ch) hlt
        rw [HL.out] at h1
        rw [List.getElem?_map, h1, ← hU]
        rfl))
      have HLL : Hid (k < ((l.map (Value.int .i64)).take k ++ List.replicate (NA - k) (Value.int .i64 0)).length) := Lib.hid (by
        have := HLN.out
        rw [List.length_append, List.length_take, List.length_replicate]
        omega)
      obtain ⟨xs, hxs⟩ : ∃ xs, (l.map (Value.int .i64)).take k ++ List.replicate (NA - k) (Value.int .i64 0) = xs := ⟨_, rfl⟩
      rw [hxs] at hR HAT HNX HLL
      have r2 := hR.cell_ HAT.out
      have fz2 := hR.free k
      have k0 := hG.c0
      clear hU hxs
      go_wp2_with ((go_at_call 52; ((with_reducible refine (wear_any F.m F.gx F.gb F.Af F.nf F.cf _ b c d e fs (k : Int) _ s.ch hG.chip).mono ?_); rintro e' w2 ⟨rfl, rfl⟩; rw [HU.out])))
      have hS := hR.set_ HLL.out (.int .i64 U)
      have e9 : xs.set k (.int .i64 U) = (l.map (Value.int .i64)).take (k + 1) ++ List.replicate (NA - (k + 1)) (Value.int .i64 0) := HNX.out
      rw [e9] at hS
      go_roundw
      case rel => exact ⟨k + 1, by omega, by go_num, hS, HB.setCell (Nat.le_refl _) _⟩
      case measure => simp [intOf]; omega
    · obtain rfl : NA = k := by omega
      have hR9 := hR
      rw [Nat.sub_self, List.replicate_zero, List.append_nil, List.take_of_length_le (by rw [HLN.out]; exact Nat.le_refl _)] at hR9
      clear hR
      go_wp2_with fail
      go_ret
      exact ⟨⟨g, rfl, hR9, by rw [HGG.out]; exact Nat.le_refl _⟩, by rw [HGG.out]; exact HB⟩
end Go.Proofs.YtkpcohfdcilfcaaGreat
namespace Go.Proofs.YtkpcohfdcilfcaaGreat
def ext (ws : List Int) (good : List Bool) (s : Int) : Nat → Int
  | 0 => -1
  | k + 1 => if good.getD k false = true ∧ (ext ws good s k < 0 ∨ s * ws.getD k 0 < s * ws.getD (ext ws good s k).toNat 0) then (k : Int) else ext ws good s k
def cntW (good : List Bool) : Nat → Nat
  | 0 => 0
  | k + 1 => cntW good k + if good.getD k false = true then 1 else 0
theorem ext_bd (ws : List Int) (good : List Bool) (s : Int) : ∀ k, ext ws good s k = -1 ∨ (0 ≤ ext ws good s k ∧ ext ws good s k < (k : Int))
  | 0 => Or.inl rfl
  | k + 1 => by
    have h := ext_bd ws good s k
    unfold ext
    split
    · right; omega
    · rcases h with h | h
      · left; exact h
      · right; omega
theorem ext_neg (ws : List Int) (good : List Bool) (s : Int) : ∀ k, ext ws good s k < 0 ↔ cntW good k = 0
  | 0 => by simp [ext, cntW]
  | k + 1 => by
    have h := ext_neg ws good s k
    have hb := ext_bd ws good s k
    unfold ext cntW
    cases hg : good.getD k false
    · simpa using h
    · simp only [true_and, if_true]
      constructor
      · intro h2
        split at h2
        · omega
        · rename_i h3
          rw [not_or] at h3
          omega
      · intro h2
        omega
theorem ext_one (ws : List Int) (good : List Bool) (s t : Int) : ∀ k, cntW good k ≤ 1 → ext ws good s k = ext ws good t k
  | 0, _ => rfl
  | k + 1, h => by
    have hs := ext_neg ws good s k
    have ht := ext_neg ws good t k
    unfold ext
    cases hg : good.getD k false
    · simp only [Bool.false_eq_true, false_and, if_false]
      refine ext_one ws good s t k ?_
      unfold cntW at h
      omega
    · unfold cntW at h
      rw [hg] at h
      simp only [if_true] at h
      have h0 : cntW good k = 0 := by omega
      rw [if_pos ⟨rfl, Or.inl (hs.2 h0)⟩, if_pos ⟨rfl, Or.inl (ht.2 h0)⟩]
def mlen (ws : List Int) (good : List Bool) : Nat := min ws.length good.length
def spreadI (ws : List Int) (good : List Bool) : Int :=
  if ext ws good 1 (mlen ws good) < 0 then 0 else ws.getD (ext ws good (-1) (mlen ws good)).toNat 0 - ws.getD (ext ws good 1 (mlen ws good)).toNat 0
theorem spread_few {ws : List Int} {good : List Bool} (h : cntW good (mlen ws good) < 2) : spreadI ws good = 0 := by
  unfold spreadI
  rw [ext_one ws good (-1) 1 _ (by omega)]
  split <;> omega
theorem cntW_le (good : List Bool) : ∀ k, cntW good k ≤ k
  | 0 => by simp [cntW]
  | k + 1 => by
    have h := cntW_le good k
    unfold cntW
    split <;> omega
end Go.Proofs.YtkpcohfdcilfcaaGreat
namespace Go.Proofs.YtkpcohfdcilfcaaGreat
open Go.ChangeShapes Go.WideShapes Go.ChangeAt Go.RowKit
theorem look_le (ws : List Int) (good : List Bool) (A1 A2 : Option Addr) (c1 c2 : Nat) (w : World)
    (h1 : Sl w w.heap.size A1 (ws.map (Value.int .i64))) (h2 : Sl w w.heap.size A2 (good.map Value.bool)) (n1 : ws.length ≤ 1000000) (n2 : good.length ≤ 1000000)
    (hw : ∀ z ∈ ws, -4611686018427387904 ≤ z ∧ z ≤ 4611686018427387904) (hm : ws.length ≤ good.length) :
    Calls Tryz.prog 142 #[.slice A1 ws.length c1, .slice A2 good.length c2] w fun e w' =>
      e = .returned (.agg #[.int .i64 (cntW good (mlen ws good)), .int .i64 (ext ws good 1 (mlen ws good)), .int .i64 (ext ws good (-1) (mlen ws good))]) ∧ Below w.heap.size w w' := by
  have em : mlen ws good = ws.length := by unfold mlen; omega
  rw [em]
  have Em := Lib.hid em
  have HW := Lib.hid hw
  clear em hw
  go_enter Tryz.func142, Tryz.ntmps142
  go_wp2
  go_loopw [13] (fun i wr => ∃ k : Nat, k ≤ ws.length ∧ i = .int .i64 k ∧ Below w.heap.size w wr ∧ Blk wr w.heap.size 162 #[.int .i64 0, .int .i64 0, .int .i64 0] ∧
      Blk wr (w.heap.size + 1) 162 #[.int .i64 (cntW good k), .int .i64 (ext ws good 1 k), .int .i64 (ext ws good (-1) k)]) (fun i _ => ws.length - (intOf i).toNat)
  case atStart =>
    refine ⟨0, Nat.zero_le _, rfl, ((Below.refl _ _).alloc (Nat.le_refl _) _).alloc (by simp) _, (Blk.new_ _ _ _).alloc_ _, ?_⟩
    have := Blk.new_ (w.alloc (.cells #[.int .i64 0, .int .i64 0, .int .i64 0] 162)) 162 #[.int .i64 0, .int .i64 (-1), .int .i64 (-1)]
    simpa [cntW, ext] using this
  case round =>
    obtain ⟨k, hk, rfl, hBr, R0, R1⟩ := hrel
    by_cases hlt : k < ws.length
    · have hk1 : k < ws.length := by omega
      have hk2 : k < good.length := by omega
      have s1 := (h1.below hBr).at_ (by simpa using (by omega : 0 < ws.length))
      have s2 := (h2.below hBr).at_ (by simpa using (by omega : 0 < good.length))
      obtain ⟨b1, o1, rfl, l1, q1⟩ := s1
      obtain ⟨b2, o2, rfl, l2, q2⟩ := s2
      obtain ⟨g, hg⟩ : ∃ g, good.getD k false = g := ⟨_, rfl⟩
      have cg : wr.cell? ⟨b2, o2 + k, none⟩ = some (.bool g) := q2 k _ (by rw [← hg]; simp [hk2])
      have Q1 := Lib.hid q1
      clear q2
      have w0 := R1.cell_ 0
      have w1 := R1.cell_ 1
      have w2 := R1.cell_ 2
      have wf := R1.free
      simp at w0 w1 w2
      have i1 : (0 : Int) ≤ (k : Int) := by omega
      have i2 : (k : Int) < (ws.length : Int) := by omega
      have i3 : (k : Int) < (good.length : Int) := by omega
      have l3 := R1.lt
      have Hg := Lib.hid hg
      have Hne1 : b1 ≠ w.heap.size + 1 := by omega
      have Hne2 : b2 ≠ w.heap.size + 1 := by omega
      have eb1 := ext_bd ws good 1 k
      have eb2 := ext_bd ws good (-1) k
      have en1 := ext_neg ws good 1 k
      have en2 := ext_neg ws good (-1) k
      have ec := cntW_le good k
      obtain ⟨e1, he1⟩ : ∃ x, ext ws good 1 k = x := ⟨_, rfl⟩
      obtain ⟨e2, he2⟩ : ∃ x, ext ws good (-1) k = x := ⟨_, rfl⟩
      obtain ⟨c, hc⟩ : ∃ x, cntW good k = x := ⟨_, rfl⟩
      rw [he1] at w1 eb1 en1 R1
      rw [he2] at w2 eb2 en2 R1
      rw [hc] at w0 en1 en2 ec R1
      have He1 := Lib.hid he1
      have He2 := Lib.hid he2
      have Hc := Lib.hid hc
      clear hg he1 he2 hc
      cases g
      · clear q1
        go_wp2
        go_roundw
        case rel =>
          refine ⟨k + 1, by omega, by go_num, hBr, R0, ?_⟩
          have a1 : cntW good (k + 1) = c := by unfold cntW; rw [Hg.out, Hc.out]; simp
          have a2 : ext ws good 1 (k + 1) = e1 := by unfold ext; rw [Hg.out, He1.out]; simp
          have a3 : ext ws good (-1) (k + 1) = e2 := by unfold ext; rw [Hg.out, He2.out]; simp
          rw [a1, a2, a3]
          exact R1
        case measure => simp [intOf]; omega
      · have kw : ∃ z, ws.getD k 0 = z := ⟨_, rfl⟩
        obtain ⟨zk, hzk⟩ := kw
        have ck : wr.cell? ⟨b1, o1 + k, none⟩ = some (.int .i64 zk) := q1 k _ (by rw [← hzk]; simp [hk1])
        have a1 : cntW good (k + 1) = c + 1 := by unfold cntW; rw [Hg.out, Hc.out]; simp
        have Ha1 := Lib.hid a1
        have Hzk := Lib.hid hzk
        clear hzk a1 q1
        have i4 : (0 : Int) ≤ (c : Int) := by omega
        have i5 : (c : Int) ≤ 1000000 := by omega
        by_cases hneg : e1 < 0
        · have hc0 : c = 0 := en1.1 hneg
          have f1 : e1 = -1 := by omega
          have f2 : e2 = -1 := by omega
          subst f1
          subst f2
          subst hc0
          clear w0 w1 w2
          have w0 := R1.cell_ 0
          have w1 := R1.cell_ 1
          have w2 := R1.cell_ 2
          simp at w0 w1 w2
          go_wp2
          go_quiet (fail)
          go_wp2
          go_quiet (fail)
          go_wp2
          go_roundw
          case rel =>
            have a2 : ext ws good 1 (k + 1) = k := by unfold ext; rw [Hg.out, He1.out]; simp
            have a3 : ext ws good (-1) (k + 1) = k := by unfold ext; rw [Hg.out, He2.out]; simp
            refine ⟨k + 1, by omega, by go_num, ?_, ?_, ?_⟩
            · exact (below_dn ((below_dn (hBr.setCell (p := ⟨w.heap.size + 1, 0, none⟩) (by simp) _) _).setCell (p := ⟨w.heap.size + 1, 1, none⟩) (by simp) _) _).setCell (p := ⟨w.heap.size + 1, 2, none⟩) (by simp) _
            · exact ((((R0.far (p := ⟨w.heap.size + 1, 0, none⟩) (by simp) _).drewN_ _).far (p := ⟨w.heap.size + 1, 1, none⟩) (by simp) _).drewN_ _).far (p := ⟨w.heap.size + 1, 2, none⟩) (by simp) _
            · rw [Ha1.out, a2, a3]
              exact ((((R1.set_ 0 _).drewN_ _).set_ 1 _).drewN_ _).set_ 2 _
          case measure => simp [intOf]; omega
        · obtain ⟨j1, rfl⟩ : ∃ j : Nat, e1 = (j : Int) := ⟨e1.toNat, by omega⟩
          obtain ⟨j2, rfl⟩ : ∃ j : Nat, e2 = (j : Int) := ⟨e2.toNat, by omega⟩
          have hj1 : j1 < ws.length := by omega
          have hj2 : j2 < ws.length := by omega
          obtain ⟨z1, hz1⟩ : ∃ z, ws.getD j1 0 = z := ⟨_, rfl⟩
          obtain ⟨z2, hz2⟩ : ∃ z, ws.getD j2 0 = z := ⟨_, rfl⟩
          have v1 : wr.cell? ⟨b1, o1 + j1, none⟩ = some (.int .i64 z1) := Q1.out j1 _ (by rw [← hz1]; simp [hj1])
          have v2 : wr.cell? ⟨b1, o1 + j2, none⟩ = some (.int .i64 z2) := Q1.out j2 _ (by rw [← hz2]; simp [hj2])
          have a2 : ext ws good 1 (k + 1) = if zk < z1 then (k : Int) else j1 := by
            unfold ext
            rw [Hg.out, He1.out, Hzk.out, Int.toNat_natCast, hz1, Int.one_mul, Int.one_mul]
            by_cases h : zk < z1 <;> simp [h] <;> omega
          have a3 : ext ws good (-1) (k + 1) = if z2 < zk then (k : Int) else j2 := by
            unfold ext
            rw [Hg.out, He2.out, Hzk.out, Int.toNat_natCast, hz2]
            by_cases h : z2 < zk
            · have h' : -1 * zk < -1 * z2 := by omega
              simp only [h, h', or_true, and_self, if_true]
            · have h' : ¬ (-1 * zk < -1 * z2) := by omega
              have h'' : ¬ ((j2 : Int) < 0) := by omega
              simp only [h, h', h'', or_self, and_false, if_false]
          have m1 : (j1 : Int) < (ws.length : Int) := by omega
          have m2 : (j2 : Int) < (ws.length : Int) := by omega
          have m3 : (0 : Int) ≤ (j1 : Int) := by omega
          have m4 : (0 : Int) ≤ (j2 : Int) := by omega
          have heq : j1 = j2 → z1 = z2 := fun h => by rw [← hz1, ← hz2, h]
          have A2 := Lib.hid a2
          have A3 := Lib.hid a3
          clear w0 w1 w2 a2 a3 hz1 hz2 en1 en2 eb1 eb2 hneg
          have w0 := R1.cell_ 0
          have w1 := R1.cell_ 1
          have w2 := R1.cell_ 2
          simp at w0 w1 w2
          by_cases hj : j1 = j2
          · subst hj
            obtain rfl := heq rfl
            clear heq v2
            by_cases hA : zk < z1
            · have hB : ¬ z1 < zk := by omega
              have HA := Lib.hid hA
              have HB := Lib.hid hB
              go_wp2
              go_quiet (fail)
              go_wp2
              go_quiet (fail)
              go_wp2
              go_roundw
              case rel =>
                refine ⟨k + 1, by omega, by go_num, below_dn ((below_dn (hBr.setCell (p := ⟨w.heap.size + 1, 0, none⟩) (by simp) _) _).setCell (p := ⟨w.heap.size + 1, 1, none⟩) (by simp) _) _, (((R0.far (p := ⟨w.heap.size + 1, 0, none⟩) (by simp) _).drewN_ _).far (p := ⟨w.heap.size + 1, 1, none⟩) (by simp) _).drewN_ _, ?_⟩
                rw [Ha1.out, A2.out, A3.out, if_pos HA.out, if_neg (Int.not_lt.2 HB.out)]
                exact (((R1.set_ 0 _).drewN_ _).set_ 1 _).drewN_ _
              case measure => simp [intOf]; omega
            · by_cases hB : z1 < zk
              · have HA := Lib.hid hA
                have HB := Lib.hid hB
                go_wp2
                go_quiet (fail)
                go_wp2
                go_quiet (fail)
                go_wp2
                go_roundw
                case rel =>
                  refine ⟨k + 1, by omega, by go_num, (below_dn (hBr.setCell (p := ⟨w.heap.size + 1, 0, none⟩) (by simp) _) _).setCell (p := ⟨w.heap.size + 1, 2, none⟩) (by simp) _, ((R0.far (p := ⟨w.heap.size + 1, 0, none⟩) (by simp) _).drewN_ _).far (p := ⟨w.heap.size + 1, 2, none⟩) (by simp) _, ?_⟩
                  rw [Ha1.out, A2.out, A3.out, if_neg (Int.not_lt.2 HA.out), if_pos HB.out]
                  exact ((R1.set_ 0 _).drewN_ _).set_ 2 _
                case measure => simp [intOf]; omega
              · skip
                have HA := Lib.hid hA
                have HB := Lib.hid hB
                go_wp2
                go_quiet (fail)
                go_wp2
                go_quiet (fail)
                go_wp2
                go_roundw
                case rel =>
                  refine ⟨k + 1, by omega, by go_num, below_dn (hBr.setCell (p := ⟨w.heap.size + 1, 0, none⟩) (by simp) _) _, (R0.far (p := ⟨w.heap.size + 1, 0, none⟩) (by simp) _).drewN_ _, ?_⟩
                  rw [Ha1.out, A2.out, A3.out, if_neg (Int.not_lt.2 HA.out), if_neg (Int.not_lt.2 HB.out)]
                  exact (R1.set_ 0 _).drewN_ _
                case measure => simp [intOf]; omega
          · clear heq
            by_cases hA : zk < z1 <;> by_cases hB : z2 < zk
            · skip
              have HA := Lib.hid hA
              have HB := Lib.hid hB
              go_wp2
              go_quiet (fail)
              go_wp2
              go_quiet (fail)
              go_wp2
              go_roundw
              case rel =>
                refine ⟨k + 1, by omega, by go_num, (below_dn ((below_dn (hBr.setCell (p := ⟨w.heap.size + 1, 0, none⟩) (by simp) _) _).setCell (p := ⟨w.heap.size + 1, 1, none⟩) (by simp) _) _).setCell (p := ⟨w.heap.size + 1, 2, none⟩) (by simp) _, ((((R0.far (p := ⟨w.heap.size + 1, 0, none⟩) (by simp) _).drewN_ _).far (p := ⟨w.heap.size + 1, 1, none⟩) (by simp) _).drewN_ _).far (p := ⟨w.heap.size + 1, 2, none⟩) (by simp) _, ?_⟩
                rw [Ha1.out, A2.out, A3.out, if_pos HA.out, if_pos HB.out]
                exact ((((R1.set_ 0 _).drewN_ _).set_ 1 _).drewN_ _).set_ 2 _
              case measure => simp [intOf]; omega
            · skip
              have HA := Lib.hid hA
              have HB := Lib.hid hB
              go_wp2
              go_quiet (fail)
              go_wp2
              go_quiet (fail)
              go_wp2
              go_roundw
              case rel =>
                refine ⟨k + 1, by omega, by go_num, below_dn ((below_dn (hBr.setCell (p := ⟨w.heap.size + 1, 0, none⟩) (by simp) _) _).setCell (p := ⟨w.heap.size + 1, 1, none⟩) (by simp) _) _, (((R0.far (p := ⟨w.heap.size + 1, 0, none⟩) (by simp) _).drewN_ _).far (p := ⟨w.heap.size + 1, 1, none⟩) (by simp) _).drewN_ _, ?_⟩
                rw [Ha1.out, A2.out, A3.out, if_pos HA.out, if_neg (Int.not_lt.2 HB.out)]
                exact (((R1.set_ 0 _).drewN_ _).set_ 1 _).drewN_ _
              case measure => simp [intOf]; omega
            · skip
              have HA := Lib.hid hA
              have HB := Lib.hid hB
              go_wp2
              go_quiet (fail)
              go_wp2
              go_quiet (fail)
              go_wp2
              go_roundw
              case rel =>
                refine ⟨k + 1, by omega, by go_num, (below_dn (hBr.setCell (p := ⟨w.heap.size + 1, 0, none⟩) (by simp) _) _).setCell (p := ⟨w.heap.size + 1, 2, none⟩) (by simp) _, ((R0.far (p := ⟨w.heap.size + 1, 0, none⟩) (by simp) _).drewN_ _).far (p := ⟨w.heap.size + 1, 2, none⟩) (by simp) _, ?_⟩
                rw [Ha1.out, A2.out, A3.out, if_neg (Int.not_lt.2 HA.out), if_pos HB.out]
                exact ((R1.set_ 0 _).drewN_ _).set_ 2 _
              case measure => simp [intOf]; omega
            · skip
              have HA := Lib.hid hA
              have HB := Lib.hid hB
              go_wp2
              go_quiet (fail)
              go_wp2
              go_quiet (fail)
              go_wp2
              go_roundw
              case rel =>
                refine ⟨k + 1, by omega, by go_num, below_dn (hBr.setCell (p := ⟨w.heap.size + 1, 0, none⟩) (by simp) _) _, (R0.far (p := ⟨w.heap.size + 1, 0, none⟩) (by simp) _).drewN_ _, ?_⟩
                rw [Ha1.out, A2.out, A3.out, if_neg (Int.not_lt.2 HA.out), if_neg (Int.not_lt.2 HB.out)]
                exact (R1.set_ 0 _).drewN_ _
              case measure => simp [intOf]; omega
    · have hk' : k = ws.length := by omega
      subst hk'
      have w0 := R1.cell_ 0
      have w1 := R1.cell_ 1
      have w2 := R1.cell_ 2
      simp at w0 w1 w2
      have wf := R0.free
      have r0 := R0.cell_ 0
      have r1 := R0.cell_ 1
      have r2 := R0.cell_ 2
      simp at r0 r1 r2
      go_wp2
      refine bodyPost_ret (v := .agg #[.int .i64 (cntW good ws.length), .int .i64 (ext ws good 1 ws.length), .int .i64 (ext ws good (-1) ws.length)]) (by simp [results, Tryz.results142, go_sem, *]) rfl ⟨rfl, ?_⟩
      exact ((hBr.setCell (by simp) _).setCell (by simp) _).setCell (by simp) _
theorem look_ge (ws : List Int) (good : List Bool) (A1 A2 : Option Addr) (c1 c2 : Nat) (w : World)
    (h1 : Sl w w.heap.size A1 (ws.map (Value.int .i64))) (h2 : Sl w w.heap.size A2 (good.map Value.bool)) (n1 : ws.length ≤ 1000000) (n2 : good.length ≤ 1000000)
    (hw : ∀ z ∈ ws, -4611686018427387904 ≤ z ∧ z ≤ 4611686018427387904) (hm : good.length < ws.length) :
    Calls Tryz.prog 142 #[.slice A1 ws.length c1, .slice A2 good.length c2] w fun e w' =>
      e = .returned (.agg #[.int .i64 (cntW good (mlen ws good)), .int .i64 (ext ws good 1 (mlen ws good)), .int .i64 (ext ws good (-1) (mlen ws good))]) ∧ Below w.heap.size w w' := by
  have em : mlen ws good = good.length := by unfold mlen; omega
  rw [em]
  have Em := Lib.hid em
  have HW := Lib.hid hw
  clear em hw
  go_enter Tryz.func142, Tryz.ntmps142
  go_wp2
  go_loopw [13] (fun i wr => ∃ k : Nat, k ≤ good.length ∧ i = .int .i64 k ∧ Below w.heap.size w wr ∧ Blk wr w.heap.size 162 #[.int .i64 0, .int .i64 0, .int .i64 0] ∧
      Blk wr (w.heap.size + 1) 162 #[.int .i64 (cntW good k), .int .i64 (ext ws good 1 k), .int .i64 (ext ws good (-1) k)]) (fun i _ => good.length - (intOf i).toNat)
  case atStart =>
    refine ⟨0, Nat.zero_le _, rfl, ((Below.refl _ _).alloc (Nat.le_refl _) _).alloc (by simp) _, (Blk.new_ _ _ _).alloc_ _, ?_⟩
    have := Blk.new_ (w.alloc (.cells #[.int .i64 0, .int .i64 0, .int .i64 0] 162)) 162 #[.int .i64 0, .int .i64 (-1), .int .i64 (-1)]
    simpa [cntW, ext] using this
  case round =>
    obtain ⟨k, hk, rfl, hBr, R0, R1⟩ := hrel
    by_cases hlt : k < good.length
    · have hk1 : k < ws.length := by omega
      have hk2 : k < good.length := by omega
      have s1 := (h1.below hBr).at_ (by simpa using (by omega : 0 < ws.length))
      have s2 := (h2.below hBr).at_ (by simpa using (by omega : 0 < good.length))
      obtain ⟨b1, o1, rfl, l1, q1⟩ := s1
      obtain ⟨b2, o2, rfl, l2, q2⟩ := s2
      obtain ⟨g, hg⟩ : ∃ g, good.getD k false = g := ⟨_, rfl⟩
      have cg : wr.cell? ⟨b2, o2 + k, none⟩ = some (.bool g) := q2 k _ (by rw [← hg]; simp [hk2])
      have Q1 := Lib.hid q1
      clear q2
      have w0 := R1.cell_ 0
      have w1 := R1.cell_ 1
      have w2 := R1.cell_ 2
      have wf := R1.free
      simp at w0 w1 w2
      have i1 : (0 : Int) ≤ (k : Int) := by omega
      have i2 : (k : Int) < (ws.length : Int) := by omega
      have i3 : (k : Int) < (good.length : Int) := by omega
      have l3 := R1.lt
      have Hg := Lib.hid hg
      have Hne1 : b1 ≠ w.heap.size + 1 := by omega
      have Hne2 : b2 ≠ w.heap.size + 1 := by omega
      have eb1 := ext_bd ws good 1 k
      have eb2 := ext_bd ws good (-1) k
      have en1 := ext_neg ws good 1 k
      have en2 := ext_neg ws good (-1) k
      have ec := cntW_le good k
      obtain ⟨e1, he1⟩ : ∃ x, ext ws good 1 k = x := ⟨_, rfl⟩
      obtain ⟨e2, he2⟩ : ∃ x, ext ws good (-1) k = x := ⟨_, rfl⟩
      obtain ⟨c, hc⟩ : ∃ x, cntW good k = x := ⟨_, rfl⟩
      rw [he1] at w1 eb1 en1 R1
      rw [he2] at w2 eb2 en2 R1
      rw [hc] at w0 en1 en2 ec R1
      have He1 := Lib.hid he1
      have He2 := Lib.hid he2
      have Hc := Lib.hid hc
      clear hg he1 he2 hc
      cases g
      · clear q1
        go_wp2
        go_roundw
        case rel =>
          refine ⟨k + 1, by omega, by go_num, hBr, R0, ?_⟩
          have a1 : cntW good (k + 1) = c := by unfold cntW; rw [Hg.out, Hc.out]; simp
          have a2 : ext ws good 1 (k + 1) = e1 := by unfold ext; rw [Hg.out, He1.out]; simp
          have a3 : ext ws good (-1) (k + 1) = e2 := by unfold ext; rw [Hg.out, He2.out]; simp
          rw [a1, a2, a3]
          exact R1
        case measure => simp [intOf]; omega
      · have kw : ∃ z, ws.getD k 0 = z := ⟨_, rfl⟩
        obtain ⟨zk, hzk⟩ := kw
        have ck : wr.cell? ⟨b1, o1 + k, none⟩ = some (.int .i64 zk) := q1 k _ (by rw [← hzk]; simp [hk1])
        have a1 : cntW good (k + 1) = c + 1 := by unfold cntW; rw [Hg.out, Hc.out]; simp
        have Ha1 := Lib.hid a1
        have Hzk := Lib.hid hzk
        clear hzk a1 q1
        have i4 : (0 : Int) ≤ (c : Int) := by omega
        have i5 : (c : Int) ≤ 1000000 := by omega
        by_cases hneg : e1 < 0
        · have hc0 : c = 0 := en1.1 hneg
          have f1 : e1 = -1 := by omega
          have f2 : e2 = -1 := by omega
          subst f1
          subst f2
          subst hc0
          clear w0 w1 w2
          have w0 := R1.cell_ 0
          have w1 := R1.cell_ 1
          have w2 := R1.cell_ 2
          simp at w0 w1 w2
          go_wp2
          go_quiet (fail)
          go_wp2
          go_quiet (fail)
          go_wp2
          go_roundw
          case rel =>
            have a2 : ext ws good 1 (k + 1) = k := by unfold ext; rw [Hg.out, He1.out]; simp
            have a3 : ext ws good (-1) (k + 1) = k := by unfold ext; rw [Hg.out, He2.out]; simp
            refine ⟨k + 1, by omega, by go_num, ?_, ?_, ?_⟩
            · exact (below_dn ((below_dn (hBr.setCell (p := ⟨w.heap.size + 1, 0, none⟩) (by simp) _) _).setCell (p := ⟨w.heap.size + 1, 1, none⟩) (by simp) _) _).setCell (p := ⟨w.heap.size + 1, 2, none⟩) (by simp) _
            · exact ((((R0.far (p := ⟨w.heap.size + 1, 0, none⟩) (by simp) _).drewN_ _).far (p := ⟨w.heap.size + 1, 1, none⟩) (by simp) _).drewN_ _).far (p := ⟨w.heap.size + 1, 2, none⟩) (by simp) _
            · rw [Ha1.out, a2, a3]
              exact ((((R1.set_ 0 _).drewN_ _).set_ 1 _).drewN_ _).set_ 2 _
          case measure => simp [intOf]; omega
        · obtain ⟨j1, rfl⟩ : ∃ j : Nat, e1 = (j : Int) := ⟨e1.toNat, by omega⟩
          obtain ⟨j2, rfl⟩ : ∃ j : Nat, e2 = (j : Int) := ⟨e2.toNat, by omega⟩
          have hj1 : j1 < ws.length := by omega
          have hj2 : j2 < ws.length := by omega
          obtain ⟨z1, hz1⟩ : ∃ z, ws.getD j1 0 = z := ⟨_, rfl⟩
          obtain ⟨z2, hz2⟩ : ∃ z, ws.getD j2 0 = z := ⟨_, rfl⟩
          have v1 : wr.cell? ⟨b1, o1 + j1, none⟩ = some (.int .i64 z1) := Q1.out j1 _ (by rw [← hz1]; simp [hj1])
          have v2 : wr.cell? ⟨b1, o1 + j2, none⟩ = some (.int .i64 z2) := Q1.out j2 _ (by rw [← hz2]; simp [hj2])
          have a2 : ext ws good 1 (k + 1) = if zk < z1 then (k : Int) else j1 := by
            unfold ext
            rw [Hg.out, He1.out, Hzk.out, Int.toNat_natCast, hz1, Int.one_mul, Int.one_mul]
            by_cases h : zk < z1 <;> simp [h] <;> omega
          have a3 : ext ws good (-1) (k + 1) = if z2 < zk then (k : Int) else j2 := by
            unfold ext
            rw [Hg.out, He2.out, Hzk.out, Int.toNat_natCast, hz2]
            by_cases h : z2 < zk
            · have h' : -1 * zk < -1 * z2 := by omega
              simp only [h, h', or_true, and_self, if_true]
            · have h' : ¬ (-1 * zk < -1 * z2) := by omega
              have h'' : ¬ ((j2 : Int) < 0) := by omega
              simp only [h, h', h'', or_self, and_false, if_false]
          have m1 : (j1 : Int) < (ws.length : Int) := by omega
          have m2 : (j2 : Int) < (ws.length : Int) := by omega
          have m3 : (0 : Int) ≤ (j1 : Int) := by omega
          have m4 : (0 : Int) ≤ (j2 : Int) := by omega
          have heq : j1 = j2 → z1 = z2 := fun h => by rw [← hz1, ← hz2, h]
          have A2 := Lib.hid a2
          have A3 := Lib.hid a3
          clear w0 w1 w2 a2 a3 hz1 hz2 en1 en2 eb1 eb2 hneg
          have w0 := R1.cell_ 0
          have w1 := R1.cell_ 1
          have w2 := R1.cell_ 2
          simp at w0 w1 w2
          by_cases hj : j1 = j2
          · subst hj
            obtain rfl := heq rfl
            clear heq v2
            by_cases hA : zk < z1
            · have hB : ¬ z1 < zk := by omega
              have HA := Lib.hid hA
              have HB := Lib.hid hB
              go_wp2
              go_quiet (fail)
              go_wp2
              go_quiet (fail)
              go_wp2
              go_roundw
              case rel =>
                refine ⟨k + 1, by omega, by go_num, below_dn ((below_dn (hBr.setCell (p := ⟨w.heap.size + 1, 0, none⟩) (by simp) _) _).setCell (p := ⟨w.heap.size + 1, 1, none⟩) (by simp) _) _, (((R0.far (p := ⟨w.heap.size + 1, 0, none⟩) (by simp) _).drewN_ _).far (p := ⟨w.heap.size + 1, 1, none⟩) (by simp) _).drewN_ _, ?_⟩
                rw [Ha1.out, A2.out, A3.out, if_pos HA.out, if_neg (Int.not_lt.2 HB.out)]
                exact (((R1.set_ 0 _).drewN_ _).set_ 1 _).drewN_ _
              case measure => simp [intOf]; omega
            · by_cases hB : z1 < zk
              · have HA := Lib.hid hA
                have HB := Lib.hid hB
                go_wp2
                go_quiet (fail)
                go_wp2
                go_quiet (fail)
                go_wp2
                go_roundw
                case rel =>
                  refine ⟨k + 1, by omega, by go_num, (below_dn (hBr.setCell (p := ⟨w.heap.size + 1, 0, none⟩) (by simp) _) _).setCell (p := ⟨w.heap.size + 1, 2, none⟩) (by simp) _, ((R0.far (p := ⟨w.heap.size + 1, 0, none⟩) (by simp) _).drewN_ _).far (p := ⟨w.heap.size + 1, 2, none⟩) (by simp) _, ?_⟩
                  rw [Ha1.out, A2.out, A3.out, if_neg (Int.not_lt.2 HA.out), if_pos HB.out]
                  exact ((R1.set_ 0 _).drewN_ _).set_ 2 _
                case measure => simp [intOf]; omega
              · skip
                have HA := Lib.hid hA
                have HB := Lib.hid hB
                go_wp2
                go_quiet (fail)
                go_wp2
                go_quiet (fail)
                go_wp2
                go_roundw
                case rel =>
                  refine ⟨k + 1, by omega, by go_num, below_dn (hBr.setCell (p := ⟨w.heap.size + 1, 0, none⟩) (by simp) _) _, (R0.far (p := ⟨w.heap.size + 1, 0, none⟩) (by simp) _).drewN_ _, ?_⟩
                  rw [Ha1.out, A2.out, A3.out, if_neg (Int.not_lt.2 HA.out), if_neg (Int.not_lt.2 HB.out)]
                  exact (R1.set_ 0 _).drewN_ _
                case measure => simp [intOf]; omega
          · clear heq
            by_cases hA : zk < z1 <;> by_cases hB : z2 < zk
            · skip
              have HA := Lib.hid hA
              have HB := Lib.hid hB
              go_wp2
              go_quiet (fail)
              go_wp2
              go_quiet (fail)
              go_wp2
              go_roundw
              case rel =>
                refine ⟨k + 1, by omega, by go_num, (below_dn ((below_dn (hBr.setCell (p := ⟨w.heap.size + 1, 0, none⟩) (by simp) _) _).setCell (p := ⟨w.heap.size + 1, 1, none⟩) (by simp) _) _).setCell (p := ⟨w.heap.size + 1, 2, none⟩) (by simp) _, ((((R0.far (p := ⟨w.heap.size + 1, 0, none⟩) (by simp) _).drewN_ _).far (p := ⟨w.heap.size + 1, 1, none⟩) (by simp) _).drewN_ _).far (p := ⟨w.heap.size + 1, 2, none⟩) (by simp) _, ?_⟩
                rw [Ha1.out, A2.out, A3.out, if_pos HA.out, if_pos HB.out]
                exact ((((R1.set_ 0 _).drewN_ _).set_ 1 _).drewN_ _).set_ 2 _
              case measure => simp [intOf]; omega
            · skip
              have HA := Lib.hid hA
              have HB := Lib.hid hB
              go_wp2
              go_quiet (fail)
              go_wp2
              go_quiet (fail)
              go_wp2
              go_roundw
              case rel =>
                refine ⟨k + 1, by omega, by go_num, below_dn ((below_dn (hBr.setCell (p := ⟨w.heap.size + 1, 0, none⟩) (by simp) _) _).setCell (p := ⟨w.heap.size + 1, 1, none⟩) (by simp) _) _, (((R0.far (p := ⟨w.heap.size + 1, 0, none⟩) (by simp) _).drewN_ _).far (p := ⟨w.heap.size + 1, 1, none⟩) (by simp) _).drewN_ _, ?_⟩
                rw [Ha1.out, A2.out, A3.out, if_pos HA.out, if_neg (Int.not_lt.2 HB.out)]
                exact (((R1.set_ 0 _).drewN_ _).set_ 1 _).drewN_ _
              case measure => simp [intOf]; omega
            · skip
              have HA := Lib.hid hA
              have HB := Lib.hid hB
              go_wp2
              go_quiet (fail)
              go_wp2
              go_quiet (fail)
              go_wp2
              go_roundw
              case rel =>
                refine ⟨k + 1, by omega, by go_num, (below_dn (hBr.setCell (p := ⟨w.heap.size + 1, 0, none⟩) (by simp) _) _).setCell (p := ⟨w.heap.size + 1, 2, none⟩) (by simp) _, ((R0.far (p := ⟨w.heap.size + 1, 0, none⟩) (by simp) _).drewN_ _).far (p := ⟨w.heap.size + 1, 2, none⟩) (by simp) _, ?_⟩
                rw [Ha1.out, A2.out, A3.out, if_neg (Int.not_lt.2 HA.out), if_pos HB.out]
                exact ((R1.set_ 0 _).drewN_ _).set_ 2 _
              case measure => simp [intOf]; omega
            · skip
              have HA := Lib.hid hA
              have HB := Lib.hid hB
              go_wp2
              go_quiet (fail)
              go_wp2
              go_quiet (fail)
              go_wp2
              go_roundw
              case rel =>
                refine ⟨k + 1, by omega, by go_num, below_dn (hBr.setCell (p := ⟨w.heap.size + 1, 0, none⟩) (by simp) _) _, (R0.far (p := ⟨w.heap.size + 1, 0, none⟩) (by simp) _).drewN_ _, ?_⟩
                rw [Ha1.out, A2.out, A3.out, if_neg (Int.not_lt.2 HA.out), if_neg (Int.not_lt.2 HB.out)]
                exact (R1.set_ 0 _).drewN_ _
              case measure => simp [intOf]; omega
    · have hk' : k = good.length := by omega
      subst hk'
      have w0 := R1.cell_ 0
      have w1 := R1.cell_ 1
      have w2 := R1.cell_ 2
      simp at w0 w1 w2
      have wf := R0.free
      have r0 := R0.cell_ 0
      have r1 := R0.cell_ 1
      have r2 := R0.cell_ 2
      simp at r0 r1 r2
      go_wp2
      refine bodyPost_ret (v := .agg #[.int .i64 (cntW good good.length), .int .i64 (ext ws good 1 good.length), .int .i64 (ext ws good (-1) good.length)]) (by simp [results, Tryz.results142, go_sem, *]) rfl ⟨rfl, ?_⟩
      exact ((hBr.setCell (by simp) _).setCell (by simp) _).setCell (by simp) _
theorem look_any (ws : List Int) (good : List Bool) (A1 A2 : Option Addr) (c1 c2 : Nat) (w : World)
    (h1 : Sl w w.heap.size A1 (ws.map (Value.int .i64))) (h2 : Sl w w.heap.size A2 (good.map Value.bool)) (n1 : ws.length ≤ 1000000) (n2 : good.length ≤ 1000000)
    (hw : ∀ z ∈ ws, -4611686018427387904 ≤ z ∧ z ≤ 4611686018427387904) :
    Calls Tryz.prog 142 #[.slice A1 ws.length c1, .slice A2 good.length c2] w fun e w' =>
      e = .returned (.agg #[.int .i64 (cntW good (mlen ws good)), .int .i64 (ext ws good 1 (mlen ws good)), .int .i64 (ext ws good (-1) (mlen ws good))]) ∧ Below w.heap.size w w' := by
  by_cases h : ws.length ≤ good.length
  · exact look_le ws good A1 A2 c1 c2 w h1 h2 n1 n2 hw h
  · exact look_ge ws good A1 A2 c1 c2 w h1 h2 n1 n2 hw (by omega)
end Go.Proofs.YtkpcohfdcilfcaaGreat
