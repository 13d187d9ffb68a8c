/- slices.Repeat of a row of one int, slices.Clone of a row of ints. -/
import Derived.Test.YtfefjjebjjfkdaaMapM
import Derived.Test.YtfefjjebjjfkdaaShelfM
import Derived.Test.YtfefjjebjjfkdaaOpenS2
import Derived.Test.YtfefjjebjjfkdaaApp
import Derived.Laws.CopyOwn
namespace Go.Proofs.Ytfefjjebjjfkdaa
open Go.ChangeShapes Go.WideShapes Go.ChangeAt Go.RowKit
set_option linter.unusedSimpArgs false
set_option linter.unusedVariables false

theorem infoInt : (Try.prog.info? 3).map (fun i => (i.zero, i.size, i.bytes)) = some (some (.int .i64 0), 1, 8) := by kernel_rfl
theorem wrapS (x : Int) (h0 : -1000000000000 ≤ x) (h1 : x ≤ 1000000000000) : IntKind.i64.wrap x = x := by
  rw [IntKind.wrap_i64]
  omega
theorem infoIntSz : (Try.prog.info? 3).map (fun i => i.size) = some 1 := by kernel_rfl
theorem own_cur {w : World} {base g n : Nat} {e : TypeId} {xs : List Value} (h : w.ownsRow base e 1 (.slice (some ⟨g, 0, none⟩) n n) n xs) : w.heap[g]? = some (.cells xs.toArray e (0, 0)) := by
  obtain ⟨hl, h⟩ := h
  rcases h with ⟨h0, _⟩ | ⟨g', cap, cur, hv, _, hh, hnc, _, hsz, ht⟩
  · cases h0
  · cases hv
    have : cur = xs.toArray := by
      rw [← ht]
      have hl2 : cur.toList.length = n * 1 := by simpa using hsz
      rw [List.take_of_length_le (by omega)]
    rw [← this]
    exact hh
section
variable {P : Program}
theorem wp_copy {w : World} {o : Oper} {a : Act} {K : Act → World → Prop} {Q : Exit → Act → World → Prop} (d s : Operand) (t : TypeId)
    (ho : o.op = .call { callee := .builtin .copy, args := #[d, s], argTypes := #[t, t] }) (v u r : Value) (w' : World) (hd : a.eval d = v) (hs : a.eval s = u)
    (hrun : (Builtin.copy_ #[t, t] o.type #[v, u]).run P w = .ok r w') (h : K (a.put o.dst r) w') : o.wp P a w K Q := by
  unfold Oper.wp execOp
  simp only [ho, resolve, invoke, builtin, Sem.run_bind, Sem.run_pure, Result.andThen_ok, List.map_toArray, List.map_cons, List.map_nil, hd, hs, hrun]
  exact h
end
theorem mulC (n : Nat) (w : World) (hn : n < 18446744073709551616) : Calls Try.prog 38 #[.int .u64 1, .int .u64 (n : Int)] w fun e' w' => e' = .returned (.tuple #[.int .u64 0, .int .u64 (n : Int)]) ∧ w = w' := by
  refine (Any.bits_Mul Try.laysMul 1 n (by omega) hn w).mono ?_
  rintro e' w' ⟨rfl, h⟩
  refine ⟨?_, h.symm⟩
  rw [Nat.one_mul, Nat.div_eq_of_lt hn, Nat.mod_eq_of_lt hn]
  rfl
def repV (n k : Nat) (v : Int) : Array Value := (List.replicate k (Value.int .i64 v) ++ List.replicate (n - k) (Value.int .i64 0)).toArray
theorem repV_size {n k : Nat} (h : k ≤ n) (v : Int) : (repV n k v).size = n := by
  simp [repV]
  omega
theorem repV_zero (n : Nat) (v : Int) : (List.replicate n (Value.int .i64 0)).toArray = repV n 0 v := by simp [repV]
theorem repV_one (n : Nat) (v : Int) (h : 1 ≤ n) : (List.take 0 (repV n 0 v).toList ++ [Value.int .i64 v] ++ List.drop (0 + 1) (repV n 0 v).toList).toArray = repV n 1 v := by
  simp [repV]
theorem repV_full (n : Nat) (v : Int) : repV n n v = ((List.replicate n v).map (Value.int .i64)).toArray := by simp [repV]
theorem repV_get {n k j : Nat} (v : Int) (h : j < k) : (repV n k v)[j]? = some (.int .i64 v) := by
  simp only [repV, List.getElem?_toArray]
  rw [List.getElem?_append_left (by simpa using h), List.getElem?_replicate]
  simp [h]
theorem repV_step (n k q : Nat) (v : Int) (h : k + q ≤ n) : (List.take k (repV n k v).toList ++ List.replicate q (Value.int .i64 v) ++ List.drop (k + (List.replicate q (Value.int .i64 v)).length) (repV n k v).toList).toArray = repV n (k + q) v := by
  have h1 : List.take k (repV n k v).toList = List.replicate k (Value.int .i64 v) := by simp [repV]
  have h2 : List.drop (k + q) (repV n k v).toList = List.replicate (n - (k + q)) (Value.int .i64 0) := by
    simp only [repV]
    rw [List.drop_append]
    simp
    omega
  rw [h1, List.length_replicate, h2]
  simp [repV]
theorem repI_one (v : Int) (q : Nat) : ∀ u ∈ List.replicate q (Value.int .i64 v), u.oneCell' = true := by
  intro u hu
  rw [(List.mem_replicate.1 hu).2]
  rfl
theorem copy_own {w : World} {g n k q : Nat} {v : Int} (hB : Blk w g 3 (repV n k v)) (hk : k < n) (hq : min k (n - k) = q) :
    (Builtin.copy_ #[41, 41] 3 #[.slice (some ⟨g, k, none⟩) (n - k) (n - k), .slice (some ⟨g, 0, none⟩) k n]).run Try.prog w = .ok (.int .i64 (q : Int)) (w.setRow g (repV n (k + q) v)) := by
  have hrun := run_copy_row (P := Try.prog) w 41 41 3 3 g k (n - k) (n - k) ⟨g, 0, none⟩ k n (repV n k v) 3 (List.replicate q (Value.int .i64 v)) Try.underlying41 infoIntSz hB (by rw [List.length_replicate]; exact hq.symm) ?_ (by rw [List.length_replicate, repV_size (by omega)]; omega) (repI_one v q)
  · rw [hrun, repV_step n k q v (by omega), List.length_replicate]
    rfl
  · intro j u hj
    obtain ⟨hlt, rfl⟩ := List.getElem?_eq_some_iff.1 hj
    have hjq : j < q := by simpa using hlt
    have e : (⟨g, 0, none⟩ : Addr).add j = ⟨g, j, none⟩ := by
      unfold Addr.add
      split <;> simp_all
    rw [e, hB.cell_, repV_get v (by omega)]
    simp
set_option maxRecDepth 100000 in
set_option maxHeartbeats 4000000 in
theorem rep_any (v : Int) (b : Nat) (n : Nat) (w : World) (hc : w.cell? ⟨b, 0, none⟩ = some (.int .i64 v)) (hb : b < w.heap.size) (n1 : 1 ≤ n) (n2 : n ≤ 1000) :
    Calls Try.prog 26 #[.slice (some ⟨b, 0, none⟩) 1 1, .int .i64 (n : Int)] w fun e' w' => e' = .returned (.slice (some ⟨w.heap.size, 0, none⟩) n n) ∧ Below w.heap.size w w' ∧ Blk w' w.heap.size 3 ((List.replicate n v).map (Value.int .i64)).toArray := by
  have i0 : (0 : Int) ≤ (n : Int) := by omega
  have i1 : (1 : Int) ≤ (n : Int) := by omega
  have i2 : (n : Int) ≤ 1000 := by omega
  go_enter Try.func26, Try.ntmps26
  go_upto_region 7 with (first
    | (go_at_call 38; ((with_reducible refine (mulC n _ (by omega)).mono ?_); rintro e' wN ⟨rfl, rfl⟩; skip))
    | (at_make; obtain ⟨ti0, hi, hz0, hz1, hz2⟩ := info_parts infoInt; refine wpList_make_full _ rfl _ _ 41 rfl w.heap.size 3 ti0 (.int .i64 0) 1 Try.underlying41 hi hz0 hz1 _ _ _ _ n rfl rfl rfl rfl (by rw [hz2]; omega) (by unfold maxLen; omega) (Nat.le_refl _) ?_; intro w1 hown1 hgrow1; clear hi hz0 hz1 hz2))
  have hcur := own_cur hown1
  rw [show (madeCells (Value.int .i64 0).cells (n * 1)).toList = List.replicate (n * 1) (Value.int .i64 0) from toList_madeCells_one _ _, Nat.mul_one] at hcur
  rw [repV_zero n v] at hcur
  have hB1 : Below w.heap.size w w1 := (Below.refl _ _).grown hgrow1 (Nat.le_refl _) (fun j hj => by cases hj)
  have hc1 : w1.cell? ⟨b, 0, none⟩ = some (.int .i64 v) := (hB1.cell (p := ⟨b, 0, none⟩) hb).trans hc
  have hrun := run_copy_row (P := Try.prog) w1 41 41 3 3 w.heap.size 0 n n ⟨b, 0, none⟩ 1 1 (repV n 0 v) 3 [.int .i64 v] Try.underlying41 infoIntSz hcur (by show 1 = min 1 n; omega) (by intro j u hj; cases j with | zero => (simp at hj; subst hj; simpa [Addr.add] using hc1) | succ j => simp at hj) (by rw [repV_size (by omega)]; simpa using n1) (by simp [Value.oneCell'])
  rw [show ([Value.int .i64 v] : List Value).length = 1 from rfl, repV_one n v n1] at hrun
  have hrun' : (Builtin.copy_ #[41, 41] 3 #[.slice (some ⟨w.heap.size, 0, none⟩) n n, .slice (some ⟨b, 0, none⟩) 1 1]).run Try.prog w1 = .ok (.int .i64 1) (w1.setRow w.heap.size (repV n 1 v)) := hrun
  have hB2 := below_setRow hB1 (Nat.le_refl _) (repV n 1 v)
  have hK2 : Blk (w1.setRow w.heap.size (repV n 1 v)) w.heap.size 3 (repV n 1 v) := setRow_heap w1 w.heap.size _ _ 3 _ hcur
  generalize w1.setRow w.heap.size (repV n 1 v) = wy at hrun' hB2 hK2
  clear hrun hcur hown1 hgrow1 hc1 hc
  have HK2 := Lib.hid hK2
  clear hK2
  go_wp2_with fail
  go_loopw [8] (fun s8 wr => ∃ k : Nat, s8 = .int .i64 (k : Int) ∧ 1 ≤ k ∧ k ≤ n ∧ Below w.heap.size w wr ∧ Blk wr w.heap.size 3 (repV n k v)) (fun s8 _ => n - (intOf s8).toNat)
  case atStart => exact ⟨1, rfl, Nat.le_refl _, n1, hB2, HK2.out⟩
  case round =>
    obtain ⟨k, rfl, k1, k2, hBr, hKr⟩ := hrel
    clear hrun' hB1 hB2 HK2 hb
    by_cases hk : k < n
    · obtain ⟨q, hq⟩ : ∃ q, min k (n - k) = q := ⟨_, rfl⟩
      have j0 : (0 : Int) ≤ (k : Int) := by omega
      have j1 : (k : Int) < (n : Int) := by omega
      have j2 : (k : Int) ≤ (n : Int) := by omega
      have j3 : ¬ n = k := by omega
      have j4 : ¬ (n : Int) = (k : Int) := by omega
      have j5 : (n : Int) - (k : Int) = ((n - k : Nat) : Int) := by omega
      have q1 : 1 ≤ q := by omega
      have q2 : k + q ≤ n := by omega
      have q3 : (0 : Int) ≤ (q : Int) := by omega
      have q4 : (q : Int) ≤ 1000 := by omega
      have HQ := Lib.hid hq
      have HKr := Lib.hid hKr
      clear hq hKr
      go_upto_region 9 with fail
      refine wp_region_noPanic ?_
      refine wp_region_held_drew (S := (fun w' => Below w.heap.size w w')) (by kernel_rfl) ?_ (fun hHeld => ?_)
      · (first | exact hBr.drew | exact hB9.drew | assumption)
      refine wpAnyH_take (i := 0) (oi := { dst := some 38, op := Op.move (Operand.tmp 8), type := 3, pos := "slices.go:528", after := #[], guard := none }) (v := ?_) rfl (by kernel_rfl) (by kernel_rfl) (by kernel_rfl) (fun _ _ _ h => h) (Or.inl ⟨by rfl, ?_⟩) (by assumption) ?_
      rotate_left
      · (intro wS hSw; (try dsimp only at hSw); go_simp; (try with_reducible rfl))
      try simp only [Act.put, List.setIfInBounds_toArray, List.set_cons_zero, List.set_cons_succ]
      refine wpAnyH_take (i := 1) (oi := { dst := some 39, op := Op.move (Operand.tmp 7), type := 41, pos := "slices.go:528", after := #[], guard := none }) (v := ?_) rfl (by kernel_rfl) (by kernel_rfl) (by kernel_rfl) (fun _ _ _ h => h) (Or.inl ⟨by rfl, ?_⟩) (by assumption) ?_
      rotate_left
      · (intro wS hSw; (try dsimp only at hSw); go_simp; (try with_reducible rfl))
      try simp only [Act.put, List.setIfInBounds_toArray, List.set_cons_zero, List.set_cons_succ]
      refine wpAnyH_take (i := 2) (oi := { dst := some 40, op := Op.move (Operand.tmp 8), type := 3, pos := "slices.go:528", after := #[], guard := none }) (v := ?_) rfl (by kernel_rfl) (by kernel_rfl) (by kernel_rfl) (fun _ _ _ h => h) (Or.inl ⟨by rfl, ?_⟩) (by assumption) ?_
      rotate_left
      · (intro wS hSw; (try dsimp only at hSw); go_simp; (try with_reducible rfl))
      try simp only [Act.put, List.setIfInBounds_toArray, List.set_cons_zero, List.set_cons_succ]
      refine wpAnyH_take (i := 3) (oi := { dst := some 41, op := Op.slice 41 (Operand.tmp 39) (some (Operand.tmp 40)) none none, type := 41, pos := "slices.go:528", after := #[{ on := 1, ground := Ground.data }, { on := 2, ground := Ground.data }], guard := none }) (v := ?_) rfl (by kernel_rfl) (by kernel_rfl) (by kernel_rfl) (fun _ _ _ h => h) (Or.inl ⟨by rfl, ?_⟩) (by assumption) ?_
      rotate_left
      · (intro wS hSw; (try dsimp only at hSw); go_simp; (try with_reducible rfl))
      try simp only [Act.put, List.setIfInBounds_toArray, List.set_cons_zero, List.set_cons_succ]
      refine wpAnyH_take (i := 4) (oi := { dst := some 42, op := Op.move (Operand.tmp 7), type := 41, pos := "slices.go:528", after := #[], guard := none }) (v := ?_) rfl (by kernel_rfl) (by kernel_rfl) (by kernel_rfl) (fun _ _ _ h => h) (Or.inl ⟨by rfl, ?_⟩) (by assumption) ?_
      rotate_left
      · (intro wS hSw; (try dsimp only at hSw); go_simp; (try with_reducible rfl))
      try simp only [Act.put, List.setIfInBounds_toArray, List.set_cons_zero, List.set_cons_succ]
      refine wpAnyH_take (i := 5) (oi := { dst := some 43, op := Op.move (Operand.tmp 8), type := 3, pos := "slices.go:528", after := #[], guard := none }) (v := ?_) rfl (by kernel_rfl) (by kernel_rfl) (by kernel_rfl) (fun _ _ _ h => h) (Or.inl ⟨by rfl, ?_⟩) (by assumption) ?_
      rotate_left
      · (intro wS hSw; (try dsimp only at hSw); go_simp; (try with_reducible rfl))
      try simp only [Act.put, List.setIfInBounds_toArray, List.set_cons_zero, List.set_cons_succ]
      refine wpAnyH_take (i := 6) (oi := { dst := some 44, op := Op.slice 41 (Operand.tmp 42) none (some (Operand.tmp 43)) none, type := 41, pos := "slices.go:528", after := #[{ on := 4, ground := Ground.data }, { on := 5, ground := Ground.data }], guard := none }) (v := ?_) rfl (by kernel_rfl) (by kernel_rfl) (by kernel_rfl) (fun _ _ _ h => h) (Or.inl ⟨by rfl, ?_⟩) (by assumption) ?_
      rotate_left
      · (intro wS hSw; (try dsimp only at hSw); go_simp; (try with_reducible rfl))
      try simp only [Act.put, List.setIfInBounds_toArray, List.set_cons_zero, List.set_cons_succ]
      refine wpAnyH_ready (rs := [7]) (by kernel_rfl) (by simp) ?_
      refine AllReadyH.cons (o := { dst := some 45, op := Op.call { callee := Callee.builtin Builtin.copy, args := #[Operand.tmp 41, Operand.tmp 44], argTypes := #[41, 41] }, type := 3, pos := "slices.go:528", after := #[{ on := 3, ground := Ground.data }, { on := 6, ground := Ground.data }], guard := none }) rfl (fun K hK => ?_) AllReadyH.nil
      refine wp_copy _ _ 41 rfl _ _ _ _ rfl rfl (copy_own (w := _) (k := k) HKr.out hk HQ.out) ?_
      have hB9 := below_setRow hBr (Nat.le_refl _) (repV n (k + q) v)
      have hK9 := setRow_heap wr w.heap.size _ (repV n (k + q) v) 3 _ HKr.out
      change K _ (wr.setRow w.heap.size (repV n (k + q) v)).drew
      generalize wr.setRow w.heap.size (repV n (k + q) v) = w9 at hB9 hK9 ⊢
      refine hK.out _ _ ?_ (fun hNew => ?_)
      · (first | exact hBr.drew | exact hB9.drew | assumption)
      clear hK K hHeld
      have hHeld := hNew
      clear hNew
      try simp only [Act.put, List.setIfInBounds_toArray, List.set_cons_zero, List.set_cons_succ]
      refine wpAnyH_take (i := 8) (oi := { dst := some 46, op := Op.binOp BinOp.add 3 (Operand.tmp 38) (Operand.tmp 45) 3, type := 3, pos := "slices.go:528", after := #[{ on := 0, ground := Ground.data }, { on := 7, ground := Ground.data }], guard := none }) (v := ?_) rfl (by kernel_rfl) (by kernel_rfl) (by kernel_rfl) (fun _ _ _ h => h) (Or.inl ⟨by rfl, ?_⟩) (by assumption) ?_
      rotate_left
      · (intro wS hSw; (try dsimp only at hSw); go_simp; (try with_reducible rfl))
      try simp only [Act.put, List.setIfInBounds_toArray, List.set_cons_zero, List.set_cons_succ]
      refine wpAnyH_take (i := 9) (oi := { dst := some 8, op := Op.assign (Operand.tmp 46), type := 3, pos := "slices.go:528", after := #[{ on := 8, ground := Ground.data }, { on := 7, ground := Ground.chain }, { on := 0, ground := Ground.phase }, { on := 1, ground := Ground.phase }, { on := 2, ground := Ground.phase }, { on := 3, ground := Ground.phase }, { on := 4, ground := Ground.phase }, { on := 5, ground := Ground.phase }, { on := 6, ground := Ground.phase }, { on := 7, ground := Ground.phase }, { on := 8, ground := Ground.phase }], guard := none }) (v := ?_) rfl (by kernel_rfl) (by kernel_rfl) (by kernel_rfl) (fun _ _ _ h => h) (Or.inl ⟨by rfl, ?_⟩) (by assumption) ?_
      rotate_left
      · (intro wS hSw; (try dsimp only at hSw); go_simp; (try with_reducible rfl))
      try simp only [Act.put, List.setIfInBounds_toArray, List.set_cons_zero, List.set_cons_succ]
      refine wpAnyH_done (by kernel_rfl) ?_ _
      refine NoPanic.normal ?_
      go_wp2_with fail
      go_roundw
      case rel => exact ⟨k + q, by rw [wrapS _ (by omega) (by omega)]; rfl, by omega, q2, hB9.drew, hK9⟩
      case measure =>
        rw [wrapS _ (by omega) (by omega)]
        simp [intOf]
        omega
    · have hkn : k = n := by omega
      subst hkn
      rw [repV_full] at hKr
      have HKr := Lib.hid hKr
      clear hKr hk
      go_wp2_with fail
      go_ret
      exact ⟨rfl, hBr, HKr.out⟩
end Go.Proofs.Ytfefjjebjjfkdaa
