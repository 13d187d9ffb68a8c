/- bytes.Repeat of one byte; bytes.Clone; slices.Clone of faults. -/
import Derived.Test.YtplniojeaodjiaaChA
import Derived.Test.YtplniojeaodjiaaShelfM
import Derived.Lib.MakeNoZero
import Derived.Laws.Externs
import Derived.Laws.CopyOwn
import Derived.Test.YtplniojeaodjiaaApp
namespace Go.Proofs.Ytplniojeaodjiaa
open Go.ChangeShapes Go.WideShapes Go.ChangeAt Go.RowKit
set_option linter.unusedSimpArgs false
set_option linter.unusedVariables false

theorem infoByteSz : (Try.prog.info? 5).map (fun i => i.size) = some 1 := by kernel_rfl
theorem mulC (n : Nat) (w : World) (hn : n < 18446744073709551616) : Calls Try.prog 65 #[.int .u64 1, .int .u64 (n : Int)] w fun e' w' => e' = .returned (.tuple #[.int .u64 0, .int .u64 (n : Int)]) ∧ w = w' := by
  refine (Any.bits_Mul Try.laysMul 1 n (by omega) hn w).mono ?_
  rintro e' w' ⟨rfl, h⟩
  refine ⟨?_, h.symm⟩
  rw [Nat.one_mul, Nat.div_eq_of_lt hn, Nat.mod_eq_of_lt hn]
  rfl
theorem wrapS (x : Int) (h0 : -1000000000000 ≤ x) (h1 : x ≤ 1000000000000) : IntKind.i64.wrap x = x := by
  rw [IntKind.wrap_i64]
  omega
section
variable {P : Program}
theorem wp_copy {w : World} {o : Oper} {a : Act} {K : Act → World → Prop} {Q : Exit → Act → World → Prop} (d s : Operand) (t : TypeId)
    (ho : o.op = .call { callee := .builtin .copy, args := #[d, s], argTypes := #[t, t] }) (v u r : Value) (w' : World) (hd : a.eval d = v) (hs : a.eval s = u)
    (hrun : (Builtin.copy_ #[t, t] o.type #[v, u]).run P w = .ok r w') (h : K (a.put o.dst r) w') : o.wp P a w K Q := by
  unfold Oper.wp execOp
  simp only [ho, resolve, invoke, builtin, Sem.run_bind, Sem.run_pure, Result.andThen_ok, List.map_toArray, List.map_cons, List.map_nil, hd, hs, hrun]
  exact h
end
/-- The first k cells are v. -/
def Pre (A : Array Value) (k : Nat) (v : Value) : Prop := k ≤ A.size ∧ ∀ j, j < k → A[j]? = some v
def spl (A : Array Value) (k : Nat) (vs : List Value) : Array Value := (A.toList.take k ++ vs ++ A.toList.drop (k + vs.length)).toArray
theorem spl_size {A : Array Value} {k : Nat} {vs : List Value} (h : k + vs.length ≤ A.size) : (spl A k vs).size = A.size := by
  simp [spl]
  omega
theorem Pre.spl {A : Array Value} {k q : Nat} {v : Value} (h : Pre A k v) (hq : k + q ≤ A.size) : Pre (spl A k (List.replicate q v)) (k + q) v := by
  obtain ⟨h1, h2⟩ := h
  refine ⟨by rw [spl_size (by simpa using hq)]; exact hq, fun j hj => ?_⟩
  simp only [Proofs.Ytplniojeaodjiaa.spl, List.getElem?_toArray]
  rw [List.append_assoc]
  by_cases hjk : j < k
  · rw [List.getElem?_append_left (by simp; omega), List.getElem?_take_of_lt hjk]
    have := h2 j hjk
    simpa using this
  · rw [List.getElem?_append_right (by simp; omega), List.getElem?_append_left (by simp; omega), List.getElem?_replicate, if_pos (by simp; omega)]
theorem Pre.row {A : Array Value} {n : Nat} {v : Value} (h : Pre A n v) : A = (List.replicate n v ++ A.toList.drop n).toArray := by
  obtain ⟨h1, h2⟩ := h
  apply Array.ext'
  simp only
  conv => lhs; rw [← List.take_append_drop n A.toList]
  congr 1
  apply List.ext_getElem?
  intro j
  rw [List.getElem?_replicate]
  by_cases hj : j < n
  · rw [List.getElem?_take_of_lt hj, if_pos hj]
    have := h2 j hj
    simpa using this
  · rw [if_neg hj, List.getElem?_eq_none (by simp; omega)]
theorem copy_pre {w : World} {g n k q : Nat} {v : Int} {A : Array Value} {m : Nat} (hB : Blk w g 5 A) (hp : Pre A k (.int .u8 v)) (hn : n ≤ A.size) (hk : k < n) (hmk : m ≤ k) (hq : min m (n - k) = q) (cm : Nat) :
    (Builtin.copy_ #[48, 48] 3 #[.slice (some ⟨g, k, none⟩) (n - k) (n - k), .slice (some ⟨g, 0, none⟩) m cm]).run Try.prog w = .ok (.int .i64 (q : Int)) (w.setRow g (spl A k (List.replicate q (.int .u8 v)))) := by
  have hrun := run_copy_row (P := Try.prog) w 48 48 3 5 g k (n - k) (n - k) ⟨g, 0, none⟩ m cm A 5 (List.replicate q (.int .u8 v)) Try.underlying48 infoByteSz hB (by rw [List.length_replicate]; exact hq.symm) ?_ (by rw [List.length_replicate]; omega) (fun u hu => by rw [(List.mem_replicate.1 hu).2]; rfl)
  · rw [hrun, List.length_replicate]
    simp [Proofs.Ytplniojeaodjiaa.spl]
    rfl
  · intro j u hj
    obtain ⟨hlt, rfl⟩ := List.getElem?_eq_some_iff.1 hj
    have hjq : j < q := by simpa using hlt
    have e : (⟨g, 0, none⟩ : Addr).add j = ⟨g, j, none⟩ := by
      unfold Addr.add
      split <;> simp_all
    rw [e, hB.cell_, hp.2 j (by omega)]
    simp
theorem copy_preA {w : World} {g n k q : Nat} {v : Int} {A A2 : Array Value} {m : Nat} (hB : Blk w g 5 A) (hp : Pre A k (.int .u8 v)) (hn : n ≤ A.size) (hk : k < n) (hmk : m ≤ k) (hq : min m (n - k) = q) (cm : Nat) (hA : spl A k (List.replicate q (.int .u8 v)) = A2) :
    (Builtin.copy_ #[48, 48] 3 #[.slice (some ⟨g, k, none⟩) (n - k) (n - k), .slice (some ⟨g, 0, none⟩) m cm]).run Try.prog w = .ok (.int .i64 (q : Int)) (w.setRow g A2) := by
  rw [← hA]
  exact copy_pre hB hp hn hk hmk hq cm
set_option maxRecDepth 100000 in
set_option maxHeartbeats 4000000 in
theorem rptB_any (v : Int) (b : Nat) (n : Nat) (w : World) (hc : w.cell? ⟨b, 0, none⟩ = some (.int .u8 v)) (hb : b < w.heap.size) (n1 : 1 ≤ n) (n2 : n ≤ 100000) :
    Calls Try.prog 36 #[.slice (some ⟨b, 0, none⟩) 1 1, .int .i64 (n : Int)] w fun e' w' => ∃ g, e' = .returned (.slice (some ⟨g, 0, none⟩) n n) ∧ w.heap.size ≤ g ∧ RowT w' g 5 (List.replicate n (.int .u8 v)) ∧ Below w.heap.size w w' := by
  have i0 : (0 : Int) ≤ (n : Int) := by omega
  have i1 : (1 : Int) ≤ (n : Int) := by omega
  have i2 : (n : Int) ≤ 100000 := by omega
  obtain ⟨cs, hrunM, hle, _⟩ := Lib.run_makeNoZero (P := Try.prog) w #[3] 48 5 Try.underlying48 n (by omega)
  have hcall : (callFunc 66 #[.int .i64 (n : Int)]).run Try.prog w = .ok (.value (.slice (some ⟨w.heap.size, 0, none⟩) n cs.size)) ((w.alloc (.cells cs 5)).drewN 2) := by
    rw [run_callFunc_extern Try.func66 (by kernel_rfl) (by kernel_rfl) (by kernel_rfl) (e := Extern.BytealgMakeNoZero.makeNoZero #[3] #[48]) (by kernel_rfl), hrunM]
    rfl
  clear hrunM
  obtain ⟨W1, hW1⟩ : ∃ V : World, V = (w.alloc (.cells cs 5)).drewN 2 := ⟨_, rfl⟩
  have hB1 : Below w.heap.size w W1 := by rw [hW1]; exact below_dn ((Below.refl _ _).alloc (Nat.le_refl _) _) 2
  have hK1 : Blk W1 w.heap.size 5 cs := by rw [hW1]; exact Blk.drewN_ (Blk.new_ w _ _) 2
  have hc1 : W1.cell? ⟨b, 0, none⟩ = some (.int .u8 v) := (hB1.cell (p := ⟨b, 0, none⟩) hb).trans hc
  have hrun := run_copy_row (P := Try.prog) W1 48 48 3 5 w.heap.size 0 n n ⟨b, 0, none⟩ 1 1 cs 5 [.int .u8 v] Try.underlying48 infoByteSz hK1 (by show 1 = min 1 n; omega) (by intro j u hj; cases j with | zero => (simp at hj; subst hj; simpa [Addr.add] using hc1) | succ j => simp at hj) (by simp; omega) (by simp [Value.oneCell'])
  obtain ⟨A1, hA1⟩ : ∃ A1, spl cs 0 [Value.int .u8 v] = A1 := ⟨_, rfl⟩
  have hrun1 : (Builtin.copy_ #[48, 48] 3 #[.slice (some ⟨w.heap.size, 0, none⟩) n n, .slice (some ⟨b, 0, none⟩) 1 1]).run Try.prog W1 = .ok (.int .i64 1) (W1.setRow w.heap.size A1) := by
    rw [← hA1]
    exact hrun
  have hP1 : Pre A1 1 (.int .u8 v) := by
    rw [← hA1]
    have := Pre.spl (A := cs) (k := 0) (q := 1) (v := .int .u8 v) ⟨Nat.zero_le _, fun j hj => absurd hj (Nat.not_lt_zero _)⟩ (by omega)
    simpa using this
  have hS1 : n ≤ A1.size := by
    rw [← hA1, spl_size (by simp; omega)]
    exact hle
  have hB2 := below_setRow hB1 (Nat.le_refl _) A1
  have hK2 : Blk (W1.setRow w.heap.size A1) w.heap.size 5 A1 := setRow_heap W1 w.heap.size _ _ 5 _ hK1
  generalize W1.setRow w.heap.size A1 = wy at hrun1 hB2 hK2
  rw [hW1] at hrun1
  clear hrun hB1 hK1 hc1 hc hW1 hA1
  have HK2 := Lib.hid hK2
  have HP1 := Lib.hid hP1
  have HS1 := Lib.hid hS1
  clear hK2 hP1 hS1
  rcases (by omega : 8192 < n ∨ ¬ 8192 < n) with hbig | hbig
  · have hbz : (8192 : Int) < (n : Int) := by omega
    go_enter Try.func36, Try.ntmps36
    go_wp2_with (go_at_call 65; ((with_reducible refine (mulC n _ (by omega)).mono ?_); rintro e' wN ⟨rfl, rfl⟩; skip))
    go_loopw [10] (fun s10 wr => ∃ (k : Nat) (A : Array Value), s10 = .int .i64 (k : Int) ∧ 1 ≤ k ∧ k ≤ n ∧ Below w.heap.size w wr ∧ Blk wr w.heap.size 5 A ∧ Pre A k (.int .u8 v) ∧ n ≤ A.size) (fun s10 _ => n - (intOf s10).toNat)
    case atStart => exact ⟨1, A1, rfl, Nat.le_refl _, n1, hB2, HK2.out, HP1.out, HS1.out⟩
    case round =>
      obtain ⟨k, A, rfl, k1, k2, hBr, hKr, hPr, hSr⟩ := hrel
      clear hrun1 hB2 HK2 HP1 HS1 hb hcall
      by_cases hk : k < n
      · obtain ⟨m, hm⟩ : ∃ m, min k 8192 = m := ⟨_, rfl⟩
        obtain ⟨q, hq⟩ : ∃ q, min m (n - k) = q := ⟨_, rfl⟩
        have j0 : (0 : Int) ≤ (k : Int) := by omega
        have j1 : (k : Int) < (n : Int) := by omega
        have j2 : (k : Int) ≤ (n : Int) := by omega
        have j3 : ¬ n = k := by omega
        have j4 : ¬ (n : Int) = (k : Int) := by omega
        have j5 : (n : Int) - (k : Int) = ((n - k : Nat) : Int) := by omega
        have m0 : (0 : Int) ≤ (m : Int) := by omega
        have m1 : (m : Int) ≤ (n : Int) := by omega
        have q1 : 1 ≤ q := by omega
        have q2 : k + q ≤ n := by omega
        have q3 : (0 : Int) ≤ (q : Int) := by omega
        have q4 : (q : Int) ≤ 100000 := by omega
        have hmm : (if (8192 : Int) < (k : Int) then (8192 : Int) else (k : Int)) = (m : Int) := by split <;> omega
        obtain ⟨A2, hA2⟩ : ∃ A2, spl A k (List.replicate q (.int .u8 v)) = A2 := ⟨_, rfl⟩
        have HP2 : Hid (Pre A2 (k + q) (.int .u8 v)) := Lib.hid (by rw [← hA2]; exact Pre.spl hPr (by omega))
        have HS2 : Hid (n ≤ A2.size) := Lib.hid (by rw [← hA2, spl_size (by simp; omega)]; exact hSr)
        have HPr := Lib.hid hPr
        have HSr := Lib.hid hSr
        have HA2 := Lib.hid hA2
        have HQ := Lib.hid hq
        have HMK := Lib.hid (show m ≤ k by omega)
        have HKr := Lib.hid hKr
        clear hA2 hm hq hKr hPr hSr
        go_upto_region 20 with fail
        refine wp_region_noPanic ?_
        refine wp_region_held_drew (S := (fun w' => Below w.heap.size w w')) (by kernel_rfl) ?_ (fun hHeld => ?_)
        · (first | exact hBr.drew | exact hB9.drew | assumption)
        refine wpAnyH_take (i := 0) (oi := { dst := some 67, op := Op.move (Operand.tmp 10), type := 3, pos := "bytes.go:672", after := #[], guard := none }) (v := ?_) rfl (by kernel_rfl) (by kernel_rfl) (by kernel_rfl) (fun _ _ _ h => h) (Or.inl ⟨by rfl, ?_⟩) (by assumption) ?_
        rotate_left
        · (intro wS hSw; (try dsimp only at hSw); go_simp; (try with_reducible rfl))
        try simp only [Act.put, List.setIfInBounds_toArray, List.set_cons_zero, List.set_cons_succ]
        refine wpAnyH_take (i := 1) (oi := { dst := some 68, op := Op.move (Operand.tmp 9), type := 48, pos := "bytes.go:672", after := #[], guard := none }) (v := ?_) rfl (by kernel_rfl) (by kernel_rfl) (by kernel_rfl) (fun _ _ _ h => h) (Or.inl ⟨by rfl, ?_⟩) (by assumption) ?_
        rotate_left
        · (intro wS hSw; (try dsimp only at hSw); go_simp; (try with_reducible rfl))
        try simp only [Act.put, List.setIfInBounds_toArray, List.set_cons_zero, List.set_cons_succ]
        refine wpAnyH_take (i := 2) (oi := { dst := some 69, op := Op.move (Operand.tmp 10), type := 3, pos := "bytes.go:672", after := #[], guard := none }) (v := ?_) rfl (by kernel_rfl) (by kernel_rfl) (by kernel_rfl) (fun _ _ _ h => h) (Or.inl ⟨by rfl, ?_⟩) (by assumption) ?_
        rotate_left
        · (intro wS hSw; (try dsimp only at hSw); go_simp; (try with_reducible rfl))
        try simp only [Act.put, List.setIfInBounds_toArray, List.set_cons_zero, List.set_cons_succ]
        refine wpAnyH_take (i := 3) (oi := { dst := some 70, op := Op.slice 48 (Operand.tmp 68) (some (Operand.tmp 69)) none none, type := 48, pos := "bytes.go:672", after := #[{ on := 1, ground := Ground.data }, { on := 2, ground := Ground.data }], guard := none }) (v := ?_) rfl (by kernel_rfl) (by kernel_rfl) (by kernel_rfl) (fun _ _ _ h => h) (Or.inl ⟨by rfl, ?_⟩) (by assumption) ?_
        rotate_left
        · (intro wS hSw; (try dsimp only at hSw); go_simp; (try with_reducible rfl))
        try simp only [Act.put, List.setIfInBounds_toArray, List.set_cons_zero, List.set_cons_succ]
        refine wpAnyH_take (i := 4) (oi := { dst := some 71, op := Op.move (Operand.tmp 9), type := 48, pos := "bytes.go:672", after := #[], guard := none }) (v := ?_) rfl (by kernel_rfl) (by kernel_rfl) (by kernel_rfl) (fun _ _ _ h => h) (Or.inl ⟨by rfl, ?_⟩) (by assumption) ?_
        rotate_left
        · (intro wS hSw; (try dsimp only at hSw); go_simp; (try with_reducible rfl))
        try simp only [Act.put, List.setIfInBounds_toArray, List.set_cons_zero, List.set_cons_succ]
        refine wpAnyH_take (i := 5) (oi := { dst := some 72, op := Op.move (Operand.tmp 11), type := 3, pos := "bytes.go:672", after := #[], guard := none }) (v := ?_) rfl (by kernel_rfl) (by kernel_rfl) (by kernel_rfl) (fun _ _ _ h => h) (Or.inl ⟨by rfl, ?_⟩) (by assumption) ?_
        rotate_left
        · (intro wS hSw; (try dsimp only at hSw); go_simp; (try with_reducible rfl))
        try simp only [Act.put, List.setIfInBounds_toArray, List.set_cons_zero, List.set_cons_succ]
        refine wpAnyH_take (i := 6) (oi := { dst := some 73, op := Op.slice 48 (Operand.tmp 71) none (some (Operand.tmp 72)) none, type := 48, pos := "bytes.go:672", after := #[{ on := 4, ground := Ground.data }, { on := 5, ground := Ground.data }], guard := none }) (v := ?_) rfl (by kernel_rfl) (by kernel_rfl) (by kernel_rfl) (fun _ _ _ h => h) (Or.inl ⟨by rfl, ?_⟩) (by assumption) ?_
        rotate_left
        · (intro wS hSw; (try dsimp only at hSw); go_simp; (try with_reducible rfl))
        try simp only [Act.put, List.setIfInBounds_toArray, List.set_cons_zero, List.set_cons_succ]
        refine wpAnyH_ready (rs := [7]) (by kernel_rfl) (by simp) ?_
        refine AllReadyH.cons (o := { dst := some 74, op := Op.call { callee := Callee.builtin Builtin.copy, args := #[Operand.tmp 70, Operand.tmp 73], argTypes := #[48, 48] }, type := 3, pos := "bytes.go:672", after := #[{ on := 3, ground := Ground.data }, { on := 6, ground := Ground.data }], guard := none }) rfl (fun K hK => ?_) AllReadyH.nil
        refine wp_copy _ _ 48 rfl _ _ _ _ rfl rfl (copy_preA (w := wr.drew) (k := k) HKr.out HPr.out HSr.out hk HMK.out HQ.out n HA2.out) ?_
        have hB9 := below_setRow hBr (Nat.le_refl _) A2
        have hK9 := setRow_heap wr w.heap.size _ A2 5 _ HKr.out
        change K _ (wr.setRow w.heap.size A2).drew
        generalize wr.setRow w.heap.size A2 = w9 at hB9 hK9 ⊢
        refine hK.out _ _ ?_ (fun hNew => ?_)
        · (first | exact hBr.drew | exact hB9.drew | assumption)
        clear hK K hHeld
        have hHeld := hNew
        clear hNew
        try simp only [Act.put, List.setIfInBounds_toArray, List.set_cons_zero, List.set_cons_succ]
        refine wpAnyH_take (i := 8) (oi := { dst := some 75, op := Op.binOp BinOp.add 3 (Operand.tmp 67) (Operand.tmp 74) 3, type := 3, pos := "bytes.go:672", after := #[{ on := 0, ground := Ground.data }, { on := 7, ground := Ground.data }], guard := none }) (v := ?_) rfl (by kernel_rfl) (by kernel_rfl) (by kernel_rfl) (fun _ _ _ h => h) (Or.inl ⟨by rfl, ?_⟩) (by assumption) ?_
        rotate_left
        · (intro wS hSw; (try dsimp only at hSw); go_simp; (try with_reducible rfl))
        try simp only [Act.put, List.setIfInBounds_toArray, List.set_cons_zero, List.set_cons_succ]
        refine wpAnyH_take (i := 9) (oi := { dst := some 10, op := Op.assign (Operand.tmp 75), type := 3, pos := "bytes.go:672", after := #[{ on := 8, ground := Ground.data }, { on := 7, ground := Ground.chain }, { on := 0, ground := Ground.phase }, { on := 1, ground := Ground.phase }, { on := 2, ground := Ground.phase }, { on := 3, ground := Ground.phase }, { on := 4, ground := Ground.phase }, { on := 5, ground := Ground.phase }, { on := 6, ground := Ground.phase }, { on := 7, ground := Ground.phase }, { on := 8, ground := Ground.phase }], guard := none }) (v := ?_) rfl (by kernel_rfl) (by kernel_rfl) (by kernel_rfl) (fun _ _ _ h => h) (Or.inl ⟨by rfl, ?_⟩) (by assumption) ?_
        rotate_left
        · (intro wS hSw; (try dsimp only at hSw); go_simp; (try with_reducible rfl))
        try simp only [Act.put, List.setIfInBounds_toArray, List.set_cons_zero, List.set_cons_succ]
        refine wpAnyH_done (by kernel_rfl) ?_ _
        refine NoPanic.normal ?_
        go_wp2_with fail
        go_roundw
        case rel => exact ⟨k + q, A2, by rw [wrapS _ (by omega) (by omega)]; rfl, by omega, q2, hB9.drew, hK9, HP2.out, HS2.out⟩
        case measure =>
          rw [wrapS _ (by omega) (by omega)]
          simp [intOf]
          omega
      · have hkn : k = n := by omega
        subst hkn
        have hrow : RowT wr w.heap.size 5 (List.replicate k (.int .u8 v)) := ⟨_, by rw [← hPr.row]; exact hKr⟩
        have HR := Lib.hid hrow
        clear hKr hPr hSr hk hrow
        go_wp2_with fail
        go_ret
        exact ⟨_, rfl, Nat.le_refl _, HR.out, hBr⟩
  · have hbz : ¬ (8192 : Int) < (n : Int) := by omega
    go_enter Try.func36, Try.ntmps36
    go_wp2_with (go_at_call 65; ((with_reducible refine (mulC n _ (by omega)).mono ?_); rintro e' wN ⟨rfl, rfl⟩; skip))
    go_loopw [10] (fun s10 wr => ∃ (k : Nat) (A : Array Value), s10 = .int .i64 (k : Int) ∧ 1 ≤ k ∧ k ≤ n ∧ Below w.heap.size w wr ∧ Blk wr w.heap.size 5 A ∧ Pre A k (.int .u8 v) ∧ n ≤ A.size) (fun s10 _ => n - (intOf s10).toNat)
    case atStart => exact ⟨1, A1, rfl, Nat.le_refl _, n1, hB2, HK2.out, HP1.out, HS1.out⟩
    case round =>
      obtain ⟨k, A, rfl, k1, k2, hBr, hKr, hPr, hSr⟩ := hrel
      clear hrun1 hB2 HK2 HP1 HS1 hb hcall
      by_cases hk : k < n
      · obtain ⟨q, hq⟩ : ∃ q, min k (n - k) = q := ⟨_, rfl⟩
        have j0 : (0 : Int) ≤ (k : Int) := by omega
        have j1 : (k : Int) < (n : Int) := by omega
        have j2 : (k : Int) ≤ (n : Int) := by omega
        have j3 : ¬ n = k := by omega
        have j4 : ¬ (n : Int) = (k : Int) := by omega
        have j5 : (n : Int) - (k : Int) = ((n - k : Nat) : Int) := by omega
        have q1 : 1 ≤ q := by omega
        have q2 : k + q ≤ n := by omega
        have q3 : (0 : Int) ≤ (q : Int) := by omega
        have q4 : (q : Int) ≤ 100000 := by omega
        obtain ⟨A2, hA2⟩ : ∃ A2, spl A k (List.replicate q (.int .u8 v)) = A2 := ⟨_, rfl⟩
        have HP2 : Hid (Pre A2 (k + q) (.int .u8 v)) := Lib.hid (by rw [← hA2]; exact Pre.spl hPr (by omega))
        have HS2 : Hid (n ≤ A2.size) := Lib.hid (by rw [← hA2, spl_size (by simp; omega)]; exact hSr)
        have HPr := Lib.hid hPr
        have HSr := Lib.hid hSr
        have HA2 := Lib.hid hA2
        have HQ := Lib.hid hq
        have HMK := Lib.hid (show k ≤ k by omega)
        have HKr := Lib.hid hKr
        clear hA2 hq hKr hPr hSr
        go_upto_region 20 with fail
        refine wp_region_noPanic ?_
        refine wp_region_held_drew (S := (fun w' => Below w.heap.size w w')) (by kernel_rfl) ?_ (fun hHeld => ?_)
        · (first | exact hBr.drew | exact hB9.drew | assumption)
        refine wpAnyH_take (i := 0) (oi := { dst := some 67, op := Op.move (Operand.tmp 10), type := 3, pos := "bytes.go:672", after := #[], guard := none }) (v := ?_) rfl (by kernel_rfl) (by kernel_rfl) (by kernel_rfl) (fun _ _ _ h => h) (Or.inl ⟨by rfl, ?_⟩) (by assumption) ?_
        rotate_left
        · (intro wS hSw; (try dsimp only at hSw); go_simp; (try with_reducible rfl))
        try simp only [Act.put, List.setIfInBounds_toArray, List.set_cons_zero, List.set_cons_succ]
        refine wpAnyH_take (i := 1) (oi := { dst := some 68, op := Op.move (Operand.tmp 9), type := 48, pos := "bytes.go:672", after := #[], guard := none }) (v := ?_) rfl (by kernel_rfl) (by kernel_rfl) (by kernel_rfl) (fun _ _ _ h => h) (Or.inl ⟨by rfl, ?_⟩) (by assumption) ?_
        rotate_left
        · (intro wS hSw; (try dsimp only at hSw); go_simp; (try with_reducible rfl))
        try simp only [Act.put, List.setIfInBounds_toArray, List.set_cons_zero, List.set_cons_succ]
        refine wpAnyH_take (i := 2) (oi := { dst := some 69, op := Op.move (Operand.tmp 10), type := 3, pos := "bytes.go:672", after := #[], guard := none }) (v := ?_) rfl (by kernel_rfl) (by kernel_rfl) (by kernel_rfl) (fun _ _ _ h => h) (Or.inl ⟨by rfl, ?_⟩) (by assumption) ?_
        rotate_left
        · (intro wS hSw; (try dsimp only at hSw); go_simp; (try with_reducible rfl))
        try simp only [Act.put, List.setIfInBounds_toArray, List.set_cons_zero, List.set_cons_succ]
        refine wpAnyH_take (i := 3) (oi := { dst := some 70, op := Op.slice 48 (Operand.tmp 68) (some (Operand.tmp 69)) none none, type := 48, pos := "bytes.go:672", after := #[{ on := 1, ground := Ground.data }, { on := 2, ground := Ground.data }], guard := none }) (v := ?_) rfl (by kernel_rfl) (by kernel_rfl) (by kernel_rfl) (fun _ _ _ h => h) (Or.inl ⟨by rfl, ?_⟩) (by assumption) ?_
        rotate_left
        · (intro wS hSw; (try dsimp only at hSw); go_simp; (try with_reducible rfl))
        try simp only [Act.put, List.setIfInBounds_toArray, List.set_cons_zero, List.set_cons_succ]
        refine wpAnyH_take (i := 4) (oi := { dst := some 71, op := Op.move (Operand.tmp 9), type := 48, pos := "bytes.go:672", after := #[], guard := none }) (v := ?_) rfl (by kernel_rfl) (by kernel_rfl) (by kernel_rfl) (fun _ _ _ h => h) (Or.inl ⟨by rfl, ?_⟩) (by assumption) ?_
        rotate_left
        · (intro wS hSw; (try dsimp only at hSw); go_simp; (try with_reducible rfl))
        try simp only [Act.put, List.setIfInBounds_toArray, List.set_cons_zero, List.set_cons_succ]
        refine wpAnyH_take (i := 5) (oi := { dst := some 72, op := Op.move (Operand.tmp 11), type := 3, pos := "bytes.go:672", after := #[], guard := none }) (v := ?_) rfl (by kernel_rfl) (by kernel_rfl) (by kernel_rfl) (fun _ _ _ h => h) (Or.inl ⟨by rfl, ?_⟩) (by assumption) ?_
        rotate_left
        · (intro wS hSw; (try dsimp only at hSw); go_simp; (try with_reducible rfl))
        try simp only [Act.put, List.setIfInBounds_toArray, List.set_cons_zero, List.set_cons_succ]
        refine wpAnyH_take (i := 6) (oi := { dst := some 73, op := Op.slice 48 (Operand.tmp 71) none (some (Operand.tmp 72)) none, type := 48, pos := "bytes.go:672", after := #[{ on := 4, ground := Ground.data }, { on := 5, ground := Ground.data }], guard := none }) (v := ?_) rfl (by kernel_rfl) (by kernel_rfl) (by kernel_rfl) (fun _ _ _ h => h) (Or.inl ⟨by rfl, ?_⟩) (by assumption) ?_
        rotate_left
        · (intro wS hSw; (try dsimp only at hSw); go_simp; (try with_reducible rfl))
        try simp only [Act.put, List.setIfInBounds_toArray, List.set_cons_zero, List.set_cons_succ]
        refine wpAnyH_ready (rs := [7]) (by kernel_rfl) (by simp) ?_
        refine AllReadyH.cons (o := { dst := some 74, op := Op.call { callee := Callee.builtin Builtin.copy, args := #[Operand.tmp 70, Operand.tmp 73], argTypes := #[48, 48] }, type := 3, pos := "bytes.go:672", after := #[{ on := 3, ground := Ground.data }, { on := 6, ground := Ground.data }], guard := none }) rfl (fun K hK => ?_) AllReadyH.nil
        refine wp_copy _ _ 48 rfl _ _ _ _ rfl rfl (copy_preA (w := wr.drew) (k := k) HKr.out HPr.out HSr.out hk HMK.out HQ.out n HA2.out) ?_
        have hB9 := below_setRow hBr (Nat.le_refl _) A2
        have hK9 := setRow_heap wr w.heap.size _ A2 5 _ HKr.out
        change K _ (wr.setRow w.heap.size A2).drew
        generalize wr.setRow w.heap.size A2 = w9 at hB9 hK9 ⊢
        refine hK.out _ _ ?_ (fun hNew => ?_)
        · (first | exact hBr.drew | exact hB9.drew | assumption)
        clear hK K hHeld
        have hHeld := hNew
        clear hNew
        try simp only [Act.put, List.setIfInBounds_toArray, List.set_cons_zero, List.set_cons_succ]
        refine wpAnyH_take (i := 8) (oi := { dst := some 75, op := Op.binOp BinOp.add 3 (Operand.tmp 67) (Operand.tmp 74) 3, type := 3, pos := "bytes.go:672", after := #[{ on := 0, ground := Ground.data }, { on := 7, ground := Ground.data }], guard := none }) (v := ?_) rfl (by kernel_rfl) (by kernel_rfl) (by kernel_rfl) (fun _ _ _ h => h) (Or.inl ⟨by rfl, ?_⟩) (by assumption) ?_
        rotate_left
        · (intro wS hSw; (try dsimp only at hSw); go_simp; (try with_reducible rfl))
        try simp only [Act.put, List.setIfInBounds_toArray, List.set_cons_zero, List.set_cons_succ]
        refine wpAnyH_take (i := 9) (oi := { dst := some 10, op := Op.assign (Operand.tmp 75), type := 3, pos := "bytes.go:672", after := #[{ on := 8, ground := Ground.data }, { on := 7, ground := Ground.chain }, { on := 0, ground := Ground.phase }, { on := 1, ground := Ground.phase }, { on := 2, ground := Ground.phase }, { on := 3, ground := Ground.phase }, { on := 4, ground := Ground.phase }, { on := 5, ground := Ground.phase }, { on := 6, ground := Ground.phase }, { on := 7, ground := Ground.phase }, { on := 8, ground := Ground.phase }], guard := none }) (v := ?_) rfl (by kernel_rfl) (by kernel_rfl) (by kernel_rfl) (fun _ _ _ h => h) (Or.inl ⟨by rfl, ?_⟩) (by assumption) ?_
        rotate_left
        · (intro wS hSw; (try dsimp only at hSw); go_simp; (try with_reducible rfl))
        try simp only [Act.put, List.setIfInBounds_toArray, List.set_cons_zero, List.set_cons_succ]
        refine wpAnyH_done (by kernel_rfl) ?_ _
        refine NoPanic.normal ?_
        go_wp2_with fail
        go_roundw
        case rel => exact ⟨k + q, A2, by rw [wrapS _ (by omega) (by omega)]; rfl, by omega, q2, hB9.drew, hK9, HP2.out, HS2.out⟩
        case measure =>
          rw [wrapS _ (by omega) (by omega)]
          simp [intOf]
          omega
      · have hkn : k = n := by omega
        subst hkn
        have hrow : RowT wr w.heap.size 5 (List.replicate k (.int .u8 v)) := ⟨_, by rw [← hPr.row]; exact hKr⟩
        have HR := Lib.hid hrow
        clear hKr hPr hSr hk hrow
        go_wp2_with fail
        go_ret
        exact ⟨_, rfl, Nat.le_refl _, HR.out, hBr⟩
end Go.Proofs.Ytplniojeaodjiaa
