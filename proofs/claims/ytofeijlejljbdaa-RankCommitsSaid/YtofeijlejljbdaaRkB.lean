/- A map of founds; rows of founds that grow; rank.Stale. -/
import Derived.Test.YtofeijlejljbdaaRkA
import Derived.Maps.OwnSet
import Derived.Maps.OwnOps
namespace Go.Proofs.Ytofeijlejljbdaa
open Go.ChangeShapes Go.WideShapes Go.ChangeAt Go.RowKit
set_option linter.unusedSimpArgs false
set_option linter.unusedVariables false

theorem infoFd : (Try.prog.info? 30).map (fun i => (i.zero, i.size, i.bytes)) = some (some (.agg #[.int .i64 0, .int .i64 0, .int .i64 0, .int .i64 0, .int .i64 0, .int .i64 0]), 6, 48) := by kernel_rfl
@[go_sem] theorem build_fd (x : Fd) (w : World) : (Instr.buildSlice 22 1 #[(0, (.agg #[.int .i64 x.b, .int .i64 x.g, .int .i64 x.k, .int .i64 x.p, .int .i64 x.s, .int .i64 x.e]))]).run Try.prog w = .ok (.slice (some ⟨w.heap.size, 0, none⟩) 1 1) (w.alloc (.cells #[.int .i64 x.b, .int .i64 x.g, .int .i64 x.k, .int .i64 x.p, .int .i64 x.s, .int .i64 x.e] 30)) := by kernel_rfl
theorem rd_new (w : World) (x : Fd) {g : Nat} (hg : g = w.heap.size) : Rd (w.alloc (.cells #[.int .i64 x.b, .int .i64 x.g, .int .i64 x.k, .int .i64 x.p, .int .i64 x.s, .int .i64 x.e] 30)) (some ⟨g, 0, none⟩) 1 6 (fCs x) := by
  subst hg
  refine ⟨rfl, Or.inr ⟨_, 0, rfl, fun j u hj => ?_⟩⟩
  rw [Joins.cell_of_block (heap_alloc_new w _), Nat.zero_add]
  simpa [fCs] using hj
theorem flat_snoc (L : List Fd) (x : Fd) : (L ++ [x]).flatMap fCs = L.flatMap fCs ++ fCs x := by
  rw [List.flatMap_append]
  simp
theorem RowFd.snoc {w : World} {base : Nat} {v : Value} {L : List Fd} {x : Fd} (h : w.ownsRow base 30 6 v (L.length + 1) (L.flatMap fCs ++ fCs x)) : RowFd w base v (L ++ [x]) := by
  unfold RowFd
  rw [List.length_append, flat_snoc]
  exact h
/-! ### maps -/
def zFd : Fd := ⟨0, 0, 0, 0, 0, 0⟩
def RFd : Value → Option (DataW Fd × List MemPlace)
  | .agg cs => match cs.toList with
    | [.int .i64 b, .int .i64 g, .int .i64 k, .int .i64 p, .int .i64 s, .int .i64 e] => some (.held ⟨b, g, k, p, s, e⟩, [])
    | _ => none
  | _ => none
theorem RFd_mk (x : Fd) : RFd (.agg #[.int .i64 x.b, .int .i64 x.g, .int .i64 x.k, .int .i64 x.p, .int .i64 x.s, .int .i64 x.e]) = some (.held x, []) := rfl
theorem RFd_inv {v : Value} {x : Fd} {ps : List MemPlace} (h : RFd v = some (.held x, ps)) : v = (.agg #[.int .i64 x.b, .int .i64 x.g, .int .i64 x.k, .int .i64 x.p, .int .i64 x.s, .int .i64 x.e]) := by
  unfold RFd at h
  split at h
  · rename_i cs
    split at h
    · rename_i e
      injection h with h
      injection h with h1 _
      injection h1 with h1
      subst h1
      obtain ⟨l⟩ := cs
      simp at e
      subst e
      rfl
    · cases h
  · cases h
/-- Block b is a map of at most n founds, that holds at each number what M tells. -/
def OwnM (w : World) (b n : Nat) (M : Int → Option Fd) : Prop :=
  ∃ D : DataW Fd, w.ownsMap Try.prog 3 RFd b n D ∧ ∀ p, Maps.has D (.int .i64 p) = (M p).isSome ∧ D.atKey (.int .i64 p) (.held zFd) = .held ((M p).getD zFd)
theorem OwnM.made (w : World) : OwnM (w.alloc (.map #[] 0)) w.heap.size 0 (fun _ => none) :=
  ⟨.map [], World.ownsMap_made w _ _ _, fun p => ⟨rfl, rfl⟩⟩
theorem OwnM.lt {w : World} {b n : Nat} {M : Int → Option Fd} (h : OwnM w b n M) : b < w.heap.size := by
  obtain ⟨D, h, _⟩ := h
  exact h.lt
theorem OwnM.below {w w' : World} {b n : Nat} {M : Int → Option Fd} (h : OwnM w b n M) (hb : Below w.heap.size w w') : OwnM w' b n M := by
  obtain ⟨D, h, k⟩ := h
  exact ⟨D, h.kept (row := none) ⟨hb.os, hb.tape, hb.output, hb.size, fun k hk _ => hb.block k hk⟩ (by simp), k⟩
theorem OwnM.alloc_ {w : World} {b n : Nat} {M : Int → Option Fd} (h : OwnM w b n M) (o : Obj) : OwnM (w.alloc o) b n M := h.below ((Below.refl _ _).alloc (Nat.le_refl _) _)
theorem OwnM.mono {w : World} {b n m : Nat} {M : Int → Option Fd} (h : OwnM w b n M) (hn : n ≤ m) : OwnM w b m M := by
  obtain ⟨D, h, k⟩ := h
  exact ⟨D, h.mono hn, k⟩
theorem lawI : Maps.Keyed Try.prog 3 := Maps.int_keyed Try.underlying3
theorem zeroFd (w : World) : (zeroValue 30).run Try.prog w = .ok (.agg #[.int .i64 0, .int .i64 0, .int .i64 0, .int .i64 0, .int .i64 0, .int .i64 0]) w := by kernel_rfl
theorem wfI {p : Int} (h : i64in p) : (Lit.int .i64 p).wf = true := by
  have e1 : IntKind.i64.min = -9223372036854775808 := rfl
  have e2 : IntKind.i64.max = 9223372036854775807 := rfl
  unfold i64in at h
  simp only [Lit.wf, Bool.and_eq_true, decide_eq_true_eq, e1, e2]
  exact h
section
variable (w : World) {ops : Array Oper} {rest : List Oper} {o : Oper} {a : Act} {Q : Exit → Act → World → Prop}
theorem wpList_look_ok (hg : o.guard = none) (m x : Operand) (hop : o.op = Op.lookup 45 m x true) (b n : Nat) (M : Int → Option Fd) (hm : a.eval m = .map (some b)) (hown : OwnM w b n M) (p : Int) (hx : a.eval x = .int .i64 p) (hp : i64in p) (y : Fd) (ok : Bool) (hy : (M p).getD zFd = y ∧ (M p).isSome = ok)
    (hK : wpList Try.prog ops Q rest (a.put o.dst (.tuple #[(.agg #[.int .i64 y.b, .int .i64 y.g, .int .i64 y.k, .int .i64 y.p, .int .i64 y.s, .int .i64 y.e]), .bool ok])) w) : wpList Try.prog ops Q (o :: rest) a w := by
  obtain ⟨D, h, k⟩ := hown
  refine wpList_plain hg fun K' hK' => ?_
  obtain ⟨v, ps, hrun, hv⟩ := h.look_ok lawI Try.underlying45 (zeroFd w) (RFd_mk zFd) (Maps.keyOf_int_mk Try.underlying3 (wfI hp))
  rw [(k p).2, hy.1] at hv
  rw [(k p).1, hy.2] at hrun
  obtain rfl := RFd_inv hv
  unfold Oper.wp
  simp [execOp, hop, hm, hx, hrun, Result.andThen]
  exact hK' _ _ hK
theorem wpList_look (hg : o.guard = none) (m x : Operand) (hop : o.op = Op.lookup 45 m x false) (b n : Nat) (M : Int → Option Fd) (hm : a.eval m = .map (some b)) (hown : OwnM w b n M) (p : Int) (hx : a.eval x = .int .i64 p) (hp : i64in p) (y : Fd) (hy : (M p).getD zFd = y)
    (hK : wpList Try.prog ops Q rest (a.put o.dst (.agg #[.int .i64 y.b, .int .i64 y.g, .int .i64 y.k, .int .i64 y.p, .int .i64 y.s, .int .i64 y.e])) w) : wpList Try.prog ops Q (o :: rest) a w := by
  obtain ⟨D, h, k⟩ := hown
  refine wpList_plain hg fun K' hK' => ?_
  obtain ⟨v, ps, hrun, hv⟩ := h.lookup lawI Try.underlying45 (zeroFd w) (RFd_mk zFd) (Maps.keyOf_int_mk Try.underlying3 (wfI hp))
  rw [(k p).2, hy] at hv
  obtain rfl := RFd_inv hv
  unfold Oper.wp
  simp [execOp, hop, hm, hx, hrun, Result.andThen]
  exact hK' _ _ hK
theorem wpList_put (hg : o.guard = none) (m x v : Operand) (hop : o.op = Op.mapUpdate 45 m x v) (b n : Nat) (M : Int → Option Fd) (hm : a.eval m = .map (some b)) (hown : OwnM w b n M) (hn : n ≤ 1000000) (p : Int) (hx : a.eval x = .int .i64 p) (hp : i64in p) (y : Fd) (hv : a.eval v = (.agg #[.int .i64 y.b, .int .i64 y.g, .int .i64 y.k, .int .i64 y.p, .int .i64 y.s, .int .i64 y.e]))
    (hK : ∀ w', OwnM w' b (n + 1) (fun q => if q = p then some y else M q) → w.grownBy w' (some b) → wpList Try.prog ops Q rest (a.put o.dst undef) w') : wpList Try.prog ops Q (o :: rest) a w := by
  obtain ⟨D, h, k⟩ := hown
  refine wpList_plain hg fun K' hK' => ?_
  obtain ⟨w', hrun, r1, r2⟩ := h.update lawI Try.underlying45 (by unfold maxLen; omega) (Maps.keyOf_int_mk Try.underlying3 (wfI hp)) (RFd_mk y)
  unfold Oper.wp
  simp [execOp, hop, hm, hx, hv, hrun, Result.andThen]
  refine hK' _ _ (hK w' ⟨_, r1, fun q => ?_⟩ r2)
  show _ = (if q = p then some y else M q).isSome ∧ _ = DataW.held ((if q = p then some y else M q).getD zFd)
  by_cases hq : q = p
  · subst hq
    rw [if_pos rfl]
    exact ⟨Maps.has_put_same h.isMap (by simp [WideAt.IsKeyLit]) _, Maps.atKey_put_same h.isMap (by simp [WideAt.IsKeyLit]) _ _⟩
  · rw [if_neg hq]
    have hne : (Lit.int .i64 q) ≠ Lit.int .i64 p := fun e => hq (by injection e)
    exact ⟨(Maps.has_put_other hne _).trans (k q).1, (Maps.atKey_put_other hne _ _).trans (k q).2⟩
end
/-! ### Stale -/
def staleK (last : Int) (fs : List Fd) : List Fd := fs.filter (fun f => decide (last < f.e))
theorem stale_take {last : Int} {fs : List Fd} {k : Nat} {x : Fd} (h : fs[k]? = some x) : staleK last (fs.take (k + 1)) = if last < x.e then staleK last (fs.take k) ++ [x] else staleK last (fs.take k) := by
  rw [take_next h]
  unfold staleK
  rw [List.filter_append]
  by_cases hl : last < x.e
  · rw [if_pos hl]
    simp [hl]
  · rw [if_neg hl]
    simp [hl]
set_option maxRecDepth 100000 in
set_option maxHeartbeats 4000000 in
theorem stale_any (fs : List Fd) (A : Option Addr) (c : Nat) (w : World) (h : SlFd w w.heap.size A fs) (n1 : fs.length ≤ 1000000) : Calls Try.prog 14 #[.slice A fs.length c] w fun e' w' => (∃ v, e' = .returned v ∧ RowFd w' w.heap.size v (staleZ fs)) ∧ Below w.heap.size w w' := by
  go_enter Try.func14, Try.ntmps14
  go_wp2_with (go_at_call 12; go_loud (((with_reducible refine (last_any fs A c _ h n1).mono ?_); rintro e' w1 ⟨rfl, hb1⟩)))
  obtain ⟨last, hlast⟩ : ∃ l, lastZ fs = l := ⟨_, rfl⟩
  have HLA := Lib.hid hlast
  rw [hlast]
  clear hlast
  have H1 := h.next hb1
  have hz1 := hb1.size
  go_loopw [4, 11] (fun s4 s11 wr => ∃ (k : Nat) (v : Value) (S : List Fd), k ≤ fs.length ∧ s11 = .int .i64 (k : Int) ∧ s4 = v ∧ Hid (staleK last (fs.take k) = S) ∧ RowFd wr w1.heap.size v S ∧ S.length ≤ k ∧ Below w1.heap.size w1 wr ∧ Below w.heap.size w wr) (fun _ s11 _ => fs.length - (iOf s11).toNat)
  case atStart => exact ⟨0, _, [], Nat.zero_le _, rfl, rfl, Lib.hid rfl, RowFd.nil_ _ _, Nat.le_refl _, Below.refl _ _, hb1⟩
  case round =>
    obtain ⟨k, v, S, hk, rfl, e4, HS, ho, hSk, hB1, hBw⟩ := hrel
    have e4' := e4.symm
    subst e4'
    obtain ⟨A3, c3, hv3, -, -, -⟩ := ho.sl
    subst hv3
    by_cases hlt : k < fs.length
    · obtain ⟨b1, o1, rfl, l1, q1⟩ := (H1.below hB1).at_ (by omega)
      obtain ⟨x, hx⟩ : ∃ x, fs[k]? = some x := ⟨_, List.getElem?_eq_getElem hlt⟩
      obtain ⟨x0, x1, x2, x3, x4, x5⟩ := q1 k x hx
      have hsz := hB1.size
      have l1' : b1 < wr.heap.size := by omega
      have i0 : (0 : Int) ≤ (k : Int) := by omega
      have i1 : (k : Int) < (fs.length : Int) := by omega
      have hst := stale_take (last := last) hx
      rw [HS.out] at hst
      have hBn : Below w.heap.size w (wr.alloc (.cells #[.int .i64 x.b, .int .i64 x.g, .int .i64 x.k, .int .i64 x.p, .int .i64 x.s, .int .i64 x.e] 30)) := hBw.alloc hBw.size _
      have hBn1 : Below w1.heap.size w1 (wr.alloc (.cells #[.int .i64 x.b, .int .i64 x.g, .int .i64 x.k, .int .i64 x.p, .int .i64 x.s, .int .i64 x.e] 30)) := hB1.alloc hB1.size _
      have hon : RowFd (wr.alloc (.cells #[.int .i64 x.b, .int .i64 x.g, .int .i64 x.k, .int .i64 x.p, .int .i64 x.s, .int .i64 x.e] 30)) w1.heap.size (.slice A3 S.length c3) S := ho.below ((Below.refl _ _).alloc (Nat.le_refl _) _)
      have hws := hBw.size
      clear q1 hx
      by_cases hl : last < x.e
      · rw [if_pos hl] at hst
        have HST := Lib.hid hst
        clear hst
        go_wp2_with (at_builtin; go_loud (obtain ⟨ti0, hi, hz0, hz1, hz2⟩ := info_parts infoFd; refine wpList_app _ rfl (.tmp 20) (.tmp 22) _ rfl w1.heap.size 30 ti0 _ 6 48 Try.underlying22 hi hz0 hz1 hz2 rfl (by decide) _ S.length (S.flatMap fCs) rfl (hon.below ((Below.refl _ _).alloc (Nat.le_refl _) _)) _ 1 _ (fCs x) rfl (rd_new _ x (by simp)) (flat_one1 x) (by unfold maxLen; omega) (by omega) (by simp; omega) ?_; intro v' w' ho' hg' hv'; clear hi hz0 hz1 hz2))
        have hlt' := ho.lt
        go_roundw
        case rel => exact ⟨k + 1, v', S ++ [x], by omega, by go_num, rfl, HST, RowFd.snoc ho', by rw [List.length_append]; simp; omega, (hBn1.alloc (by simp; omega) _).grown hg' (by simp; omega) (fun g hg => (hlt' g hg).1), (hBn.alloc (by simp; omega) _).grown hg' (by simp; omega) (fun g hg => Nat.le_trans hz1 (hlt' g hg).1)⟩
        case measure => simp [iOf]; omega
      · rw [if_neg hl] at hst
        have HST := Lib.hid hst
        clear hst
        go_wp2
        go_roundw
        case rel => exact ⟨k + 1, _, S, by omega, by go_num, rfl, HST, hon, by omega, hBn1, hBn⟩
        case measure => simp [iOf]; omega
    · obtain rfl : k = fs.length := by omega
      obtain rfl : S = staleZ fs := by rw [← HS.out, List.take_length, ← HLA.out]; rfl
      clear HS
      go_wp2
      go_ret
      exact ⟨⟨_, rfl, ho.base hz1⟩, hBw⟩
end Go.Proofs.Ytofeijlejljbdaa
