/- What drawn regions of the laws want. -/
import Derived.Test.YtofeijlejljbdaaRankTrims
import Derived.Deep.DeepCutAuto
namespace Go.Proofs.Ytofeijlejljbdaa
open Go.ChangeShapes Go.WideShapes Go.ChangeAt Go.RowKit
set_option linter.unusedSimpArgs false
set_option linter.unusedVariables false

theorem chain_app0 {w0 wk w2 : World} {n : Nat} {v1 v2 : Value} {S : List Fd} {x : Fd} (hn : S.length = n) (hch : Below w0.heap.size w0 wk) (hro : RowFd wk w0.heap.size v1 S) (ho2 : w2.ownsRow w0.heap.size 30 6 v2 (n + 1) (S.flatMap fCs ++ fCs x)) (hg2 : wk.grownBy w2 v1.ownBlock) :
    Below w0.heap.size w0 w2 ∧ ∃ A c, v2 = .slice A (n + 1) c ∧ SlFd w2 w2.heap.size A (S ++ [x]) ∧ n + 1 ≤ c ∧ c ≤ maxLen := by
  subst hn
  refine ⟨hch.grown hg2 hch.size (fun g hg => (hro.lt g hg).1), ?_⟩
  obtain ⟨A, c, e, h1, h2, h3⟩ := (RowFd.snoc ho2).sl
  simp only [List.length_append, List.length_cons, List.length_nil, Nat.zero_add] at e h2
  exact ⟨A, c, e, h1, h2, h3⟩
theorem rd_blk {w : World} {g : Nat} {x : Fd} (h : Blk w g 30 #[.int .i64 x.b, .int .i64 x.g, .int .i64 x.k, .int .i64 x.p, .int .i64 x.s, .int .i64 x.e]) : Rd w (some ⟨g, 0, none⟩) 1 6 (fCs x) := by
  refine ⟨rfl, Or.inr ⟨_, 0, rfl, fun j u hj => ?_⟩⟩
  rw [h.cell_, Nat.zero_add]
  simpa [fCs] using hj
theorem step_buildF {w : World} {ops : Array Oper} {o : Oper} {a : Act} {K : Act → World → Prop} {Q : Exit → Act → World → Prop} {E : Prop} (hgd : o.guard = none) (x : Operand) (hop : o.op = Op.buildSlice 22 1 #[(0, x)]) (y : Fd) (hx : a.eval x = (.agg #[.int .i64 y.b, .int .i64 y.g, .int .i64 y.k, .int .i64 y.p, .int .i64 y.s, .int .i64 y.e]))
    (hK : ∀ w' g, Blk w' g 30 #[.int .i64 y.b, .int .i64 y.g, .int .i64 y.k, .int .i64 y.p, .int .i64 y.s, .int .i64 y.e] → w.heap.size ≤ g → Below w.heap.size w w' → K (a.put o.dst (.slice (some ⟨g, 0, none⟩) 1 1)) w') : if Region.wanted o (yielded ops a.tmps) = true then Oper.wp Try.prog o a w K Q else E := by
  have hw : Region.wanted o (yielded ops a.tmps) = true := by simp [Region.wanted, hgd]
  rw [if_pos hw]
  have hrun := build_fd y w
  unfold Oper.wp
  simp [execOp, hop, hx, hrun, Result.andThen]
  exact hK _ _ (Blk.new_ _ _ _) (Nat.le_refl _) ((Below.refl _ _).alloc (Nat.le_refl _) _)
theorem blk_below {w w' : World} {g : Nat} {t : TypeId} {cs : Array Value} (h : Blk w g t cs) (hb : Below w.heap.size w w') : Blk w' g t cs := h.below hb h.lt
theorem keep6 {W w' : World} {gx : Nat} {x : Fd} (hx : W.cell? ⟨gx, 0, none⟩ = some (.int .i64 x.b) ∧ W.cell? ⟨gx, 1, none⟩ = some (.int .i64 x.g) ∧ W.cell? ⟨gx, 2, none⟩ = some (.int .i64 x.k) ∧ W.cell? ⟨gx, 3, none⟩ = some (.int .i64 x.p) ∧ W.cell? ⟨gx, 4, none⟩ = some (.int .i64 x.s) ∧ W.cell? ⟨gx, 5, none⟩ = some (.int .i64 x.e)) (hl : gx < W.heap.size) (hB : Below W.heap.size W w') : Below W.heap.size W w' ∧ w'.cell? ⟨gx, 0, none⟩ = some (.int .i64 x.b) ∧ w'.cell? ⟨gx, 1, none⟩ = some (.int .i64 x.g) ∧ w'.cell? ⟨gx, 2, none⟩ = some (.int .i64 x.k) ∧ w'.cell? ⟨gx, 3, none⟩ = some (.int .i64 x.p) ∧ w'.cell? ⟨gx, 4, none⟩ = some (.int .i64 x.s) ∧ w'.cell? ⟨gx, 5, none⟩ = some (.int .i64 x.e) := by
  obtain ⟨x0, x1, x2, x3, x4, x5⟩ := hx
  exact ⟨hB, (hB.cell (p := ⟨gx, 0, none⟩) hl).trans x0, (hB.cell (p := ⟨gx, 1, none⟩) hl).trans x1, (hB.cell (p := ⟨gx, 2, none⟩) hl).trans x2, (hB.cell (p := ⟨gx, 3, none⟩) hl).trans x3, (hB.cell (p := ⟨gx, 4, none⟩) hl).trans x4, (hB.cell (p := ⟨gx, 5, none⟩) hl).trans x5⟩
theorem all_is (fs : List Fd) (n : Nat) (A : Option Addr) (c : Nat) (L : List Fd) (m : Nat) (w : World) (hn : fs.length = n) (h : SlFd w w.heap.size A fs) (n1 : n ≤ 1000000) (hok : ∀ x ∈ fs, FdOk x) (hL : ∀ L', IsAll fs L' → L' = L) (hm : L.length = m) : Calls Try.prog 11 #[.slice A n c] w fun e' w' => (∃ A c, e' = .returned (.slice A m c) ∧ Hid (m ≤ n ∧ m ≤ c ∧ c ≤ maxLen) ∧ SlFd w' w'.heap.size A L ∧ RowFd w' w.heap.size (.slice A m c) L) ∧ Below w.heap.size w w' := by
  subst hm
  refine (all_n fs n A c w hn h n1 hok).mono ?_
  rintro e' w' ⟨⟨A, c, L2, rfl, hH, hs, hr⟩, hb⟩
  obtain rfl := hL L2 hH.out.1
  exact ⟨⟨A, c, rfl, Lib.hid hH.out.2, hs, hr⟩, hb⟩
/-! ### an element of a row is written over -/
theorem sc_other (w : World) {p q : Addr} (v : Value) (h : p ≠ q) : (w.setCell p v).cell? q = w.cell? q := by simp [World.cell?_setCell_other, h]
theorem sc_same {w : World} {p : Addr} {u : Value} (v : Value) (h : w.cell? p = some u) : (w.setCell p v).cell? p = some v := World.cell?_setCell_same w p v h
def st6o (w : World) (g o : Nat) (u0 u1 u2 u3 u4 u5 : Value) : World := (((((w.setCell ⟨g, o, none⟩ u0).setCell ⟨g, o + 1, none⟩ u1).setCell ⟨g, o + 2, none⟩ u2).setCell ⟨g, o + 3, none⟩ u3).setCell ⟨g, o + 4, none⟩ u4).setCell ⟨g, o + 5, none⟩ u5
theorem st6o_far (w : World) (g o : Nat) (u0 u1 u2 u3 u4 u5 : Value) (p : Addr) (h : p.block = g → p.off < o ∨ o + 6 ≤ p.off) : (st6o w g o u0 u1 u2 u3 u4 u5).cell? p = w.cell? p := by
  have ne : ∀ j, j < 6 → (⟨g, o + j, none⟩ : Addr) ≠ p := by
    intro j hj e
    have := h (by rw [← e])
    rw [← e] at this
    dsimp only at this
    omega
  unfold st6o
  rw [sc_other _ _ (ne 5 (by omega)), sc_other _ _ (ne 4 (by omega)), sc_other _ _ (ne 3 (by omega)), sc_other _ _ (ne 2 (by omega)), sc_other _ _ (ne 1 (by omega))]
  exact sc_other _ _ (ne 0 (by omega))
theorem st6o_below {B g o : Nat} {w0 w : World} (h : Below B w0 w) (hg : B ≤ g) (u0 u1 u2 u3 u4 u5 : Value) : Below B w0 (st6o w g o u0 u1 u2 u3 u4 u5) :=
  (((((h.setCell (p := ⟨g, o, none⟩) hg u0).setCell (p := ⟨g, o + 1, none⟩) hg u1).setCell (p := ⟨g, o + 2, none⟩) hg u2).setCell (p := ⟨g, o + 3, none⟩) hg u3).setCell (p := ⟨g, o + 4, none⟩) hg u4).setCell (p := ⟨g, o + 5, none⟩) hg u5
theorem st6o_size (w : World) (g o : Nat) (u0 u1 u2 u3 u4 u5 : Value) : (st6o w g o u0 u1 u2 u3 u4 u5).heap.size = w.heap.size := by simp [st6o]
theorem ne_off {g i j : Nat} (h : i ≠ j) : (⟨g, i, none⟩ : Addr) ≠ ⟨g, j, none⟩ := by
  intro e
  injection e with _ e _
  exact h e
theorem st6o_in {w : World} {g o : Nat} {a b c d e f : Value} (h0 : w.cell? ⟨g, o, none⟩ = some a) (h1 : w.cell? ⟨g, o + 1, none⟩ = some b) (h2 : w.cell? ⟨g, o + 2, none⟩ = some c) (h3 : w.cell? ⟨g, o + 3, none⟩ = some d) (h4 : w.cell? ⟨g, o + 4, none⟩ = some e) (h5 : w.cell? ⟨g, o + 5, none⟩ = some f) (y : Fd) :
    ∀ j u, (fCs y)[j]? = some u → (st6o w g o (.int .i64 y.b) (.int .i64 y.g) (.int .i64 y.k) (.int .i64 y.p) (.int .i64 y.s) (.int .i64 y.e)).cell? ⟨g, o + j, none⟩ = some u := by
  intro j u hj
  have hlt : j < 6 := (List.getElem?_eq_some_iff.1 hj).1
  have o1 : ∀ (w : World) (i j : Nat) (v : Value), i ≠ j → (w.setCell ⟨g, o + i, none⟩ v).cell? ⟨g, o + j, none⟩ = w.cell? ⟨g, o + j, none⟩ := fun w i j v hij => sc_other _ _ (ne_off (by omega))
  have o0 : ∀ (w : World) (j : Nat) (v : Value), j ≠ 0 → (w.setCell ⟨g, o, none⟩ v).cell? ⟨g, o + j, none⟩ = w.cell? ⟨g, o + j, none⟩ := fun w j v hij => sc_other _ _ (ne_off (by omega))
  have oz : ∀ (w : World) (i : Nat) (v : Value), i ≠ 0 → (w.setCell ⟨g, o + i, none⟩ v).cell? ⟨g, o, none⟩ = w.cell? ⟨g, o, none⟩ := fun w i v hij => sc_other _ _ (ne_off (by omega))
  unfold st6o
  match j, hj with
  | 0, hj =>
    obtain rfl : Value.int .i64 y.b = u := by simpa [fCs] using hj
    show World.cell? _ ⟨g, o, none⟩ = _
    rw [oz _ 5 _ (by decide), oz _ 4 _ (by decide), oz _ 3 _ (by decide), oz _ 2 _ (by decide), oz _ 1 _ (by decide)]
    exact sc_same _ h0
  | 1, hj =>
    obtain rfl : Value.int .i64 y.g = u := by simpa [fCs] using hj
    rw [o1 _ 5 1 _ (by decide), o1 _ 4 1 _ (by decide), o1 _ 3 1 _ (by decide), o1 _ 2 1 _ (by decide)]
    exact sc_same _ ((o0 _ 1 _ (by decide)).trans h1)
  | 2, hj =>
    obtain rfl : Value.int .i64 y.k = u := by simpa [fCs] using hj
    rw [o1 _ 5 2 _ (by decide), o1 _ 4 2 _ (by decide), o1 _ 3 2 _ (by decide)]
    exact sc_same _ ((o1 _ 1 2 _ (by decide)).trans ((o0 _ 2 _ (by decide)).trans h2))
  | 3, hj =>
    obtain rfl : Value.int .i64 y.p = u := by simpa [fCs] using hj
    rw [o1 _ 5 3 _ (by decide), o1 _ 4 3 _ (by decide)]
    exact sc_same _ ((o1 _ 2 3 _ (by decide)).trans ((o1 _ 1 3 _ (by decide)).trans ((o0 _ 3 _ (by decide)).trans h3)))
  | 4, hj =>
    obtain rfl : Value.int .i64 y.s = u := by simpa [fCs] using hj
    rw [o1 _ 5 4 _ (by decide)]
    exact sc_same _ ((o1 _ 3 4 _ (by decide)).trans ((o1 _ 2 4 _ (by decide)).trans ((o1 _ 1 4 _ (by decide)).trans ((o0 _ 4 _ (by decide)).trans h4))))
  | 5, hj =>
    obtain rfl : Value.int .i64 y.e = u := by simpa [fCs] using hj
    exact sc_same _ ((o1 _ 4 5 _ (by decide)).trans ((o1 _ 3 5 _ (by decide)).trans ((o1 _ 2 5 _ (by decide)).trans ((o1 _ 1 5 _ (by decide)).trans ((o0 _ 5 _ (by decide)).trans h5)))))
theorem SlFd.set6 {w : World} {B g off k : Nat} {L : List Fd} (hc : ∀ i x, L[i]? = some x → ∀ j u, (fCs x)[j]? = some u → w.cell? ⟨g, off + i * 6 + j, none⟩ = some u) (hg : g < B) (hk : k < L.length) (y : Fd) :
    SlFd (st6o w g (off + k * 6) (.int .i64 y.b) (.int .i64 y.g) (.int .i64 y.k) (.int .i64 y.p) (.int .i64 y.s) (.int .i64 y.e)) B (some ⟨g, off, none⟩) (L.set k y) := by
  refine Or.inr ⟨g, off, rfl, hg, fun i z hz j u hu => ?_⟩
  rw [List.getElem?_map] at hz
  obtain ⟨x, hx, rfl⟩ := Option.map_eq_some_iff.1 hz
  have hj : j < 6 := (List.getElem?_eq_some_iff.1 hu).1
  rw [List.getElem?_set] at hx
  split at hx
  · rename_i hki
    subst hki
    (try rw [if_pos hk] at hx)
    obtain rfl : y = x := by simpa using hx
    obtain ⟨z, hz⟩ : ∃ z, L[k]? = some z := ⟨_, List.getElem?_eq_getElem hk⟩
    have q := hc k z hz
    exact st6o_in (q 0 _ rfl) (q 1 _ rfl) (q 2 _ rfl) (q 3 _ rfl) (q 4 _ rfl) (q 5 _ rfl) y j u hu
  · rename_i hki
    rw [st6o_far _ _ _ _ _ _ _ _ _ _ (fun _ => by dsimp only; omega)]
    exact hc i x hx j u hu
theorem RowFd.blk {w : World} {base n : Nat} {A : Option Addr} {c : Nat} {L : List Fd} (h : RowFd w base (.slice A n c) L) (hn : 0 < L.length) : ∃ g, A = some ⟨g, 0, none⟩ ∧ base ≤ g ∧ g < w.heap.size ∧ (∀ i, w.frozen? ⟨g, i, none⟩ = false) ∧ ∀ i x, L[i]? = some x → ∀ j u, (fCs x)[j]? = some u → w.cell? ⟨g, 0 + i * 6 + j, none⟩ = some u := by
  have hs := h.sl
  obtain ⟨hl, h2⟩ := h
  rcases h2 with ⟨_, h0⟩ | ⟨g, cap, cur, hv, hb, hh, hnc, hcm, hsz, ht⟩
  · omega
  · obtain ⟨A', c', e, hsl, _, _⟩ := hs
    cases hv
    cases e
    obtain ⟨b, off, e2, hlt, hc⟩ := SlE.at_ hsl (by simpa using hn)
    cases e2
    refine ⟨g, rfl, hb, hlt, fun i => by simp [World.frozen?, hh], fun i x hx j u hu => hc i _ (by rw [List.getElem?_map, hx]; rfl) j u hu⟩
end Go.Proofs.Ytofeijlejljbdaa
