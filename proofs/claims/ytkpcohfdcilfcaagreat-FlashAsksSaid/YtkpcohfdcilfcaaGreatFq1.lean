/- A slice of one-cell elements that reads as a list of values; nil and empty ones let in. -/
import Derived.Test.YtkpcohfdcilfcaaGreatChecked
import Derived.WalkKit
import Derived.ProofKit
import Derived.OpenShut
import Derived.WalkSpells
import Derived.WalkLawsBesides
import Derived.Lib.Hide
import Derived.IntWalk
import Derived.Outline
import Derived.Deep.QuietTactic
import Derived.BigQuiet
import Derived.Deep.Light
import Derived.Laws.AppendOwn
import Derived.Lib.SmallJoins
import Derived.Laws.CopyOwn
import Derived.Test.YtkpcohfdcilfcaaGreatRows
import Derived.SizedLaws
import Derived.Deep.Fields
import Derived.Deep.Slices
import Derived.ChangeSame
import Derived.Deep.RegionHeld3
import Derived.Deep.DrawnRows
import Derived.Deep.DeepCutAuto
import Derived.Laws.BitsAllLaws
import Derived.Laws.Shifts
import Derived.OwnWalk
import Derived.Test.YtkpcohfdcilfcaaGreatProg
import Derived.Ground.NamesProg
import Derived.Shelf.Bits.Mul64
import Derived.Maps.AppendAt
import Derived.Deep.AppendLies
import Derived.RegionTactic
import Derived.Laws.OwnMore
import Derived.Lib.MakeNoZero
import Derived.Laws.Externs
set_option linter.unusedSimpArgs false
set_option linter.unusedVariables false
set_option maxRecDepth 100000
set_option maxHeartbeats 16000000
namespace Go.Proofs.YtkpcohfdcilfcaaGreat
open Go.ChangeShapes Go.WideShapes Go.ChangeAt Go.RowKit
def Sl (w : World) (B : Nat) (A : Option Addr) (vs : List Value) : Prop :=
  vs = [] ∨ ∃ b off, A = some ⟨b, off, none⟩ ∧ b < B ∧ ∀ k v, vs[k]? = some v → w.cell? ⟨b, off + k, none⟩ = some v
theorem Sl.nil_ {w : World} {B : Nat} {A : Option Addr} : Sl w B A [] := Or.inl rfl
theorem Sl.at_ {w : World} {B : Nat} {A : Option Addr} {vs : List Value} (h : Sl w B A vs) (hn : 0 < vs.length) :
    ∃ b off, A = some ⟨b, off, none⟩ ∧ b < B ∧ ∀ k v, vs[k]? = some v → w.cell? ⟨b, off + k, none⟩ = some v := by
  rcases h with rfl | h
  · simp at hn
  · exact h
theorem Sl.below {w w' : World} {B : Nat} {A : Option Addr} {vs : List Value} (h : Sl w B A vs) (hb : Below B w w') : Sl w' B A vs := by
  rcases h with h | ⟨b, off, e, hlt, hc⟩
  · exact Or.inl h
  · exact Or.inr ⟨b, off, e, hlt, fun k v hv => (hb.cell (p := ⟨b, off + k, none⟩) hlt).trans (hc k v hv)⟩
theorem Sl.mono {w : World} {B B' : Nat} {A : Option Addr} {vs : List Value} (h : Sl w B A vs) (hB : B ≤ B') : Sl w B' A vs := by
  rcases h with h | ⟨b, off, e, hlt, hc⟩
  · exact Or.inl h
  · exact Or.inr ⟨b, off, e, by omega, hc⟩
theorem Sl.next {w w' : World} {A : Option Addr} {vs : List Value} (h : Sl w w.heap.size A vs) (hb : Below w.heap.size w w') : Sl w' w'.heap.size A vs := (h.below hb).mono hb.size
theorem Sl.alloc_ {w : World} {A : Option Addr} {vs : List Value} (h : Sl w w.heap.size A vs) (o : Obj) : Sl (w.alloc o) (w.alloc o).heap.size A vs := h.next ((Below.refl _ _).alloc (Nat.le_refl _) _)
theorem Sl.new_ (w : World) (t : TypeId) (vs : List Value) : Sl (w.alloc (.cells vs.toArray t)) (w.alloc (.cells vs.toArray t)).heap.size (some ⟨w.heap.size, 0, none⟩) vs := by
  right
  refine ⟨w.heap.size, 0, rfl, by simp, fun k v hk => ?_⟩
  rw [Joins.cell_of_block (heap_alloc_new w _)]
  simpa using hk
theorem Sl.of_own {w : World} {base : Nat} {e : TypeId} {A : Option Addr} {n c : Nat} {vs : List Value} (h : w.ownsRow base e 1 (.slice A n c) n vs) : Sl w w.heap.size A vs := by
  obtain ⟨hl, h⟩ := h
  rcases h with ⟨_, h0⟩ | ⟨g, cap, cur, hv, _, hh, hnc, _, hsz, ht⟩
  · left
    subst h0
    simpa using hl
  · have hA : A = some ⟨g, 0, none⟩ := by injection hv
    subst hA
    right
    have hlt : g < w.heap.size := by
      rcases Nat.lt_or_ge g w.heap.size with hx | hx
      · exact hx
      · rw [Array.getElem?_eq_none hx] at hh
        cases hh
    refine ⟨g, 0, rfl, hlt, fun k v hk => ?_⟩
    have hk' : k < n := by
      have := (List.getElem?_eq_some_iff.1 hk).1
      omega
    rw [← ht, List.getElem?_take_of_lt (by omega)] at hk
    rw [Joins.cell_of_block hh]
    simpa using hk
theorem bcell {W w1 : World} (hb : Below W.heap.size W w1) : (∀ b o, b < W.heap.size → w1.cell? ⟨b, o, none⟩ = W.cell? ⟨b, o, none⟩) ∧ (∀ b o, b < W.heap.size → w1.frozen? ⟨b, o, none⟩ = W.frozen? ⟨b, o, none⟩) :=
  ⟨fun b o h => hb.cell (p := ⟨b, o, none⟩) h, fun b o h => hb.frozen (p := ⟨b, o, none⟩) h⟩
theorem btr {B : Nat} {a b c : World} (h : Below B a b) (hB : B ≤ b.heap.size) (k : Below b.heap.size b c) : Below B a c := h.trans (k.mono hB)
theorem below1 {w w1 : World} {o : Obj} (hb : Below (w.alloc o).heap.size (w.alloc o) w1) : Below w.heap.size w w1 :=
  ((Below.refl _ _).alloc (Nat.le_refl _) _).trans (hb.mono (by simp))
def Blk (w : World) (g : Nat) (t : TypeId) (cs : Array Value) : Prop := w.heap[g]? = some (.cells cs t (0, 0))
theorem Blk.cell_ {w : World} {g : Nat} {t : TypeId} {cs : Array Value} (h : Blk w g t cs) (i : Nat) : w.cell? ⟨g, i, none⟩ = cs[i]? := by
  unfold Blk at h
  simp [World.cell?, h]
theorem Blk.free {w : World} {g : Nat} {t : TypeId} {cs : Array Value} (h : Blk w g t cs) : ∀ i, w.frozen? ⟨g, i, none⟩ = false := by
  unfold Blk at h
  intro i
  simp [World.frozen?, h]
theorem Blk.lt {w : World} {g : Nat} {t : TypeId} {cs : Array Value} (h : Blk w g t cs) : g < w.heap.size := by
  rcases Nat.lt_or_ge g w.heap.size with hl | hl
  · exact hl
  · unfold Blk at h
    rw [Array.getElem?_eq_none hl] at h
    cases h
theorem Blk.new_ (w : World) (t : TypeId) (cs : Array Value) : Blk (w.alloc (.cells cs t)) w.heap.size t cs := heap_alloc_new w _
theorem Blk.alloc_ {w : World} {g : Nat} {t : TypeId} {cs : Array Value} (h : Blk w g t cs) (o : Obj) : Blk (w.alloc o) g t cs := (Below.heap_alloc w o g h.lt).trans h
theorem Blk.set_ {w : World} {g : Nat} {t : TypeId} {cs : Array Value} (h : Blk w g t cs) (i : Nat) (u : Value) : Blk (w.setCell ⟨g, i, none⟩ u) g t (cs.setIfInBounds i u) := Joins.block_setCell h u
theorem Blk.far {w : World} {g : Nat} {t : TypeId} {cs : Array Value} (h : Blk w g t cs) {p : Addr} (hp : g ≠ p.block) (u : Value) : Blk (w.setCell p u) g t cs := (Below.heap_setCell w p u g hp).trans h
theorem Blk.below {w w' : World} {g B : Nat} {t : TypeId} {cs : Array Value} (h : Blk w g t cs) (hb : Below B w w') (hg : g < B) : Blk w' g t cs := (hb.block g hg).trans h
theorem Blk.drewN_ {w : World} {g : Nat} {t : TypeId} {cs : Array Value} (h : Blk w g t cs) (n : Nat) : Blk (w.drewN n) g t cs := h
theorem below_dn {B : Nat} {a w : World} (h : Below B a w) (n : Nat) : Below B a (w.drewN n) := ⟨h.os, h.tape, h.output, h.size, h.block⟩
theorem pz1 {α : Type} (l : List α) (i : Nat) (a : α) : l.toArray.setIfInBounds i a = (l.set i a).toArray := List.setIfInBounds_toArray ..
theorem pz2 {α : Type} (x : α) (xs : List α) (a : α) : (x :: xs).set 0 a = a :: xs := List.set_cons_zero ..
theorem pz3 {α : Type} (x : α) (xs : List α) (n : Nat) (a : α) : (x :: xs).set (n + 1) a = x :: xs.set n a := List.set_cons_succ ..
theorem tk (i : Nat) {P : Program} {ops : Array Oper} {Q : Exit → Act → World → Prop} {md : Region.Mode} {S : World → Prop} {fuel : Nat} {listed : Array Bool} {a : Act} {w : World} {d_ : Option Nat} {op_ : Op} {ty_ : TypeId} {ps_ : String} {af_ : Array Edge} {gd_ : Option (Nat × Bool)} {v : Value} (h : wpAnyH P md ops Q S fuel (listed.setIfInBounds i true) (a.put d_ v) w) (hi : ops[i]? = some ⟨d_, op_, ty_, ps_, af_, gd_⟩ := by rfl) (hy : ∀ w, S w → (execOp a.eval ⟨d_, op_, ty_, ps_, af_, gd_⟩).run P w = .ok (.value v) w := by (intro wS hSw; (try dsimp only at hSw); go_simp; (try with_reducible rfl))) (hs : Region.noSelect ops = true := by kernel_rfl) (hf : Region.free md ops listed i = true := by kernel_rfl) (hr : (Region.ready md ops listed).contains i = true := by kernel_rfl) (hQ : ∀ c a w, Q (.panic c) (a.put d_ v) w → Q (.panic c) a w := by exact fun _ _ _ h => h) (hw : Region.wanted ⟨d_, op_, ty_, ps_, af_, gd_⟩ (yielded ops a.tmps) = true := by rfl) (hS : S w := by assumption) : wpAnyH P md ops Q S (fuel + 1) listed a w :=
  wpAnyH_take hi hs hf hr hQ (Or.inl ⟨hw, hy⟩) hS h
theorem tu (i : Nat) {P : Program} {ops : Array Oper} {Q : Exit → Act → World → Prop} {md : Region.Mode} {S : World → Prop} {fuel : Nat} {listed : Array Bool} {a : Act} {w : World} {d_ : Option Nat} {op_ : Op} {ty_ : TypeId} {ps_ : String} {af_ : Array Edge} {gd_ : Option (Nat × Bool)} (h : wpAnyH P md ops Q S fuel (listed.setIfInBounds i true) (a.put d_ undef) w) (hi : ops[i]? = some ⟨d_, op_, ty_, ps_, af_, gd_⟩ := by rfl) (hs : Region.noSelect ops = true := by kernel_rfl) (hf : Region.free md ops listed i = true := by kernel_rfl) (hr : (Region.ready md ops listed).contains i = true := by kernel_rfl) (hQ : ∀ c a w, Q (.panic c) (a.put d_ undef) w → Q (.panic c) a w := by exact fun _ _ _ h => h) (hw : Region.wanted ⟨d_, op_, ty_, ps_, af_, gd_⟩ (yielded ops a.tmps) = false := by rfl) (hS : S w := by assumption) : wpAnyH P md ops Q S (fuel + 1) listed a w :=
  wpAnyH_take hi hs hf hr hQ (Or.inr ⟨hw, rfl⟩) hS h
end Go.Proofs.YtkpcohfdcilfcaaGreat
namespace Go.Proofs.YtkpcohfdcilfcaaGreat
open Go.ChangeShapes Go.WideShapes Go.ChangeAt Go.RowKit
structure Tch (S : Nat → Prop) (w w' : World) : Prop where
  size : w.heap.size ≤ w'.heap.size
  far : ∀ g, g < w.heap.size → ¬ S g → w'.heap[g]? = w.heap[g]?
  os : w'.os = w.os
  tape : w'.tape = w.tape
  output : w'.output = w.output
theorem Tch.refl {S : Nat → Prop} (w : World) : Tch S w w := ⟨Nat.le_refl _, fun _ _ _ => rfl, rfl, rfl, rfl⟩
theorem Tch.of_below {S : Nat → Prop} {w w' : World} (h : Below w.heap.size w w') : Tch S w w' := ⟨h.size, fun g hg _ => h.block g hg, h.os, h.tape, h.output⟩
theorem Tch.trans {S : Nat → Prop} {w w' w'' : World} (h : Tch S w w') (k : Tch S w' w'') : Tch S w w'' :=
  ⟨Nat.le_trans h.size k.size, fun g hg h1 => (k.far g (Nat.lt_of_lt_of_le hg h.size) h1).trans (h.far g hg h1), k.os.trans h.os, k.tape.trans h.tape, k.output.trans h.output⟩
theorem Tch.mono {S S' : Nat → Prop} {w w' : World} (h : Tch S w w') (hs : ∀ g, S g → S' g) : Tch S' w w' := ⟨h.size, fun g hg h1 => h.far g hg (fun h2 => h1 (hs g h2)), h.os, h.tape, h.output⟩
theorem Tch.monoL {S S' : Nat → Prop} {w w' : World} (h : Tch S w w') (hs : ∀ g, g < w.heap.size → S g → S' g) : Tch S' w w' := ⟨h.size, fun g hg h1 => h.far g hg (fun h2 => h1 (hs g hg h2)), h.os, h.tape, h.output⟩
theorem Tch.below {S : Nat → Prop} {w w' : World} (h : Tch S w w') {B : Nat} (hB : B ≤ w.heap.size) (hs : ∀ g, S g → B ≤ g) : Below B w w' :=
  ⟨h.os, h.tape, h.output, h.size, fun g hg => h.far g (Nat.lt_of_lt_of_le hg hB) (fun h1 => by have := hs g h1; omega)⟩
theorem Tch.then {S : Nat → Prop} {w w' w'' : World} (h : Tch S w w') (k : Below w'.heap.size w' w'') : Tch S w w'' := h.trans (.of_below k)
theorem Tch.set {S : Nat → Prop} (w : World) (p : Addr) (u : Value) (hp : S p.block) : Tch S w (w.setCell p u) := by
  have hb := (Below.refl (0 : Nat) w).setCell (p := p) (Nat.zero_le _) u
  exact ⟨hb.size, fun g _ h1 => Below.heap_setCell w p u g (fun e => h1 (e ▸ hp)), hb.os, hb.tape, hb.output⟩
theorem Tch.setRow {S : Nat → Prop} (w : World) (g : Nat) (cs : Array Value) (hp : S g) : Tch S w (w.setRow g cs) :=
  ⟨by simp [World.setRow], fun h hh h1 => setRow_other w g h cs (fun e => h1 (e ▸ hp)), rfl, rfl, rfl⟩
theorem Tch.grown {S : Nat → Prop} {w w' : World} {row : Option Nat} (hg : w.grownBy w' row) (hr : ∀ k, row = some k → S k) : Tch S w w' :=
  ⟨hg.size, fun g hl h1 => hg.block g hl (fun e => h1 (hr g e.symm)), hg.os, hg.tape, hg.output⟩
theorem Tch.like {S : Nat → Prop} {w w1 w2 : World} (h : Tch S w w1) (e1 : w2.heap = w1.heap := by rfl) (e2 : w2.os = w1.os := by rfl) (e3 : w2.tape = w1.tape := by rfl) (e4 : w2.output = w1.output := by rfl) : Tch S w w2 :=
  ⟨by rw [e1]; exact h.size, fun x hx h1 => by rw [e1]; exact h.far x hx h1, e2.trans h.os, e3.trans h.tape, e4.trans h.output⟩
theorem Tch.blk {S : Nat → Prop} {w w' : World} {g : Nat} {t : TypeId} {cs : Array Value} (hT : Tch S w w') (h : Blk w g t cs) (h1 : ¬ S g) : Blk w' g t cs := (hT.far _ h.lt h1).trans h
theorem Tch.sl {S : Nat → Prop} {w w' : World} {B : Nat} {A : Option Addr} {vs : List Value} (hT : Tch S w w') (h : Sl w B A vs) (hB : B ≤ w.heap.size) (h1 : ∀ g, g < B → ¬ S g) : Sl w' B A vs :=
  h.below ⟨hT.os, hT.tape, hT.output, hT.size, fun g hg => hT.far g (Nat.lt_of_lt_of_le hg hB) (h1 g hg)⟩
def RowT (w : World) (g : Nat) (t : TypeId) (xs : List Value) : Prop := ∃ r : List Value, Blk w g t (xs ++ r).toArray
theorem RowT.cell_ {w : World} {g : Nat} {t : TypeId} {xs : List Value} (h : RowT w g t xs) {i : Nat} {v : Value} (hi : xs[i]? = some v) : w.cell? ⟨g, i, none⟩ = some v := by
  obtain ⟨r, h⟩ := h
  rw [h.cell_]
  simp only [List.getElem?_toArray]
  rw [List.getElem?_append_left (List.getElem?_eq_some_iff.1 hi).1, hi]
theorem RowT.free {w : World} {g : Nat} {t : TypeId} {xs : List Value} (h : RowT w g t xs) : ∀ i, w.frozen? ⟨g, i, none⟩ = false := by
  obtain ⟨r, h⟩ := h
  exact h.free
theorem RowT.lt {w : World} {g : Nat} {t : TypeId} {xs : List Value} (h : RowT w g t xs) : g < w.heap.size := by
  obtain ⟨r, h⟩ := h
  exact h.lt
theorem RowT.set_ {w : World} {g : Nat} {t : TypeId} {xs : List Value} (h : RowT w g t xs) {i : Nat} (hi : i < xs.length) (v : Value) : RowT (w.setCell ⟨g, i, none⟩ v) g t (xs.set i v) := by
  obtain ⟨r, h⟩ := h
  refine ⟨r, ?_⟩
  have := h.set_ i v
  rw [show ((xs ++ r).toArray.setIfInBounds i v) = (xs.set i v ++ r).toArray by
    rw [List.setIfInBounds_toArray, List.set_append_left _ _ hi]] at this
  exact this
theorem RowT.far {w : World} {g : Nat} {t : TypeId} {xs : List Value} (h : RowT w g t xs) {p : Addr} (hp : g ≠ p.block) (u : Value) : RowT (w.setCell p u) g t xs := by
  obtain ⟨r, h⟩ := h
  exact ⟨r, h.far hp u⟩
theorem RowT.keep {w w' : World} {g : Nat} {t : TypeId} {xs : List Value} (h : RowT w g t xs) (hb : w'.heap[g]? = w.heap[g]?) : RowT w' g t xs := by
  obtain ⟨r, h⟩ := h
  exact ⟨r, hb.trans h⟩
theorem RowT.below {w w' : World} {g : Nat} {t : TypeId} {xs : List Value} (h : RowT w g t xs) (hb : Below w.heap.size w w') : RowT w' g t xs := h.keep (hb.block _ h.lt)
theorem RowT.of_blk {w : World} {g : Nat} {t : TypeId} {xs : List Value} (h : Blk w g t xs.toArray) : RowT w g t xs := ⟨[], by simpa using h⟩
theorem RowT.own {w : World} {base : Nat} {t : TypeId} {g n c : Nat} {xs : List Value} (h : w.ownsRow base t 1 (.slice (some ⟨g, 0, none⟩) n c) n xs) : RowT w g t xs := by
  obtain ⟨hl, h⟩ := h
  rcases h with ⟨h0, _⟩ | ⟨g', cap, cur, hv, _, hh, hnc, _, hsz, ht⟩
  · cases h0
  · cases hv
    refine ⟨cur.toList.drop (n * 1), ?_⟩
    unfold Blk
    rw [← ht, List.take_append_drop]
    exact hh
end Go.Proofs.YtkpcohfdcilfcaaGreat
namespace Go.Proofs.YtkpcohfdcilfcaaGreat
open Go.ChangeShapes Go.WideShapes Go.ChangeAt Go.RowKit
theorem Tryz.own : ownKnob Tryz.prog.godebug = none := by kernel_rfl
theorem Tryz.laidOut : laidOutB Tryz.prog = true := by kernel_rfl
theorem trodAll_below {H : Type} {enc : TypeId × Value → H} {P : Program} (hl : laidOutB P = true) {W W' : World} (hb : Below W.heap.size W W') :
    ∀ (ts : List TypeId) (vs : List Value) (ds : List (DataW H)) (ps : List MemPlace), (ts.all fun t => P.readableRec t && decide (t < P.types.size)) = true →
      (∀ x ∈ ps, x.block < W.heap.size) → DataW.TrodAll enc P W 0 (fun _ => true) true ts vs ds ps → DataW.TrodAll enc P W' 0 (fun b => decide (b < W.heap.size)) true ts vs ds ps
  | [], [], [], _, _, _, h => h
  | t :: ts, v :: vs, d :: ds, ps, ht, hlt, h => by
    obtain ⟨p, q, h1, h2, rfl⟩ := h
    simp only [List.all_cons, Bool.and_eq_true, decide_eq_true_eq] at ht
    exact ⟨p, q, Below.trod hl ht.1.1 ht.1.2 h1 hb (fun x hx => hlt x (by simp [hx])), trodAll_below hl hb ts vs ds q ht.2 (fun x hx => hlt x (by simp [hx])) h2, rfl⟩
  | [], _ :: _, _, _, _, _, h => by cases h
  | [], [], _ :: _, _, _, _, h => by cases h
  | _ :: _, [], _, _, _, _, h => by cases h
  | _ :: _, _ :: _, [], _, _, _, h => by cases h
theorem trodAll_length {H : Type} {enc : TypeId × Value → H} {P : Program} {W : World} {base : Nat} {sp : Nat → Bool} {held : Bool} :
    ∀ (ts : List TypeId) (vs : List Value) (ds : List (DataW H)) (ps : List MemPlace), DataW.TrodAll enc P W base sp held ts vs ds ps → ds.length = ts.length ∧ vs.length = ts.length
  | [], [], [], _, _ => ⟨rfl, rfl⟩
  | _ :: ts, _ :: vs, _ :: ds, _, h => by
    obtain ⟨p, q, _, h2, _⟩ := h
    obtain ⟨a, b⟩ := trodAll_length ts vs ds q h2
    exact ⟨by simp [a], by simp [b]⟩
  | [], _ :: _, _, _, h => by cases h
  | [], [], _ :: _, _, h => by cases h
  | _ :: _, [], _, _, h => by cases h
  | _ :: _, _ :: _, [], _, h => by cases h
def LawSpec (s : ChangeSpec) (n : Nat) : Prop := s.vars = [] ∧ ∀ (H : Type) (ds : List (DataW H)), ds.length = n → (s.fn H (ds ++ [])).results = [.lit (.bool true)] ∧ (s.fn H (ds ++ [])).args = ds ∧ (s.fn H (ds ++ [])).vars = []
theorem post_of_walk {H : Type} {enc : TypeId × Value → H} {fn : Func} {s : ChangeSpec} (hs : LawSpec s fn.params.size) {tb : TypeId} (hres : fn.resultTypes = #[tb]) (htb : Tryz.prog.underlying tb = some .bool)
    (hts : (fn.params.toList.all fun t => Tryz.prog.readableRec t && decide (t < Tryz.prog.types.size)) = true)
    {W W' : World} {args : Array Value} {ds gs : List (DataW H)} {before : List MemPlace} (hW : DataW.Whole enc Tryz.prog fn.params.toList s.vars false W args.toList ds gs before) (hb : Below W.heap.size W W') :
    s.post enc Tryz.prog fn false true false false W args (.bool true) W' := by
  have hW' := hW
  obtain ⟨p, q, hA, hV, rfl, _, _⟩ := hW
  rw [hs.1] at hV
  obtain ⟨rfl, rfl⟩ := trodVars_none hV
  obtain ⟨hn, _⟩ := trodAll_length _ _ _ _ hA
  obtain ⟨e1, e2, e3⟩ := hs.2 H ds (by rw [hn]; simp)
  have hlt : ∀ x ∈ p, x.block < W.heap.size := fun x hx => hW'.lt x (by simp [hx])
  refine ⟨ds, [], p ++ [], [], p, [], hW', ?_, ?_, ?_, ?_, fun h => by cases h⟩
  · rw [e1, hres]
    exact trodAll_mk1 (shut_bool htb true)
  · rw [e2]
    exact trodAll_below Tryz.laidOut hb _ _ _ _ hts hlt hA
  · rw [e3, hs.1]
    rfl
  · exact hb.frame _
end Go.Proofs.YtkpcohfdcilfcaaGreat
namespace Go.Proofs.YtkpcohfdcilfcaaGreat
open Go.ChangeShapes Go.WideShapes Go.ChangeAt Go.RowKit Go.Deep
def i64in (z : Int) : Prop := -9223372036854775808 ≤ z ∧ z ≤ 9223372036854775807
theorem i64in_of {z : Int} (h : (Lit.int .i64 z).wf = true) : i64in z := by
  have e1 : IntKind.i64.min = -9223372036854775808 := rfl
  have e2 : IntKind.i64.max = 9223372036854775807 := rfl
  simp only [Lit.wf, Bool.and_eq_true, decide_eq_true_eq, e1, e2] at h
  exact h
section
variable {H : Type} {enc : TypeId × Value → H} {P : Program} {w : World} {base : Nat} {spare : Nat → Bool} {held : Bool}
theorem int_value {r : Reach} {b0 : Nat} {t : TypeId} {v : Value} {d : DataW H} {p : List MemPlace} (ht : P.underlying t = some (.int .i64)) (hv : Value.okWide P w r b0 t v) (h : DataW.Trod enc P w base spare held t v d p) :
    ∃ z, v = .int .i64 z ∧ i64in z := by
  obtain ⟨z, rfl, _, _, hw⟩ := open_int ht hv h
  exact ⟨z, rfl, i64in_of hw⟩
theorem agg_ints {r : Reach} {b0 : Nat} {t : TypeId} {fs : Array Field} {v : Value} {d : DataW H} {p : List MemPlace} (hs : P.underlying t = some (.struct fs)) (hone : oneCellFields P fs = true)
    (hi : ∀ (i : Nat) (f : Field), fs[i]? = some f → P.underlying f.type = some (.int .i64)) (hC : P.cellsOf t = fs.size) (hv : Value.okWide P w r b0 t v) (h : DataW.Trod enc P w base spare held t v d p) :
    ∃ zs : List Int, zs.length = fs.size ∧ v = .agg (zs.map (Value.int .i64)).toArray ∧ ∀ z ∈ zs, i64in z := by
  obtain ⟨cs, rfl, hsz⟩ := okWide_struct hs hv
  obtain ⟨l⟩ := cs
  obtain ⟨fuel, hf⟩ := h
  obtain ⟨xs, n, _, _, _, hlen, hg⟩ := DataW.trod_struct hs hf
  have hl : l.length = fs.size := by simpa using hsz.trans hC
  have key : ∀ i (hlt : i < l.length), ∃ z, l[i] = .int .i64 z ∧ i64in z := by
    intro i hlt
    have hfi : fs[i]? = some (fs[i]'(by omega)) := Array.getElem?_eq_getElem (by omega)
    obtain ⟨ho, hk⟩ := hone_of hone i _ hfi
    have h1 := hg i _ hfi
    have h2 : xs[i]? = some (xs[i]'(by omega)) := List.getElem?_eq_getElem (by omega)
    rw [ho, hk, h2] at h1
    have h3 : ((Value.agg l.toArray).cells.toList.drop i).take 1 = [l[i]] := by
      show (l.drop i).take 1 = _
      rw [List.drop_eq_getElem_cons hlt]
      rfl
    rw [h3] at h1
    obtain ⟨z, hz, _, hw⟩ := DataW.trod_int (hi i _ hfi) h1
    refine ⟨z, ?_, i64in_of hw⟩
    simpa using hz
  refine ⟨l.map fun v => match v with | .int _ z => z | _ => 0, by simpa using hl, ?_, ?_⟩
  · congr 1
    congr 1
    refine List.ext_getElem (by simp) fun i h1 h2 => ?_
    obtain ⟨z, hz, _⟩ := key i h1
    simp [hz]
  · intro z hz
    obtain ⟨v, hv, rfl⟩ := List.mem_map.1 hz
    obtain ⟨i, hlt, rfl⟩ := List.mem_iff_getElem.1 hv
    obtain ⟨z, hz, hw⟩ := key i hlt
    simpa [hz] using hw
theorem all_type {fs : Array Field} {ti : TypeId} (h : fs.all (fun f => f.type == ti) = true) (i : Nat) (f : Field) (hf : fs[i]? = some f) : f.type = ti := by
  obtain ⟨hlt, rfl⟩ := Array.getElem?_eq_some_iff.1 hf
  simpa using (Array.all_eq_true.1 h) i hlt
theorem agg5_value {r : Reach} {b0 : Nat} {t ti : TypeId} {fs : Array Field} {v : Value} {d : DataW H} {p : List MemPlace} (hs : P.underlying t = some (.struct fs)) (hone : oneCellFields P fs = true)
    (hi : fs.all (fun f => f.type == ti) = true) (ht : P.underlying ti = some (.int .i64)) (hn : fs.size = 5) (hC : P.cellsOf t = 5) (hv : Value.okWide P w r b0 t v) (h : DataW.Trod enc P w base spare held t v d p) :
    ∃ a b c d e, v = .agg #[.int .i64 a, .int .i64 b, .int .i64 c, .int .i64 d, .int .i64 e] ∧ i64in a ∧ i64in b ∧ i64in c ∧ i64in d ∧ i64in e := by
  obtain ⟨zs, hl, rfl, hw⟩ := agg_ints hs hone (fun i f hf => by rw [all_type hi i f hf]; exact ht) (by rw [hC, hn]) hv h
  match zs, hl.trans hn with
  | [a, b, c, d, e], _ => exact ⟨a, b, c, d, e, rfl, hw a (by simp), hw b (by simp), hw c (by simp), hw d (by simp), hw e (by simp)⟩
end
end Go.Proofs.YtkpcohfdcilfcaaGreat
namespace Go.Proofs.YtkpcohfdcilfcaaGreat
open Go.ChangeShapes Go.WideShapes Go.ChangeAt Go.RowKit Go.Deep
structure Flt where
  blk : Int
  fac : Bool
  aft : Int
instance : Inhabited Flt := ⟨⟨0, false, 0⟩⟩
def SlF (w : World) (B : Nat) (A : Option Addr) (fs : List Flt) : Prop :=
  fs = [] ∨ ∃ b off, A = some ⟨b, off, none⟩ ∧ b < B ∧ ∀ k f, fs[k]? = some f →
    w.cell? ⟨b, off + k * 3, none⟩ = some (.int .i64 f.blk) ∧ w.cell? ⟨b, off + k * 3 + 1, none⟩ = some (.bool f.fac) ∧ w.cell? ⟨b, off + k * 3 + 2, none⟩ = some (.int .i64 f.aft)
theorem SlF.nil_ {w : World} {B : Nat} {A : Option Addr} : SlF w B A [] := Or.inl rfl
theorem SlF.at_ {w : World} {B : Nat} {A : Option Addr} {fs : List Flt} (h : SlF w B A fs) (hn : 0 < fs.length) :
    ∃ b off, A = some ⟨b, off, none⟩ ∧ b < B ∧ ∀ k f, fs[k]? = some f →
    w.cell? ⟨b, off + k * 3, none⟩ = some (.int .i64 f.blk) ∧ w.cell? ⟨b, off + k * 3 + 1, none⟩ = some (.bool f.fac) ∧ w.cell? ⟨b, off + k * 3 + 2, none⟩ = some (.int .i64 f.aft) := by
  rcases h with rfl | h
  · simp at hn
  · exact h
theorem SlF.below {w w' : World} {B : Nat} {A : Option Addr} {fs : List Flt} (h : SlF w B A fs) (hb : Below B w w') : SlF w' B A fs := by
  rcases h with h | ⟨b, off, e, hlt, hc⟩
  · exact Or.inl h
  · exact Or.inr ⟨b, off, e, hlt, fun k f hv => ⟨(hb.cell (p := ⟨b, _, none⟩) hlt).trans (hc k f hv).1, (hb.cell (p := ⟨b, _, none⟩) hlt).trans (hc k f hv).2.1, (hb.cell (p := ⟨b, _, none⟩) hlt).trans (hc k f hv).2.2⟩⟩
theorem SlF.mono {w : World} {B B' : Nat} {A : Option Addr} {fs : List Flt} (h : SlF w B A fs) (hB : B ≤ B') : SlF w B' A fs := by
  rcases h with h | ⟨b, off, e, hlt, hc⟩
  · exact Or.inl h
  · exact Or.inr ⟨b, off, e, by omega, hc⟩
theorem SlF.next {w w' : World} {A : Option Addr} {fs : List Flt} (h : SlF w w.heap.size A fs) (hb : Below w.heap.size w w') : SlF w' w'.heap.size A fs := (h.below hb).mono hb.size
theorem SlF.take_ {w : World} {B : Nat} {A : Option Addr} {fs : List Flt} (h : SlF w B A fs) (n : Nat) : SlF w B A (fs.take n) := by
  rcases h with h | ⟨b, off, e, hlt, hc⟩
  · exact Or.inl (by simp [h])
  · refine Or.inr ⟨b, off, e, hlt, fun k f hv => hc k f ?_⟩
    rw [List.getElem?_take] at hv
    split at hv
    · exact hv
    · cases hv
theorem SlF.held {W w' : World} {A : Option Addr} {fs : List Flt} (h : SlF W W.heap.size A fs) (hz : W.heap.size ≤ w'.heap.size) (hc : ∀ b o, b < W.heap.size → w'.cell? ⟨b, o, none⟩ = W.cell? ⟨b, o, none⟩) : SlF w' w'.heap.size A fs := by
  rcases h with h | ⟨b, off, e, hlt, hq⟩
  · exact Or.inl h
  · exact Or.inr ⟨b, off, e, by omega, fun k f hv => ⟨(hc b _ hlt).trans (hq k f hv).1, (hc b _ hlt).trans (hq k f hv).2.1, (hc b _ hlt).trans (hq k f hv).2.2⟩⟩
section
variable {H : Type} {enc : TypeId × Value → H} {P : Program} {w : World} {base : Nat} {spare : Nat → Bool} {held : Bool}
def fltOf (w : World) (a : Addr) (i : Nat) : Flt :=
  { blk := match w.cell? (a.add (i * 3)) with | some (.int _ z) => z | _ => 0
    fac := match w.cell? (a.add (i * 3 + 1)) with | some (.bool z) => z | _ => false
    aft := match w.cell? (a.add (i * 3 + 2)) with | some (.int _ z) => z | _ => 0 }
end
def namesB (fs : List Flt) (b : Int) : Bool := fs.any fun f => f.blk == b
def failsB (fs : List Flt) (b d : Int) : Bool := fs.any fun f => f.blk == b && decide (f.aft ≤ d)
def badB (fs : List Flt) (b : Int) : Bool := fs.any fun f => f.blk == b && f.fac
def mayF (a : Int) (f : Flt) : Bool := !decide (f.blk < 0) && (!decide (a ≤ f.blk) && (!decide (f.aft < 0) && (!decide (1073741824 < f.aft) && (!f.fac || f.aft == 0))))
def preB (a : Int) (fs : List Flt) : Nat → Bool
  | 0 => true
  | k + 1 => preB a fs k && (mayF a (fs.getD k default) && !namesB (fs.take k) (fs.getD k default).blk)
theorem any_take {p : Flt → Bool} {fs : List Flt} {k : Nat} (hk : k < fs.length) : (fs.take (k + 1)).any p = ((fs.take k).any p || p fs[k]) := by
  rw [List.take_succ_eq_append_getElem hk, List.any_append, List.any_cons, List.any_nil, Bool.or_false]
theorem any_hit {p : Flt → Bool} {fs : List Flt} {k : Nat} (hk : k < fs.length) (h : p fs[k] = true) : fs.any p = true := List.any_eq_true.2 ⟨fs[k], List.getElem_mem hk, h⟩
theorem any_end {p : Flt → Bool} {fs : List Flt} {k : Nat} (hk : k = fs.length) (h : (fs.take k).any p = false) : fs.any p = false := by
  subst hk
  simpa using h
theorem preB_stop (a : Int) (fs : List Flt) {k : Nat} (h : preB a fs k = false) : ∀ n, k ≤ n → preB a fs n = false
  | 0, hn => by
    obtain rfl : k = 0 := by omega
    exact h
  | n + 1, hn => by
    rcases Nat.lt_or_ge n k with h1 | h1
    · obtain rfl : k = n + 1 := by omega
      exact h
    · unfold preB
      rw [preB_stop a fs h n h1]
      rfl
end Go.Proofs.YtkpcohfdcilfcaaGreat
namespace Go.Proofs.YtkpcohfdcilfcaaGreat
open Go.ChangeShapes Go.WideShapes Go.ChangeAt Go.RowKit
def withinB (x lo hi : Int) : Bool := decide (lo ≤ x) && decide (x ≤ hi)
theorem within_any (x lo hi : Int) (w : World) :
    Calls Tryz.prog 148 #[.int .i64 x, .int .i64 lo, .int .i64 hi] w fun e w' => e = .returned (.bool (withinB x lo hi)) ∧ w = w' := by
  unfold withinB
  by_cases h1 : lo ≤ x <;> by_cases h2 : x ≤ hi
  all_goals
    go_enter Tryz.func148, Tryz.ntmps148
    go_wp2
    go_ret
    exact ⟨by simp [h1, h2], rfl⟩
end Go.Proofs.YtkpcohfdcilfcaaGreat
namespace Go.Proofs.YtkpcohfdcilfcaaGreat
open Go.ChangeShapes Go.WideShapes Go.ChangeAt Go.RowKit
def logicalI (a b d : Int) : Int := ((a - d - 3) * b - 4) / 2
def mayB (a b c d e : Int) : Bool :=
  withinB a 8 20 && (withinB b 4 8 && (withinB c 24 64 && (withinB d 0 4 && (withinB e 2 20 && decide (4 ≤ logicalI a b d)))))
theorem within_bd {x lo hi : Int} (h : withinB x lo hi = true) : lo ≤ x ∧ x ≤ hi := by
  simpa [withinB] using h
theorem may_bd {a b c d e : Int} (h : mayB a b c d e = true) :
    8 ≤ a ∧ a ≤ 20 ∧ 4 ≤ b ∧ b ≤ 8 ∧ 24 ≤ c ∧ c ≤ 64 ∧ 0 ≤ d ∧ d ≤ 4 ∧ 2 ≤ e ∧ e ≤ 20 ∧ 4 ≤ logicalI a b d := by
  simp only [mayB, withinB, Bool.and_eq_true, decide_eq_true_eq] at h
  omega
theorem prod_bd {x b : Int} (h1 : 1 ≤ x) (h2 : x ≤ 17) (h3 : 4 ≤ b) (h4 : b ≤ 8) : 4 ≤ x * b ∧ x * b ≤ 136 := by
  have h5 : x * b ≤ 17 * b := Int.mul_le_mul_of_nonneg_right h2 (by omega)
  have h6 : 1 * b ≤ x * b := Int.mul_le_mul_of_nonneg_right h1 (by omega)
  omega
theorem logical_any (a b c d e : Int) (w : World) (h1 : 8 ≤ a) (h2 : a ≤ 20) (h3 : 4 ≤ b) (h4 : b ≤ 8) (h5 : 0 ≤ d) (h6 : d ≤ 4) :
    Calls Tryz.prog 132 #[.agg #[.int .i64 a, .int .i64 b, .int .i64 c, .int .i64 d, .int .i64 e]] w fun e' w' => e' = .returned (.int .i64 (logicalI a b d)) ∧ Below w.heap.size w w' := by
  obtain ⟨p1, p2⟩ := prod_bd (x := a - d - 3) (b := b) (by omega) (by omega) h3 h4
  have h0 : 0 ≤ (a - d - 3) * b - 4 := by omega
  go_enter Tryz.func132, Tryz.ntmps132
  go_wp2
  go_ret
  exact ⟨rfl, (Below.refl _ _).alloc (Nat.le_refl _) _⟩
theorem may_any (a b c d e : Int) (w : World) :
    Calls Tryz.prog 108 #[.agg #[.int .i64 a, .int .i64 b, .int .i64 c, .int .i64 d, .int .i64 e]] w fun e' w' => e' = .returned (.bool (mayB a b c d e)) ∧ Below w.heap.size w w' := by
  go_enter Tryz.func108, Tryz.ntmps108
  go_wp2_with (go_at_call 148; refine (within_any _ _ _ _).mono ?_; rintro e w' ⟨rfl, rfl⟩)
  case isTrue =>
    have g1 : withinB a 8 20 = true := by assumption
    have g2 : withinB b 4 8 = true := by assumption
    have g3 : withinB c 24 64 = true := by assumption
    have g4 : withinB d 0 4 = true := by assumption
    have g5 : withinB e 2 20 = true := by assumption
    refine (logical_any _ _ _ _ _ _ (within_bd g1).1 (within_bd g1).2 (within_bd g2).1 (within_bd g2).2 (within_bd g4).1 (within_bd g4).2).mono ?_
    rintro e' w' ⟨rfl, hb⟩
    go_wp2
    go_ret
    refine ⟨?_, ((Below.refl _ _).alloc (Nat.le_refl _) _).trans (hb.mono (by simp))⟩
    simp [mayB, *]
  all_goals
    go_ret
    exact ⟨by simp [mayB, *], (Below.refl _ _).alloc (Nat.le_refl _) _⟩
end Go.Proofs.YtkpcohfdcilfcaaGreat
namespace Go.Proofs.YtkpcohfdcilfcaaGreat
open Go.ChangeShapes Go.WideShapes Go.ChangeAt Go.RowKit
attribute [local go_sem ↓] Go.wp_at_zero Go.wp_at_succ
theorem ret_bool {a b : Bool} (h : a = b) : Ending.returned (.bool a) = Ending.returned (.bool b) := by rw [h]
theorem names_any (fs : List Flt) (A : Option Addr) (c : Nat) (b : Int) (w : World) (h : SlF w w.heap.size A fs) (n1 : fs.length ≤ 1000000) :
    Calls Tryz.prog 110 #[.slice A fs.length c, .int .i64 b] w fun e w' => e = .returned (.bool (namesB fs b)) ∧ Below w.heap.size w w' := by
  go_enter Tryz.func110, Tryz.ntmps110
  go_wp2
  go_loopw [9] (fun i wr => ∃ k : Nat, k ≤ fs.length ∧ i = .int .i64 k ∧ Hid ((fs.take k).any (fun f => f.blk == b) = false) ∧ Below w.heap.size w wr) (fun i _ => fs.length - (intOf i).toNat)
  case atStart => exact ⟨0, Nat.zero_le _, rfl, Lib.hid (by simp), Below.refl _ _⟩
  case round =>
    obtain ⟨k, hk, rfl, H0, hBr⟩ := hrel
    by_cases hlt : k < fs.length
    · obtain ⟨b1, o1, rfl, l1, q1⟩ := (h.below hBr).at_ (by omega)
      obtain ⟨x1, x2, x3⟩ := q1 k fs[k] (by simp [hlt])
      obtain ⟨f, hf⟩ : ∃ f, fs[k] = f := ⟨_, rfl⟩
      rw [hf] at x1 x2 x3
      have hsz := hBr.size
      have l1' : b1 < wr.heap.size := by omega
      have HF := Lib.hid hf
      clear q1 hf
      have i0 : (0 : Int) ≤ (k : Int) := by omega
      have i1 : (k : Int) < (fs.length : Int) := by omega
      have HT : (f.blk == b) = true ∨ (f.blk == b) = false := by cases (f.blk == b) <;> simp
      rcases HT with t1 | t1
      · go_wp2
        have hr := any_hit (p := fun f => f.blk == b) hlt (by rw [HF.out]; simp only [t1, Bool.false_or, Bool.or_self])
        go_ret
        exact ⟨ret_bool hr.symm, hBr.alloc hsz _⟩
      · go_wp2
        have hr := (any_take (p := fun f => f.blk == b) hlt).trans (by rw [H0.out, HF.out]; simp only [t1, Bool.false_or, Bool.or_self] : _ = false)
        have HR := Lib.hid hr
        clear hr
        go_roundw
        case rel => exact ⟨k + 1, by omega, by go_num, HR, hBr.alloc hsz _⟩
        case measure => simp [intOf]; omega
    · go_wp2
      have hr : namesB fs b = false := any_end (by omega) H0.out
      go_ret
      exact ⟨ret_bool hr.symm, hBr⟩
theorem Fails_any (fs : List Flt) (A : Option Addr) (c : Nat) (b d : Int) (w : World) (h : SlF w w.heap.size A fs) (n1 : fs.length ≤ 1000000) :
    Calls Tryz.prog 84 #[.slice A fs.length c, .int .i64 b, .int .i64 d] w fun e w' => e = .returned (.bool (failsB fs b d)) ∧ Below w.heap.size w w' := by
  go_enter Tryz.func84, Tryz.ntmps84
  go_wp2
  go_loopw [11] (fun i wr => ∃ k : Nat, k ≤ fs.length ∧ i = .int .i64 k ∧ Hid ((fs.take k).any (fun f => f.blk == b && decide (f.aft ≤ d)) = false) ∧ Below w.heap.size w wr) (fun i _ => fs.length - (intOf i).toNat)
  case atStart => exact ⟨0, Nat.zero_le _, rfl, Lib.hid (by simp), Below.refl _ _⟩
  case round =>
    obtain ⟨k, hk, rfl, H0, hBr⟩ := hrel
    by_cases hlt : k < fs.length
    · obtain ⟨b1, o1, rfl, l1, q1⟩ := (h.below hBr).at_ (by omega)
      obtain ⟨x1, x2, x3⟩ := q1 k fs[k] (by simp [hlt])
      obtain ⟨f, hf⟩ : ∃ f, fs[k] = f := ⟨_, rfl⟩
      rw [hf] at x1 x2 x3
      have hsz := hBr.size
      have l1' : b1 < wr.heap.size := by omega
      have HF := Lib.hid hf
      clear q1 hf
      have i0 : (0 : Int) ≤ (k : Int) := by omega
      have i1 : (k : Int) < (fs.length : Int) := by omega
      have HT : (f.blk == b) = true ∨ (f.blk == b) = false := by cases (f.blk == b) <;> simp
      rcases HT with t1 | t1
      · have HU : decide (f.aft ≤ d) = true ∨ decide (f.aft ≤ d) = false := by cases decide (f.aft ≤ d) <;> simp
        rcases HU with t2 | t2
        · skip
          go_wp2
          have hr := any_hit (p := fun f => f.blk == b && decide (f.aft ≤ d)) hlt (by rw [HF.out]; simp only [t1, t2, Bool.and_self, Bool.and_false, Bool.false_and, Bool.false_or, Bool.or_self, Bool.and_true, Bool.true_and])
          go_ret
          exact ⟨ret_bool hr.symm, hBr.alloc hsz _⟩
        · skip
          go_wp2
          have hr := (any_take (p := fun f => f.blk == b && decide (f.aft ≤ d)) hlt).trans (by rw [H0.out, HF.out]; simp only [t1, t2, Bool.and_self, Bool.and_false, Bool.false_and, Bool.false_or, Bool.or_self, Bool.and_true, Bool.true_and] : _ = false)
          have HR := Lib.hid hr
          clear hr
          go_roundw
          case rel => exact ⟨k + 1, by omega, by go_num, HR, hBr.alloc hsz _⟩
          case measure => simp [intOf]; omega
      · go_wp2
        have hr := (any_take (p := fun f => f.blk == b && decide (f.aft ≤ d)) hlt).trans (by rw [H0.out, HF.out]; simp only [t1, Bool.and_self, Bool.and_false, Bool.false_and, Bool.false_or, Bool.or_self, Bool.and_true, Bool.true_and] : _ = false)
        have HR := Lib.hid hr
        clear hr
        go_roundw
        case rel => exact ⟨k + 1, by omega, by go_num, HR, hBr.alloc hsz _⟩
        case measure => simp [intOf]; omega
    · go_wp2
      have hr : failsB fs b d = false := any_end (by omega) H0.out
      go_ret
      exact ⟨ret_bool hr.symm, hBr⟩
theorem Bad_any (fs : List Flt) (A : Option Addr) (c : Nat) (b : Int) (w : World) (h : SlF w w.heap.size A fs) (n1 : fs.length ≤ 1000000) :
    Calls Tryz.prog 83 #[.slice A fs.length c, .int .i64 b] w fun e w' => e = .returned (.bool (badB fs b)) ∧ Below w.heap.size w w' := by
  go_enter Tryz.func83, Tryz.ntmps83
  go_wp2
  go_loopw [9] (fun i wr => ∃ k : Nat, k ≤ fs.length ∧ i = .int .i64 k ∧ Hid ((fs.take k).any (fun f => f.blk == b && f.fac) = false) ∧ Below w.heap.size w wr) (fun i _ => fs.length - (intOf i).toNat)
  case atStart => exact ⟨0, Nat.zero_le _, rfl, Lib.hid (by simp), Below.refl _ _⟩
  case round =>
    obtain ⟨k, hk, rfl, H0, hBr⟩ := hrel
    by_cases hlt : k < fs.length
    · obtain ⟨b1, o1, rfl, l1, q1⟩ := (h.below hBr).at_ (by omega)
      obtain ⟨x1, x2, x3⟩ := q1 k fs[k] (by simp [hlt])
      obtain ⟨f, hf⟩ : ∃ f, fs[k] = f := ⟨_, rfl⟩
      rw [hf] at x1 x2 x3
      have hsz := hBr.size
      have l1' : b1 < wr.heap.size := by omega
      have HF := Lib.hid hf
      clear q1 hf
      have i0 : (0 : Int) ≤ (k : Int) := by omega
      have i1 : (k : Int) < (fs.length : Int) := by omega
      have HT : (f.blk == b) = true ∨ (f.blk == b) = false := by cases (f.blk == b) <;> simp
      rcases HT with t1 | t1
      · have HU : f.fac = true ∨ f.fac = false := by cases f.fac <;> simp
        rcases HU with t2 | t2
        · skip
          go_wp2
          have hr := any_hit (p := fun f => f.blk == b && f.fac) hlt (by rw [HF.out]; simp only [t1, t2, Bool.and_self, Bool.and_false, Bool.false_and, Bool.false_or, Bool.or_self, Bool.and_true, Bool.true_and])
          go_ret
          exact ⟨ret_bool hr.symm, hBr.alloc hsz _⟩
        · skip
          go_wp2
          have hr := (any_take (p := fun f => f.blk == b && f.fac) hlt).trans (by rw [H0.out, HF.out]; simp only [t1, t2, Bool.and_self, Bool.and_false, Bool.false_and, Bool.false_or, Bool.or_self, Bool.and_true, Bool.true_and] : _ = false)
          have HR := Lib.hid hr
          clear hr
          go_roundw
          case rel => exact ⟨k + 1, by omega, by go_num, HR, hBr.alloc hsz _⟩
          case measure => simp [intOf]; omega
      · go_wp2
        have hr := (any_take (p := fun f => f.blk == b && f.fac) hlt).trans (by rw [H0.out, HF.out]; simp only [t1, Bool.and_self, Bool.and_false, Bool.false_and, Bool.false_or, Bool.or_self, Bool.and_true, Bool.true_and] : _ = false)
        have HR := Lib.hid hr
        clear hr
        go_roundw
        case rel => exact ⟨k + 1, by omega, by go_num, HR, hBr.alloc hsz _⟩
        case measure => simp [intOf]; omega
    · go_wp2
      have hr : badB fs b = false := any_end (by omega) H0.out
      go_ret
      exact ⟨ret_bool hr.symm, hBr⟩
theorem mayFault_any (a b c d e : Int) (f : Flt) (w : World) :
    Calls Tryz.prog 109 #[.agg #[.int .i64 a, .int .i64 b, .int .i64 c, .int .i64 d, .int .i64 e], .agg #[.int .i64 f.blk, .bool f.fac, .int .i64 f.aft]] w fun e' w' => e' = .returned (.bool (mayF a f)) ∧ Below w.heap.size w w' := by
  have hb : Below w.heap.size w ((w.alloc (.cells #[.int .i64 a, .int .i64 b, .int .i64 c, .int .i64 d, .int .i64 e] 23)).alloc (.cells #[.int .i64 f.blk, .bool f.fac, .int .i64 f.aft] 100)) :=
    ((Below.refl _ _).alloc (Nat.le_refl _) _).alloc (by simp) _
  have HB := Lib.hid hb
  clear hb
  go_enter Tryz.func109, Tryz.ntmps109
  rcases (by cases hq : (decide (f.blk < 0) : Bool) <;> simp : (decide (f.blk < 0) : Bool) = true ∨ (decide (f.blk < 0) : Bool) = false) with t1 | t1
  · go_wp2
    go_ret
    exact ⟨ret_bool (by unfold mayF; rw [t1]; rfl), HB.out⟩
  · rcases (by cases hq : (decide (a ≤ f.blk) : Bool) <;> simp : (decide (a ≤ f.blk) : Bool) = true ∨ (decide (a ≤ f.blk) : Bool) = false) with t2 | t2
    · go_wp2
      go_ret
      exact ⟨ret_bool (by unfold mayF; rw [t1, t2]; rfl), HB.out⟩
    · rcases (by cases hq : (decide (f.aft < 0) : Bool) <;> simp : (decide (f.aft < 0) : Bool) = true ∨ (decide (f.aft < 0) : Bool) = false) with t3 | t3
      · go_wp2
        go_ret
        exact ⟨ret_bool (by unfold mayF; rw [t1, t2, t3]; rfl), HB.out⟩
      · rcases (by cases hq : (decide (1073741824 < f.aft) : Bool) <;> simp : (decide (1073741824 < f.aft) : Bool) = true ∨ (decide (1073741824 < f.aft) : Bool) = false) with t4 | t4
        · go_wp2
          go_ret
          exact ⟨ret_bool (by unfold mayF; rw [t1, t2, t3, t4]; rfl), HB.out⟩
        · rcases (by cases hq : (!f.fac : Bool) <;> simp : (!f.fac : Bool) = true ∨ (!f.fac : Bool) = false) with t5 | t5
          · go_wp2
            go_ret
            exact ⟨ret_bool (by unfold mayF; rw [t1, t2, t3, t4, t5]; rfl), HB.out⟩
          · go_wp2
            go_ret
            exact ⟨ret_bool (by unfold mayF; rw [t1, t2, t3, t4, t5]; rfl), HB.out⟩
end Go.Proofs.YtkpcohfdcilfcaaGreat
namespace Go.Proofs.YtkpcohfdcilfcaaGreat
open Go.ChangeShapes Go.WideShapes Go.ChangeAt Go.RowKit
end Go.Proofs.YtkpcohfdcilfcaaGreat
namespace Go.Proofs.YtkpcohfdcilfcaaGreat
open Go.ChangeShapes Go.WideShapes Go.ChangeAt Go.RowKit
attribute [local go_sem ↓] Go.wp_at_zero Go.wp_at_succ
def planMay (a b c d e : Int) (fs : List Flt) : Bool := mayB a b c d e && (decide (fs.length ≤ 8) && preB a fs fs.length)
theorem planMay_no {a b c d e : Int} {fs : List Flt} (h : mayB a b c d e = false) : planMay a b c d e fs = false := by unfold planMay; rw [h]; rfl
theorem planMay_long {a b c d e : Int} {fs : List Flt} (h : 8 < fs.length) : planMay a b c d e fs = false := by
  unfold planMay
  rw [decide_eq_false (by omega), Bool.false_and, Bool.and_false]
theorem planMay_pre {a b c d e : Int} {fs : List Flt} (h : mayB a b c d e = true) (hl : fs.length ≤ 8) : planMay a b c d e fs = preB a fs fs.length := by
  unfold planMay
  rw [h, decide_eq_true hl, Bool.true_and, Bool.true_and]
theorem preB_succ {a : Int} {fs : List Flt} {k : Nat} {f : Flt} (hk : k < fs.length) (hf : fs[k] = f) (h0 : preB a fs k = true) : preB a fs (k + 1) = (mayF a f && !namesB (fs.take k) f.blk) := by
  have e : fs.getD k default = f := by simp [hk, hf]
  unfold preB
  rw [h0, e, Bool.true_and]
theorem names_len (fs : List Flt) (k : Nat) (hk : k ≤ fs.length) (A : Option Addr) (c : Nat) (b : Int) (w : World) (h : SlF w w.heap.size A fs) (n1 : fs.length ≤ 1000000) :
    Calls Tryz.prog 110 #[.slice A k c, .int .i64 b] w fun e w' => e = .returned (.bool (namesB (fs.take k) b)) ∧ Below w.heap.size w w' := by
  have hx := names_any (fs.take k) A c b w (h.take_ k) (by simp; omega)
  rwa [show (fs.take k).length = k by simp; omega] at hx
theorem kept4 {w W wr w' w'' : World} {B : Nat} (h : Below w.heap.size w w' ∧ Below B wr w' ∧ W.heap.size ≤ w'.heap.size ∧ ∀ b o, b < W.heap.size → w'.cell? ⟨b, o, none⟩ = W.cell? ⟨b, o, none⟩) (hB : B ≤ wr.heap.size) (hb : Below w'.heap.size w' w'') :
    Below w.heap.size w w'' ∧ Below B wr w'' ∧ W.heap.size ≤ w''.heap.size ∧ ∀ b o, b < W.heap.size → w''.cell? ⟨b, o, none⟩ = W.cell? ⟨b, o, none⟩ :=
  ⟨btr h.1 h.1.size hb, btr h.2.1 (Nat.le_trans hB h.2.1.size) hb, Nat.le_trans h.2.2.1 hb.size, fun b o hk => (hb.cell (p := ⟨b, o, none⟩) (Nat.lt_of_lt_of_le hk h.2.2.1)).trans (h.2.2.2 b o hk)⟩
theorem pMay_any (a b c d e : Int) (fs : List Flt) (A : Option Addr) (c0 : Nat) (w : World) (h : SlF w w.heap.size A fs) (hc0 : fs.length ≤ c0) (hc1 : c0 ≤ maxLen) :
    Calls Tryz.prog 66 #[.agg #[.int .i64 a, .int .i64 b, .int .i64 c, .int .i64 d, .int .i64 e], .slice A fs.length c0] w fun e' w' => e' = .returned (.bool (planMay a b c d e fs)) ∧ Below w.heap.size w w' := by
  unfold maxLen at hc1
  cases hm : mayB a b c d e
  · have hr : planMay a b c d e fs = false := planMay_no hm
    rw [hr]
    have Hm := Lib.hid hm
    clear hm hr
    go_enter Tryz.func66, Tryz.ntmps66
    go_wp2_with (go_at_call 108; refine (may_any _ _ _ _ _ _).mono ?_; rw [Hm.out]; rintro e' w1 ⟨rfl, hb1⟩)
    go_ret
    exact ⟨rfl, below1 hb1⟩
  by_cases hl : 8 < fs.length
  · have hr : planMay a b c d e fs = false := planMay_long hl
    rw [hr]
    have Hm := Lib.hid hm
    clear hm hr
    have g1 : (8 : Int) < (fs.length : Int) := by omega
    go_enter Tryz.func66, Tryz.ntmps66
    go_wp2_with (go_at_call 108; refine (may_any _ _ _ _ _ _).mono ?_; rw [Hm.out]; rintro e' w1 ⟨rfl, hb1⟩)
    go_ret
    exact ⟨rfl, below1 hb1⟩
  have hr : planMay a b c d e fs = preB a fs fs.length := planMay_pre hm (by omega)
  rw [hr]
  have Hm := Lib.hid hm
  clear hm hr
  have g1 : ¬ (8 : Int) < (fs.length : Int) := by omega
  have n1 : fs.length ≤ 1000000 := by omega
  have h0 := h.next ((Below.refl _ _).alloc (Nat.le_refl _) (.cells #[.int .i64 a, .int .i64 b, .int .i64 c, .int .i64 d, .int .i64 e] 23))
  have hG0 : Blk (w.alloc (.cells #[.int .i64 a, .int .i64 b, .int .i64 c, .int .i64 d, .int .i64 e] 23)) w.heap.size 23 #[.int .i64 a, .int .i64 b, .int .i64 c, .int .i64 d, .int .i64 e] := Blk.new_ w _ _
  go_enter Tryz.func66, Tryz.ntmps66
  go_wp2_with (go_at_call 108; refine (may_any _ _ _ _ _ _).mono ?_; rw [Hm.out]; rintro e' w1 ⟨rfl, hb1⟩; have H1 := h0.next hb1; have HG := hG0.below hb1 (by simp); have HB := below1 hb1; have hz1 : w.heap.size < w1.heap.size := (by { have := hb1.size; simp at this; omega }); clear hb1 h0 hG0)
  go_loopw [17] (fun i wr => ∃ k : Nat, k ≤ fs.length ∧ i = .int .i64 k ∧ Hid (preB a fs k = true) ∧ Below w1.heap.size w1 wr) (fun i _ => fs.length - (intOf i).toNat)
  case atStart => exact ⟨0, Nat.zero_le _, rfl, Lib.hid rfl, Below.refl _ _⟩
  case round =>
    obtain ⟨k, hk, rfl, H0, hBr⟩ := hrel
    have HBr := btr HB HB.size hBr
    by_cases hlt : k < fs.length
    · obtain ⟨b1, o1, rfl, l1, q1⟩ := (H1.below hBr).at_ (by omega)
      obtain ⟨x1, x2, x3⟩ := q1 k fs[k] (by simp [hlt])
      obtain ⟨f, hf⟩ : ∃ f, fs[k] = f := ⟨_, rfl⟩
      rw [hf] at x1 x2 x3
      have hsz := hBr.size
      have hg := HG.below hBr hz1
      have y0 := hg.cell_ 0
      have y1 := hg.cell_ 1
      have y2 := hg.cell_ 2
      have y3 := hg.cell_ 3
      have y4 := hg.cell_ 4
      simp at y0 y1 y2 y3 y4
      have l1' : b1 < wr.heap.size := by omega
      have l2' : w.heap.size < wr.heap.size := by omega
      have H1r := H1.next hBr
      have hs := preB_succ (a := a) hlt hf H0.out
      have HF := Lib.hid hf
      have HS := Lib.hid hs
      clear q1 hf hs hg
      have i0 : (0 : Int) ≤ (k : Int) := by omega
      have i1 : (k : Int) ≤ (c0 : Int) := by omega
      have i2 : (k : Int) < (fs.length : Int) := by omega
      have hBw : Below w.heap.size w (wr.alloc (.cells #[.int .i64 f.blk, .bool f.fac, .int .i64 f.aft] 100)) := HBr.alloc (by omega) _
      have hH2 := H1r.next ((Below.refl _ _).alloc (Nat.le_refl _) (.cells #[.int .i64 f.blk, .bool f.fac, .int .i64 f.aft] 100))
      rcases (by cases hq : mayF a f <;> simp : mayF a f = true ∨ mayF a f = false) with t1 | t1
      · have HM := Lib.hid t1
        rcases (by cases hq : namesB (fs.take k) f.blk <;> simp : namesB (fs.take k) f.blk = true ∨ namesB (fs.take k) f.blk = false) with t2 | t2
        · have hn : preB a fs (k + 1) = false := by rw [HS.out, t1, t2]; rfl
          have HN := Lib.hid t2
          have hr := preB_stop a fs hn fs.length (by omega)
          have HR := Lib.hid hr
          clear t1 t2 hn hr
          go_wp2_with fail
          refine wp_region_noPanic ?_
          refine wp_region_held_drew (S := (fun w' => Below w.heap.size w w' ∧ Below w1.heap.size wr w' ∧ (wr.alloc (.cells #[.int .i64 f.blk, .bool f.fac, .int .i64 f.aft] 100)).heap.size ≤ w'.heap.size ∧ ∀ (k o : Nat), k < (wr.alloc (.cells #[.int .i64 f.blk, .bool f.fac, .int .i64 f.aft] 100)).heap.size → w'.cell? ⟨k, o, none⟩ = (wr.alloc (.cells #[.int .i64 f.blk, .bool f.fac, .int .i64 f.aft] 100)).cell? ⟨k, o, none⟩)) (by kernel_rfl) ?_ (fun hHeld => ?_)
          · (first | exact ⟨hBw.drew, ((Below.refl _ _).alloc (by omega) _).drew, by simp, by simp⟩ | exact kept4 (by assumption) hsz hb3)
          refine tk 0 ?_; try simp only [Act.put, pz1, pz2, pz3]
          refine tk 1 ?_; try simp only [Act.put, pz1, pz2, pz3]
          refine wpAnyH_ready (rs := [2]) (by kernel_rfl) (by simp) ?_
          refine AllReadyH.cons (o := ⟨some 24, .call { callee := .value (.func 109), args := #[.tmp 22, .tmp 23], argTypes := #[23, 100] }, 4, "plan.go:17", #[⟨0, .data⟩, ⟨1, .data⟩], none⟩) rfl (fun K hK => ?_) AllReadyH.nil
          go_simp
          (first
              | (go_at_call 109; refine (mayFault_any a b c d e f _).mono ?_; rw [HM.out]; rintro e' w3 ⟨rfl, hb3⟩)
              | (go_at_call 110; refine (names_len fs k (by omega) _ _ _ _ (hH2.held hHeld.2.2.1 hHeld.2.2.2) n1).mono ?_; rw [HN.out]; rintro e' w3 ⟨rfl, hb3⟩))
          go_wp2_with fail
          refine hK.out _ _ ?_ (fun hNew => ?_)
          · (first | exact ⟨hBw.drew, ((Below.refl _ _).alloc (by omega) _).drew, by simp, by simp⟩ | exact kept4 (by assumption) hsz hb3)
          clear hK K hHeld
          have hHeld := hNew
          clear hNew
          try simp only [Act.put, pz1, pz2, pz3]
          refine tk 3 ?_; try simp only [Act.put, pz1, pz2, pz3]
          refine tk 4 ?_; try simp only [Act.put, pz1, pz2, pz3]
          refine tk 5 ?_; try simp only [Act.put, pz1, pz2, pz3]
          refine tk 6 ?_; try simp only [Act.put, pz1, pz2, pz3]
          refine tk 7 ?_; try simp only [Act.put, pz1, pz2, pz3]
          refine tk 8 ?_; try simp only [Act.put, pz1, pz2, pz3]
          refine tk 9 ?_; try simp only [Act.put, pz1, pz2, pz3]
          refine wpAnyH_ready (rs := [10]) (by kernel_rfl) (by simp) ?_
          refine AllReadyH.cons (o := ⟨some 32, .call { callee := .value (.func 110), args := #[.tmp 29, .tmp 31], argTypes := #[44, 3] }, 4, "plan.go:17", #[⟨7, .data⟩, ⟨9, .data⟩, ⟨4, .chain⟩, ⟨4, .guard⟩], some (4, false)⟩) rfl (fun K hK => ?_) AllReadyH.nil
          go_simp
          (first
              | (go_at_call 109; refine (mayFault_any a b c d e f _).mono ?_; rw [HM.out]; rintro e' w3 ⟨rfl, hb3⟩)
              | (go_at_call 110; refine (names_len fs k (by omega) _ _ _ _ (hH2.held hHeld.2.2.1 hHeld.2.2.2) n1).mono ?_; rw [HN.out]; rintro e' w3 ⟨rfl, hb3⟩))
          go_wp2_with fail
          refine hK.out _ _ ?_ (fun hNew => ?_)
          · (first | exact ⟨hBw.drew, ((Below.refl _ _).alloc (by omega) _).drew, by simp, by simp⟩ | exact kept4 (by assumption) hsz hb3)
          clear hK K hHeld
          have hHeld := hNew
          clear hNew
          try simp only [Act.put, pz1, pz2, pz3]
          refine tk 11 ?_; try simp only [Act.put, pz1, pz2, pz3]
          refine wpAnyH_done (by kernel_rfl) ?_ _
          refine NoPanic.normal ?_
          go_wp2
          go_ret
          exact ⟨ret_bool HR.out.symm, hHeld.1⟩
        · have hn : preB a fs (k + 1) = true := by rw [HS.out, t1, t2]; rfl
          have HN := Lib.hid t2
          have HP := Lib.hid hn
          clear t1 t2 hn
          go_wp2_with fail
          refine wp_region_noPanic ?_
          refine wp_region_held_drew (S := (fun w' => Below w.heap.size w w' ∧ Below w1.heap.size wr w' ∧ (wr.alloc (.cells #[.int .i64 f.blk, .bool f.fac, .int .i64 f.aft] 100)).heap.size ≤ w'.heap.size ∧ ∀ (k o : Nat), k < (wr.alloc (.cells #[.int .i64 f.blk, .bool f.fac, .int .i64 f.aft] 100)).heap.size → w'.cell? ⟨k, o, none⟩ = (wr.alloc (.cells #[.int .i64 f.blk, .bool f.fac, .int .i64 f.aft] 100)).cell? ⟨k, o, none⟩)) (by kernel_rfl) ?_ (fun hHeld => ?_)
          · (first | exact ⟨hBw.drew, ((Below.refl _ _).alloc (by omega) _).drew, by simp, by simp⟩ | exact kept4 (by assumption) hsz hb3)
          refine tk 0 ?_; try simp only [Act.put, pz1, pz2, pz3]
          refine tk 1 ?_; try simp only [Act.put, pz1, pz2, pz3]
          refine wpAnyH_ready (rs := [2]) (by kernel_rfl) (by simp) ?_
          refine AllReadyH.cons (o := ⟨some 24, .call { callee := .value (.func 109), args := #[.tmp 22, .tmp 23], argTypes := #[23, 100] }, 4, "plan.go:17", #[⟨0, .data⟩, ⟨1, .data⟩], none⟩) rfl (fun K hK => ?_) AllReadyH.nil
          go_simp
          (first
              | (go_at_call 109; refine (mayFault_any a b c d e f _).mono ?_; rw [HM.out]; rintro e' w3 ⟨rfl, hb3⟩)
              | (go_at_call 110; refine (names_len fs k (by omega) _ _ _ _ (hH2.held hHeld.2.2.1 hHeld.2.2.2) n1).mono ?_; rw [HN.out]; rintro e' w3 ⟨rfl, hb3⟩))
          go_wp2_with fail
          refine hK.out _ _ ?_ (fun hNew => ?_)
          · (first | exact ⟨hBw.drew, ((Below.refl _ _).alloc (by omega) _).drew, by simp, by simp⟩ | exact kept4 (by assumption) hsz hb3)
          clear hK K hHeld
          have hHeld := hNew
          clear hNew
          try simp only [Act.put, pz1, pz2, pz3]
          refine tk 3 ?_; try simp only [Act.put, pz1, pz2, pz3]
          refine tk 4 ?_; try simp only [Act.put, pz1, pz2, pz3]
          refine tk 5 ?_; try simp only [Act.put, pz1, pz2, pz3]
          refine tk 6 ?_; try simp only [Act.put, pz1, pz2, pz3]
          refine tk 7 ?_; try simp only [Act.put, pz1, pz2, pz3]
          refine tk 8 ?_; try simp only [Act.put, pz1, pz2, pz3]
          refine tk 9 ?_; try simp only [Act.put, pz1, pz2, pz3]
          refine wpAnyH_ready (rs := [10]) (by kernel_rfl) (by simp) ?_
          refine AllReadyH.cons (o := ⟨some 32, .call { callee := .value (.func 110), args := #[.tmp 29, .tmp 31], argTypes := #[44, 3] }, 4, "plan.go:17", #[⟨7, .data⟩, ⟨9, .data⟩, ⟨4, .chain⟩, ⟨4, .guard⟩], some (4, false)⟩) rfl (fun K hK => ?_) AllReadyH.nil
          go_simp
          (first
              | (go_at_call 109; refine (mayFault_any a b c d e f _).mono ?_; rw [HM.out]; rintro e' w3 ⟨rfl, hb3⟩)
              | (go_at_call 110; refine (names_len fs k (by omega) _ _ _ _ (hH2.held hHeld.2.2.1 hHeld.2.2.2) n1).mono ?_; rw [HN.out]; rintro e' w3 ⟨rfl, hb3⟩))
          go_wp2_with fail
          refine hK.out _ _ ?_ (fun hNew => ?_)
          · (first | exact ⟨hBw.drew, ((Below.refl _ _).alloc (by omega) _).drew, by simp, by simp⟩ | exact kept4 (by assumption) hsz hb3)
          clear hK K hHeld
          have hHeld := hNew
          clear hNew
          try simp only [Act.put, pz1, pz2, pz3]
          refine tk 11 ?_; try simp only [Act.put, pz1, pz2, pz3]
          refine wpAnyH_done (by kernel_rfl) ?_ _
          refine NoPanic.normal ?_
          go_wp2
          go_roundw
          case rel => exact ⟨k + 1, by omega, by go_num, HP, hBr.trans hHeld.2.1⟩
          case measure => simp [intOf]; omega
      · have HM := Lib.hid t1
        have hn : preB a fs (k + 1) = false := by rw [HS.out, t1]; rfl
        have hr := preB_stop a fs hn fs.length (by omega)
        have HR := Lib.hid hr
        clear t1 hn hr
        go_wp2_with fail
        refine wp_region_noPanic ?_
        refine wp_region_held_drew (S := (fun w' => Below w.heap.size w w' ∧ Below w1.heap.size wr w' ∧ (wr.alloc (.cells #[.int .i64 f.blk, .bool f.fac, .int .i64 f.aft] 100)).heap.size ≤ w'.heap.size ∧ ∀ (k o : Nat), k < (wr.alloc (.cells #[.int .i64 f.blk, .bool f.fac, .int .i64 f.aft] 100)).heap.size → w'.cell? ⟨k, o, none⟩ = (wr.alloc (.cells #[.int .i64 f.blk, .bool f.fac, .int .i64 f.aft] 100)).cell? ⟨k, o, none⟩)) (by kernel_rfl) ?_ (fun hHeld => ?_)
        · (first | exact ⟨hBw.drew, ((Below.refl _ _).alloc (by omega) _).drew, by simp, by simp⟩ | exact kept4 (by assumption) hsz hb3)
        refine tk 0 ?_; try simp only [Act.put, pz1, pz2, pz3]
        refine tk 1 ?_; try simp only [Act.put, pz1, pz2, pz3]
        refine wpAnyH_ready (rs := [2]) (by kernel_rfl) (by simp) ?_
        refine AllReadyH.cons (o := ⟨some 24, .call { callee := .value (.func 109), args := #[.tmp 22, .tmp 23], argTypes := #[23, 100] }, 4, "plan.go:17", #[⟨0, .data⟩, ⟨1, .data⟩], none⟩) rfl (fun K hK => ?_) AllReadyH.nil
        go_simp
        (first
            | (go_at_call 109; refine (mayFault_any a b c d e f _).mono ?_; rw [HM.out]; rintro e' w3 ⟨rfl, hb3⟩)
            | (go_at_call 110; refine (names_len fs k (by omega) _ _ _ _ (hH2.held hHeld.2.2.1 hHeld.2.2.2) n1).mono ?_; rw [HN.out]; rintro e' w3 ⟨rfl, hb3⟩))
        go_wp2_with fail
        refine hK.out _ _ ?_ (fun hNew => ?_)
        · (first | exact ⟨hBw.drew, ((Below.refl _ _).alloc (by omega) _).drew, by simp, by simp⟩ | exact kept4 (by assumption) hsz hb3)
        clear hK K hHeld
        have hHeld := hNew
        clear hNew
        try simp only [Act.put, pz1, pz2, pz3]
        refine tk 3 ?_; try simp only [Act.put, pz1, pz2, pz3]
        refine tk 4 ?_; try simp only [Act.put, pz1, pz2, pz3]
        refine tu 5 ?_
        try simp only [Act.put, pz1, pz2, pz3]
        refine tu 6 ?_
        try simp only [Act.put, pz1, pz2, pz3]
        refine tu 7 ?_
        try simp only [Act.put, pz1, pz2, pz3]
        refine tu 8 ?_
        try simp only [Act.put, pz1, pz2, pz3]
        refine tu 9 ?_
        try simp only [Act.put, pz1, pz2, pz3]
        refine tu 10 ?_
        try simp only [Act.put, pz1, pz2, pz3]
        refine tk 11 ?_; try simp only [Act.put, pz1, pz2, pz3]
        refine wpAnyH_done (by kernel_rfl) ?_ _
        refine NoPanic.normal ?_
        go_wp2
        go_ret
        exact ⟨ret_bool HR.out.symm, hHeld.1⟩
    · go_wp2
      have hr : preB a fs fs.length = true := by
        have hkk : k = fs.length := by omega
        rw [← hkk]
        exact H0.out
      go_ret
      exact ⟨ret_bool hr.symm, HBr⟩
end Go.Proofs.YtkpcohfdcilfcaaGreat
namespace Go.Proofs.YtkpcohfdcilfcaaGreat
theorem planMay_bd {a b c d e : Int} {fs : List Flt} (h : planMay a b c d e fs = true) : mayB a b c d e = true ∧ fs.length ≤ 8 ∧ preB a fs fs.length = true := by
  unfold planMay at h
  simp only [Bool.and_eq_true, decide_eq_true_eq] at h
  exact ⟨h.1, h.2.1, h.2.2⟩
end Go.Proofs.YtkpcohfdcilfcaaGreat
namespace Go.Proofs.YtkpcohfdcilfcaaGreat
def crcStep (r x : Nat) : Nat := if (r ^^^ x) &&& 1 = 1 then (r / 2) ^^^ 3988292384 else r / 2
def crcPut : Nat → Nat → Nat → Nat
  | 0, r, _ => r
  | k + 1, r, x => crcPut k (crcStep r x) (x / 2)
def crcReg (r : Nat) (bs : List Nat) : Nat := bs.foldl (fun r b => crcPut 8 r b) r
def crcMore (s : Nat) (bs : List Nat) : Nat := 4294967295 ^^^ crcReg (4294967295 ^^^ s) bs
theorem crcStep_lt {r x : Nat} (hr : r < 4294967296) : crcStep r x < 4294967296 := by
  unfold crcStep
  split
  · exact Nat.xor_lt_two_pow (n := 32) (by omega) (by omega)
  · omega
theorem crcPut_lt : ∀ {k r x : Nat}, r < 4294967296 → crcPut k r x < 4294967296
  | 0, _, _, h => h
  | k + 1, _, _, h => crcPut_lt (k := k) (crcStep_lt h)
theorem crcReg_lt : ∀ {bs : List Nat} {r : Nat}, r < 4294967296 → crcReg r bs < 4294967296
  | [], _, h => h
  | _ :: bs, _, h => crcReg_lt (bs := bs) (crcPut_lt h)
theorem not_lt {r : Nat} (hr : r < 4294967296) : 4294967295 ^^^ r < 4294967296 := Nat.xor_lt_two_pow (n := 32) (by omega) (by omega)
theorem crcMore_lt {bs : List Nat} {s : Nat} (h : s < 4294967296) : crcMore s bs < 4294967296 := not_lt (crcReg_lt (not_lt h))
theorem crcReg_append (r : Nat) (bs cs : List Nat) : crcReg r (bs ++ cs) = crcReg (crcReg r bs) cs := List.foldl_append
def xorL : List Nat → List Nat → List Nat
  | x :: xs, y :: ys => (x ^^^ y) :: xorL xs ys
  | _, _ => []
end Go.Proofs.YtkpcohfdcilfcaaGreat
namespace Go.Proofs.YtkpcohfdcilfcaaGreat
open Go.ChangeShapes Go.WideShapes Go.ChangeAt Go.RowKit
def byteV (n : Nat) : Value := .int .u8 (n : Int)
theorem crcBit {r x : Nat} (hr : r < 4294967296) (hx : x < 4294967296) : (bits .and .u32 (bits .xor .u32 (r : Int) (x : Int)) 1 == 1) = decide ((r ^^^ x) &&& 1 = 1) := by
  have e := u32_xor_nat r x hr hx
  have e2 := u32_and_nat (r ^^^ x) 1 (Nat.xor_lt_two_pow (n := 32) (by omega) (by omega)) (by omega)
  have e3 : ((1 : Nat) : Int) = 1 := rfl
  rw [e3] at e2
  rw [e, e2]
  by_cases h : (r ^^^ x) &&& 1 = 1
  · simp [h]
  · simp only [h, decide_false]
    simp only [beq_eq_false_iff_ne, ne_eq]
    omega
theorem crcTurn {r : Nat} (hr : r < 4294967296) : bits .xor .u32 ((r : Int) / 2) 3988292384 = (((r / 2) ^^^ 3988292384 : Nat) : Int) := by
  have := u32_xor_nat (r / 2) 3988292384 (by omega) (by omega)
  simpa using this
theorem crcNot {r : Nat} (hr : r < 4294967296) : bits .xor .u32 IntKind.u32.max (r : Int) = ((4294967295 ^^^ r : Nat) : Int) := by
  have e : IntKind.u32.max = 4294967295 := rfl
  rw [e]
  have := u32_xor_nat 4294967295 r (by omega) hr
  simpa using this
theorem crcStep_off {r x : Nat} (h : ¬(r ^^^ x) &&& 1 = 1) : crcStep r x = r / 2 := if_neg h
theorem crcStep_on {r x : Nat} (h : (r ^^^ x) &&& 1 = 1) : crcStep r x = (r / 2) ^^^ 3988292384 := if_pos h
theorem crcPut_go {k r x s : Nat} (hk : k < 8) (h : crcPut (8 - k) r x = s) : crcPut (8 - (k + 1)) (crcStep r x) (x / 2) = s := by
  have e : 8 - k = (8 - (k + 1)) + 1 := by omega
  rw [e] at h
  exact h
theorem put_any (r x : Nat) (w : World) (hr : r < 4294967296) (hx : x < 256) :
    Calls Tryz.prog 199 #[.int .u32 (r : Int), .int .u8 (x : Int)] w fun e w' => e = .returned (.int .u32 (crcPut 8 r x : Nat)) ∧ w' = w := by
  go_enter Tryz.func199, Tryz.ntmps199
  go_wp2
  go_loopw [0, 1, 6] (fun rv xv i wr => ∃ k r1 x1 : Nat, k ≤ 8 ∧ i = .int .i64 k ∧ rv = .int .u32 (r1 : Int) ∧ xv = .int .u8 (x1 : Int) ∧ r1 < 4294967296 ∧ x1 < 256 ∧ crcPut (8 - k) r1 x1 = crcPut 8 r x ∧ wr = w) (fun _ _ i _ => 8 - (intOf i).toNat)
  case atStart => exact ⟨0, r, x, by omega, rfl, rfl, rfl, hr, hx, rfl, rfl⟩
  case round =>
    obtain ⟨k, r1, x1, hk, rfl, rfl, rfl, hr1, hx1, he, rfl⟩ := hrel
    have hs := crcStep_lt (x := x1) hr1
    by_cases hlt : k < 8
    · have hb := crcBit hr1 (x := x1) (by omega)
      by_cases ht : (r1 ^^^ x1) &&& 1 = 1
      · rw [decide_eq_true ht] at hb
        have Hgo := Lib.hid (crcPut_go hlt he)
        have Hon := Lib.hid (crcStep_on ht)
        clear he ht
        go_wp2
        refine ⟨⟨k + 1, crcStep r1 x1, x1 / 2, by omega, by go_num, ?_, by simp, hs, by omega, Hgo.out, trivial⟩, by simp [intOf]; omega⟩
        rw [crcTurn hr1, Hon.out]
      · rw [decide_eq_false ht] at hb
        have Hgo := Lib.hid (crcPut_go hlt he)
        have Hon := Lib.hid (crcStep_off ht)
        clear he ht
        go_wp2
        refine ⟨⟨k + 1, crcStep r1 x1, x1 / 2, by omega, by go_num, ?_, by simp, hs, by omega, Hgo.out, trivial⟩, by simp [intOf]; omega⟩
        rw [Hon.out]
        simp
    · have : k = 8 := by omega
      subst this
      have he' : r1 = crcPut 8 r x := he
      subst he'
      go_wp2
      go_ret
      exact ⟨rfl, rfl⟩
end Go.Proofs.YtkpcohfdcilfcaaGreat
namespace Go.Proofs.YtkpcohfdcilfcaaGreat
open Go.ChangeShapes Go.WideShapes Go.ChangeAt Go.RowKit
theorem infoByte : (Tryz.prog.info? 5).map (fun i => (i.zero, i.size, i.bytes)) = some (some (.int .u8 0), 1, 1) := by kernel_rfl
def LentB (w : World) (g : Nat) (xs : List Value) : Prop := ∃ cur : Array Value, Blk w g 5 cur ∧ (∀ (j : Nat) (u : Value), xs[j]? = some u → cur[j]? = some u) ∧ ∀ i : Nat, i < 3 → cur[xs.length + i]? = some (.int .u8 119)
theorem LentB.below {w w' : World} {g B : Nat} {xs : List Value} (h : LentB w g xs) (hb : Below B w w') (hg : g < B) : LentB w' g xs := by
  obtain ⟨cur, h1, h2⟩ := h
  exact ⟨cur, h1.below hb hg, h2⟩
theorem LentB.lt {w : World} {g : Nat} {xs : List Value} (h : LentB w g xs) : g < w.heap.size := by
  obtain ⟨cur, h1, _⟩ := h
  exact h1.lt
theorem LentB.sl {w : World} {g : Nat} {xs : List Value} (h : LentB w g xs) : Sl w w.heap.size (some ⟨g, 0, none⟩) xs := by
  have hl := h.lt
  obtain ⟨cur, h1, h2, _⟩ := h
  exact Or.inr ⟨g, 0, rfl, hl, fun k v hk => by rw [Nat.zero_add, h1.cell_]; exact h2 k v hk⟩
theorem Sl.cells_ {w : World} {B : Nat} {A : Option Addr} {vs : List Value} (h : Sl w B A vs) : ∀ ad, A = some ad → ∀ j u, vs[j]? = some u → w.cell? (ad.add j) = some u := by
  intro ad had j u hu
  obtain ⟨b1, o1, rfl, _, q⟩ := h.at_ (by
    have := (List.getElem?_eq_some_iff.1 hu).1
    omega)
  obtain rfl := Option.some.inj had
  rw [add_plain]
  exact q j u hu
theorem oneB (bs : List Nat) : ∀ u ∈ bs.map byteV, u.oneCell' = true := by
  intro u hu
  obtain ⟨z, _, rfl⟩ := List.mem_map.1 hu
  rfl
end Go.Proofs.YtkpcohfdcilfcaaGreat
namespace Go.Proofs.YtkpcohfdcilfcaaGreat
open Go.ChangeShapes Go.WideShapes Go.ChangeAt Go.RowKit
theorem sameB_any (xs ys : List Nat) (A B : Option Addr) (c d : Nat) (w : World) (h1 : Sl w w.heap.size A (xs.map byteV)) (h2 : Sl w w.heap.size B (ys.map byteV)) (n1 : xs.length ≤ 1000000) (n2 : ys.length ≤ 1000000) :
    Calls Tryz.prog 37 #[.slice A xs.length c, .slice B ys.length d] w fun e w' => e = .returned (.bool (decide (xs = ys))) ∧ Below w.heap.size w w' := by
  go_enter Tryz.func37, Tryz.ntmps37
  by_cases hl : xs.length = ys.length
  · go_wp2
    go_loopw [5] (fun i wr => ∃ k : Nat, k ≤ xs.length ∧ i = .int .i64 k ∧ Hid (xs.take k = ys.take k) ∧ Below w.heap.size w wr) (fun i _ => xs.length - (intOf i).toNat)
    case atStart => exact ⟨0, Nat.zero_le _, rfl, Lib.hid rfl, Below.refl _ _⟩
    case round =>
      obtain ⟨k, hk, rfl, hd, hB⟩ := hrel
      by_cases hlt : k < xs.length
      · obtain ⟨b1, o1, rfl, l1, q1⟩ := h1.at_ (by simpa using (by omega : 0 < xs.length))
        obtain ⟨b2, o2, rfl, l2, q2⟩ := h2.at_ (by simpa using (by omega : 0 < ys.length))
        obtain ⟨x, hx⟩ : ∃ x, xs[k]? = some x := ⟨_, List.getElem?_eq_getElem hlt⟩
        obtain ⟨y, hy⟩ : ∃ y, ys[k]? = some y := ⟨_, List.getElem?_eq_getElem (by omega)⟩
        have cx : wr.cell? ⟨b1, o1 + k, none⟩ = some (.int .u8 (x : Int)) := (hB.cell (p := ⟨b1, o1 + k, none⟩) l1).trans (q1 k _ (by rw [List.getElem?_map, hx]; rfl))
        have cy : wr.cell? ⟨b2, o2 + k, none⟩ = some (.int .u8 (y : Int)) := (hB.cell (p := ⟨b2, o2 + k, none⟩) l2).trans (q2 k _ (by rw [List.getElem?_map, hy]; rfl))
        have Hx := Lib.hid hx
        have Hy := Lib.hid hy
        clear hx hy q1 q2
        have i1 : (0 : Int) ≤ (k : Int) := by omega
        have i2 : (k : Int) < (xs.length : Int) := by omega
        have i3 : (k : Int) < (ys.length : Int) := by omega
        by_cases hxy : x = y
        · subst hxy
          go_wp2
          go_quiet (fail)
          go_wp2
          refine ⟨⟨k + 1, by omega, by go_num, ?_, below_dn hB _⟩, by simp [intOf]; omega⟩
          show xs.take (k + 1) = ys.take (k + 1)
          rw [List.take_add_one, List.take_add_one, hd.out, Hx.out, Hy.out]
        · have hb : ((x : Int) != (y : Int)) = true := by
            simp only [bne_iff_ne, ne_eq]
            omega
          have hne : xs ≠ ys := by
            intro h
            subst h
            exact hxy (Option.some.inj (Hx.out.symm.trans Hy.out))
          have Hne := Lib.hid hne
          clear hne hxy
          go_wp2
          go_quiet (fail)
          go_wp2
          go_ret
          exact ⟨by rw [decide_eq_false Hne.out]; rfl, below_dn hB _⟩
      · have : k = xs.length := by omega
        subst this
        have he : xs = ys := by
          have := hd.out
          rw [List.take_length, hl, List.take_length] at this
          exact this
        clear hd
        go_wp2
        go_ret
        exact ⟨by rw [decide_eq_true he]; rfl, hB⟩
  · have hne : xs ≠ ys := fun h => hl (by rw [h])
    go_wp2
    go_ret
    exact ⟨by rw [decide_eq_false hne]; rfl, Below.refl _ _⟩
theorem keptB_any (xs ys : List Nat) (g : Nat) (B : Option Addr) (d : Nat) (w : World) (h1 : LentB w g (xs.map byteV)) (h2 : Sl w w.heap.size B (ys.map byteV)) (n1 : xs.length ≤ 1000000) (n2 : ys.length ≤ 1000000) :
    Calls Tryz.prog 35 #[.slice (some ⟨g, 0, none⟩) xs.length (xs.length + 3), .slice B ys.length d] w fun e w' => e = .returned (.bool (decide (xs = ys))) ∧ Below w.heap.size w w' := by
  have s1 := h1.sl
  have hg := h1.lt
  obtain ⟨cur, hblk, _, hroom⟩ := h1
  have hl : (xs.map byteV).length = xs.length := by simp
  rw [hl] at hroom
  have Hroom := Lib.hid hroom
  clear hroom hl
  have e3 : xs.length + 3 - xs.length = 3 := by omega
  go_enter Tryz.func35, Tryz.ntmps35
  go_wp2
  go_loopw [6] (fun i wr => ∃ k : Nat, k ≤ 3 ∧ i = .int .i64 k ∧ wr = w) (fun i _ => 3 - (intOf i).toNat)
  case atStart => exact ⟨0, Nat.zero_le _, rfl, rfl⟩
  case round =>
    obtain ⟨k, hk, rfl, rfl⟩ := hrel
    by_cases hlt : k < 3
    · have ck : wr.cell? ⟨g, xs.length + k, none⟩ = some (.int .u8 119) := by rw [hblk.cell_]; exact Hroom.out k hlt
      have i1 : (0 : Int) ≤ (k : Int) := by omega
      have i2 : (k : Int) < 3 := by omega
      go_wp2
      refine ⟨⟨k + 1, by omega, by go_num, trivial⟩, by simp [intOf]; omega⟩
    · have : k = 3 := by omega
      subst this
      go_wp2_with (go_at_call 37; refine (sameB_any xs ys _ B _ d wr s1 h2 n1 n2).mono ?_; rintro e w' ⟨rfl, hb⟩)
      go_ret
      exact ⟨rfl, hb⟩
end Go.Proofs.YtkpcohfdcilfcaaGreat
namespace Go.Proofs.YtkpcohfdcilfcaaGreat
open Go.ChangeShapes Go.WideShapes Go.ChangeAt Go.RowKit
structure ChS where
  X : List Nat
  K : List Int
  ops : Int
  cuts : Int
  on : Bool
  armed : Bool
  turn : Int
  cop : Int
  cby : Int
  fill : Nat
def FltAt (w : World) (A : Option Addr) (fs : List Flt) (m gx gb : Nat) : Prop :=
  fs = [] ∨ ∃ g off, A = some ⟨g, off, none⟩ ∧ g < w.heap.size ∧ g ≠ m ∧ g ≠ gx ∧ g ≠ gb ∧ ∀ k f, fs[k]? = some f →
    w.cell? ⟨g, off + k * 3, none⟩ = some (.int .i64 f.blk) ∧ w.cell? ⟨g, off + k * 3 + 1, none⟩ = some (.bool f.fac) ∧ w.cell? ⟨g, off + k * 3 + 2, none⟩ = some (.int .i64 f.aft)
theorem FltAt.sl {w : World} {A : Option Addr} {fs : List Flt} {m gx gb : Nat} (h : FltAt w A fs m gx gb) : SlF w w.heap.size A fs := by
  rcases h with h | ⟨g, off, e, hlt, _, _, _, hc⟩
  · exact Or.inl h
  · exact Or.inr ⟨g, off, e, hlt, hc⟩
theorem FltAt.keep {w w' : World} {A : Option Addr} {fs : List Flt} {m gx gb : Nat} (h : FltAt w A fs m gx gb) (hz : w.heap.size ≤ w'.heap.size) (hk : ∀ g, g < w.heap.size → g ≠ m → g ≠ gx → g ≠ gb → w'.heap[g]? = w.heap[g]?) : FltAt w' A fs m gx gb := by
  rcases h with h | ⟨g, off, e, hlt, h1, h2, h3, hc⟩
  · exact Or.inl h
  · have hq : ∀ o, w'.cell? ⟨g, o, none⟩ = w.cell? ⟨g, o, none⟩ := fun o => World.cell?_of_block (w := w) (hk g hlt h1 h2 h3)
    exact Or.inr ⟨g, off, e, by omega, h1, h2, h3, fun k f hf => by rw [hq, hq, hq]; exact hc k f hf⟩
structure ChipW (w : World) (m gx gb : Nat) (Af : Option Addr) (nf cf : Nat) (a b c d e : Int) (fs : List Flt) (s : ChS) : Prop where
  blk : ∃ (cx cb NX NB : Nat), s.X.length = NX ∧ (NB : Int) = a ∧ NX ≤ cx ∧ Blk w m 81 #[.int .i64 a, .int .i64 b, .int .i64 c, .int .i64 d, .int .i64 e, .slice Af nf cf, .slice (some ⟨gx, 0, none⟩) NX cx, .slice (some ⟨gb, 0, none⟩) NB cb, .int .i64 (s).ops, .int .i64 (s).cuts, .bool (s).on, .bool (s).armed, .int .i64 (s).turn, .int .i64 (s).cop, .int .i64 (s).cby, .int .u8 ((s).fill : Nat)]
  rX : RowT w gx 5 (s.X.map byteV)
  rK : RowT w gb 112 (s.K.map (Value.int .i64))
  flt : FltAt w Af fs m gx gb
  nx : m ≠ gx
  nb : m ≠ gb
  nxb : gx ≠ gb
  lenX : s.X.length = (a * b * (c + 16)).toNat
  lenK : s.K.length = 3 * a.toNat
  nf : fs.length = nf
  may : planMay a b c d e fs = true
def inB (a B : Int) : Bool := decide (0 ≤ B) && decide (B < a)
def ChS.k (s : ChS) (B : Int) (j : Nat) : Int := s.K.getD (3 * B.toNat + j) 0
def failedB (a : Int) (fs : List Flt) (s : ChS) (B : Int) : Bool := inB a B && failsB fs B (s.k B 2)
def ChS.cutB (s : ChS) : Bool := s.armed && decide (s.ops + 1 = s.turn)
def ChS.tick (s : ChS) : ChS := if s.cutB then { s with ops := s.ops + 1, armed := false, on := false, cuts := s.cuts + 1 } else { s with ops := s.ops + 1 }
structure ChS.Bnd (s : ChS) (n : Int) : Prop where
  o0 : 0 ≤ s.ops
  o1 : s.ops ≤ n
  c0 : 0 ≤ s.cuts
  c1 : s.cuts ≤ n
  k0 : ∀ i, 0 ≤ s.K.getD i 0
  k1 : ∀ i, s.K.getD i 0 ≤ n
def chB (m gx gb : Nat) (g : Nat) : Prop := g = m ∨ g = gx ∨ g = gb
theorem ChipW.keep {w w' : World} {m gx gb : Nat} {Af : Option Addr} {nf cf : Nat} {a b c d e : Int} {fs : List Flt} {s : ChS} (h : ChipW w m gx gb Af nf cf a b c d e fs s) (hz : w.heap.size ≤ w'.heap.size) (hm : w'.heap[m]? = w.heap[m]?) (hx : w'.heap[gx]? = w.heap[gx]?) (hb : w'.heap[gb]? = w.heap[gb]?) (hk : ∀ g, g < w.heap.size → g ≠ m → g ≠ gx → g ≠ gb → w'.heap[g]? = w.heap[g]?) : ChipW w' m gx gb Af nf cf a b c d e fs s := by
  obtain ⟨⟨cx, cb, NX, NB, hX, hN, hcx, hB⟩, r1, r2, r3, n1, n2, n3, l1, l2, l3, l4⟩ := h
  exact ⟨⟨cx, cb, NX, NB, hX, hN, hcx, hm.trans hB⟩, r1.keep hx, r2.keep hb, r3.keep hz hk, n1, n2, n3, l1, l2, l3, l4⟩
theorem ChipW.lt {w : World} {m gx gb : Nat} {Af : Option Addr} {nf cf : Nat} {a b c d e : Int} {fs : List Flt} {s : ChS} (h : ChipW w m gx gb Af nf cf a b c d e fs s) : m < w.heap.size ∧ gx < w.heap.size ∧ gb < w.heap.size := by
  obtain ⟨⟨cx, cb, NX, NB, hX, hN, hcx, hB⟩, r1, r2, _⟩ := h
  exact ⟨hB.lt, r1.lt, r2.lt⟩
theorem ChipW.below {w w' : World} {m gx gb : Nat} {Af : Option Addr} {nf cf : Nat} {a b c d e : Int} {fs : List Flt} {s : ChS} (h : ChipW w m gx gb Af nf cf a b c d e fs s) (hb : Below w.heap.size w w') : ChipW w' m gx gb Af nf cf a b c d e fs s :=
  h.keep hb.size (hb.block _ h.lt.1) (hb.block _ h.lt.2.1) (hb.block _ h.lt.2.2) (fun g hg _ _ _ => hb.block g hg)
theorem ChipW.like {w w' : World} {m gx gb : Nat} {Af : Option Addr} {nf cf : Nat} {a b c d e : Int} {fs : List Flt} {s : ChS} (h : ChipW w m gx gb Af nf cf a b c d e fs s) (e1 : w'.heap = w.heap := by rfl) : ChipW w' m gx gb Af nf cf a b c d e fs s :=
  h.keep (by rw [e1]; exact Nat.le_refl _) (by rw [e1]) (by rw [e1]) (by rw [e1]) (fun g _ _ _ _ => by rw [e1])
theorem ChipW.likeB {w w1 w' : World} {m gx gb : Nat} {Af : Option Addr} {nf cf : Nat} {a b c d e : Int} {fs : List Flt} {s : ChS} (h : ChipW w m gx gb Af nf cf a b c d e fs s) (hb : Below w1.heap.size w1 w') (he : w1.heap = w.heap := by rfl) : ChipW w' m gx gb Af nf cf a b c d e fs s := (h.like he).below hb
theorem ChipW.far {w w' : World} {m gx gb : Nat} {Af : Option Addr} {nf cf : Nat} {a b c d e : Int} {fs : List Flt} {s : ChS} (h : ChipW w m gx gb Af nf cf a b c d e fs s) {S : Nat → Prop} (hT : Tch S w w') (hs : ∀ g, g < w.heap.size → ¬ S g) : ChipW w' m gx gb Af nf cf a b c d e fs s :=
  h.keep hT.size (hT.far _ h.lt.1 (hs _ h.lt.1)) (hT.far _ h.lt.2.1 (hs _ h.lt.2.1)) (hT.far _ h.lt.2.2 (hs _ h.lt.2.2)) (fun g hg _ _ _ => hT.far g hg (hs g hg))
theorem ChipW.get {w : World} {m gx gb : Nat} {Af : Option Addr} {nf cf : Nat} {a b c d e : Int} {fs : List Flt} {s : ChS} (h : ChipW w m gx gb Af nf cf a b c d e fs s) : ∃ (cx cb NX NB : Nat), Hid (s.X.length = NX ∧ NX ≤ cx) ∧ Hid ((NB : Int) = a) ∧
    w.cell? ⟨m, 0, none⟩ = some (.int .i64 a) ∧ w.cell? ⟨m, 1, none⟩ = some (.int .i64 b) ∧ w.cell? ⟨m, 2, none⟩ = some (.int .i64 c) ∧ w.cell? ⟨m, 3, none⟩ = some (.int .i64 d) ∧ w.cell? ⟨m, 4, none⟩ = some (.int .i64 e) ∧ w.cell? ⟨m, 5, none⟩ = some (.slice Af nf cf) ∧ w.cell? ⟨m, 6, none⟩ = some (.slice (some ⟨gx, 0, none⟩) NX cx) ∧ w.cell? ⟨m, 7, none⟩ = some (.slice (some ⟨gb, 0, none⟩) NB cb) ∧ w.cell? ⟨m, 8, none⟩ = some (.int .i64 s.ops) ∧ w.cell? ⟨m, 9, none⟩ = some (.int .i64 s.cuts) ∧ w.cell? ⟨m, 10, none⟩ = some (.bool s.on) ∧ w.cell? ⟨m, 11, none⟩ = some (.bool s.armed) ∧ w.cell? ⟨m, 12, none⟩ = some (.int .i64 s.turn) ∧ w.cell? ⟨m, 13, none⟩ = some (.int .i64 s.cop) ∧ w.cell? ⟨m, 14, none⟩ = some (.int .i64 s.cby) ∧ w.cell? ⟨m, 15, none⟩ = some (.int .u8 (s.fill : Nat)) ∧
    (∀ i, i < NX → w.cell? ⟨gx, i, none⟩ = some (byteV (s.X.getD i 0))) ∧ (∀ i, i < 3 * NB → w.cell? ⟨gb, i, none⟩ = some (.int .i64 (s.K.getD i 0))) ∧
    (∀ i, w.frozen? ⟨m, i, none⟩ = false) ∧ (∀ i, w.frozen? ⟨gx, i, none⟩ = false) ∧ (∀ i, w.frozen? ⟨gb, i, none⟩ = false) := by
  obtain ⟨⟨cx, cb, NX, NB, hX, hN, hcx, hB⟩, r1, r2, r3, n1, n2, n3, l1, l2, l3, l4⟩ := h
  subst hX
  refine ⟨cx, cb, _, NB, Lib.hid ⟨rfl, hcx⟩, Lib.hid hN, hB.cell_ 0, hB.cell_ 1, hB.cell_ 2, hB.cell_ 3, hB.cell_ 4, hB.cell_ 5, hB.cell_ 6, hB.cell_ 7, hB.cell_ 8, hB.cell_ 9, hB.cell_ 10, hB.cell_ 11, hB.cell_ 12, hB.cell_ 13, hB.cell_ 14, hB.cell_ 15, fun i hi => r1.cell_ ?_, fun i hi => r2.cell_ ?_, hB.free, r1.free, r2.free⟩
  · rw [List.getElem?_map, List.getElem?_eq_getElem hi, List.getD_eq_getElem?_getD, List.getElem?_eq_getElem hi]
    rfl
  · rw [List.getElem?_map, List.getElem?_eq_getElem (by omega), List.getD_eq_getElem?_getD, List.getElem?_eq_getElem (by omega)]
    rfl
end Go.Proofs.YtkpcohfdcilfcaaGreat
namespace Go.Proofs
open Go.Shelf
def Tryz.laysMul_ren : Go.Shelf.Ren := ⟨fun | 212 => 111 | 263 => 149 | 264 => 150 | n => n, fun | 46 => 89 | 51 => 164 | 146 => 165 | 53 => 167 | 148 => 168 | n => n, fun | n => n⟩
theorem Tryz.laysMul : Go.Proofs.Lays.n212 Tryz.prog Tryz.laysMul_ren := {
  mixed := by kernel_rfl
  f212 := Tryz.func111.trans (congrArg some (by kernel_rfl))
  f263 := Tryz.func149.trans (congrArg some (by kernel_rfl))
  f264 := Tryz.func150.trans (congrArg some (by kernel_rfl))
  t46 := Tryz.underlying89
  a46 := Tryz.isAgg89
  z46 := Tryz.sizeOf89
  v46 := Tryz.zeroValue89
  t51 := Tryz.underlying164
  a51 := Tryz.isAgg164
  z51 := Tryz.sizeOf164
  v51 := Tryz.zeroValue164
  t53 := Tryz.underlying167
  a53 := Tryz.isAgg167
  z53 := Tryz.sizeOf167
  v53 := Tryz.zeroValue167
  t146 := Tryz.underlying165
  a146 := Tryz.isAgg165
  z146 := Tryz.sizeOf165
  v146 := Tryz.zeroValue165
  t148 := Tryz.underlying168
  a148 := Tryz.isAgg168
  z148 := Tryz.sizeOf168
  v148 := Tryz.zeroValue168 }
end Go.Proofs
namespace Go.Proofs.YtkpcohfdcilfcaaGreat
open Go.ChangeShapes Go.WideShapes Go.ChangeAt Go.RowKit
def Rd (w : World) (A : Option Addr) (m size : Nat) (news : List Value) : Prop :=
  news.length = m * size ∧ (m = 0 ∨ ∃ b off, A = some ⟨b, off, none⟩ ∧ ∀ j u, news[j]? = some u → w.cell? ⟨b, off + j, none⟩ = some u)
theorem Rd.of_sl {w : World} {B : Nat} {A : Option Addr} {vs : List Value} (h : Sl w B A vs) {m : Nat} (hm : vs.length = m) : Rd w A m 1 vs := by
  refine ⟨by omega, ?_⟩
  rcases h with h | ⟨b, off, e, _, hc⟩
  · left
    rw [← hm, h]
    rfl
  · exact Or.inr ⟨b, off, e, hc⟩
theorem Rd.keep {w w' : World} {A : Option Addr} {m size : Nat} {news : List Value} (h : Rd w A m size news) (hk : ∀ b o, A = some ⟨b, o, none⟩ → ∀ j, w'.cell? ⟨b, j, none⟩ = w.cell? ⟨b, j, none⟩) : Rd w' A m size news := by
  obtain ⟨h1, h2⟩ := h
  refine ⟨h1, ?_⟩
  rcases h2 with h2 | ⟨b, off, e, hc⟩
  · exact Or.inl h2
  · exact Or.inr ⟨b, off, e, fun j u hu => (hk b off e _).trans (hc j u hu)⟩
theorem Rd.one {w : World} {b : Nat} {u : Value} (h : w.cell? ⟨b, 0, none⟩ = some u) : Rd w (some ⟨b, 0, none⟩) 1 1 [u] := by
  refine ⟨rfl, Or.inr ⟨b, 0, rfl, fun j v hj => ?_⟩⟩
  obtain ⟨hlt, rfl⟩ := List.getElem?_eq_some_iff.1 hj
  have hj0 : j = 0 := by simp at hlt; omega
  subst hj0
  simpa using h
section
variable {P : Program} (w : World)
theorem run_app (base : Nat) (t ty e : TypeId) (i : TypeInfo) (z : Value) (size bytes : Nat) (ht : P.underlying t = some (.slice e)) (hi : P.info? e = some i) (hz : i.zero = some z)
    (hsize : i.size = size) (hby : i.bytes = bytes) (hzs : z.cells.size = size) (hsz : 0 < size)
    (v : Value) (n : Nat) (xs : List Value) (hown : w.ownsRow base e size v n xs)
    (A : Option Addr) (m c : Nat) (news : List Value) (hr : Rd w A m size news) (h1 : ∀ u ∈ news, u.oneCell' = true)
    (h63 : n + m ≤ maxLen) (hbytes : (n + m) * bytes ≤ 140737488355328) (hbase : base ≤ w.heap.size) :
    ∃ v' w', (Builtin.append_ #[t, t] ty #[v, .slice A m c]).run P w = .ok v' w' ∧ w'.ownsRow base e size v' (n + m) (xs ++ news) ∧ w.grownBy w' v.ownBlock ∧
      (v'.ownBlock = v.ownBlock ∨ v'.ownBlock = some w.heap.size) := by
  obtain ⟨hl, hr⟩ := hr
  cases A with
  | none =>
    obtain rfl : m = 0 := by
      rcases hr with h | ⟨_, _, h, _⟩
      · exact h
      · cases h
    obtain rfl : news = [] := List.eq_nil_of_length_eq_zero (by omega)
    refine ⟨v, w, ?_, by simpa using hown, World.grownBy.refl w _, .inl rfl⟩
    rcases hown.2 with ⟨rfl, rfl⟩ | ⟨g, cap, cur, rfl, _, _, hnc, _⟩
    · simp [Builtin.append_, run_underlying ht, sizeOf, typeInfo, hi, Builtin.lenOf, Builtin.firstCells]
    · simp [Builtin.append_, run_underlying ht, sizeOf, typeInfo, hi, Builtin.lenOf, Builtin.firstCells, hnc, storeCells]
  | some ad =>
    have hcells : ∀ j u, news[j]? = some u → w.cell? (ad.add j) = some u := by
      intro j u hu
      rcases hr with h | ⟨b, off, h, hc⟩
      · subst h
        obtain rfl : news = [] := List.eq_nil_of_length_eq_zero (by omega)
        cases hu
      · cases h
        have := hc j u hu
        unfold Addr.add
        split
        · rename_i h0
          rw [h0] at this
          simpa using this
        · exact this
    obtain ⟨v', w', hrun, h2, h3, _, h5⟩ := run_append_own_at (P := P) w base t ty e i z size bytes ht hi hz hsize hby hzs hsz v n xs hown ad m c news hl hcells h1 h63 hbytes hbase
    exact ⟨v', w', hrun, h2, h3, h5⟩
theorem wp_app {o : Oper} {a : Act} {K : Act → World → Prop} {Q : Exit → Act → World → Prop} (s x : Operand) (t : TypeId)
    (ho : o.op = .call { callee := .builtin .append, args := #[s, x], argTypes := #[t, t] })
    (base : Nat) (e : TypeId) (i : TypeInfo) (z : Value) (size bytes : Nat) (ht : P.underlying t = some (.slice e)) (hi : P.info? e = some i) (hz : i.zero = some z)
    (hsize : i.size = size) (hby : i.bytes = bytes) (hzs : z.cells.size = size) (hsz : 0 < size)
    (v : Value) (n : Nat) (xs : List Value) (hs : a.eval s = v) (hown : w.ownsRow base e size v n xs)
    (A : Option Addr) (m c : Nat) (news : List Value) (hx : a.eval x = .slice A m c) (hr : Rd w A m size news) (h1 : ∀ u ∈ news, u.oneCell' = true)
    (h63 : n + m ≤ maxLen) (hbytes : (n + m) * bytes ≤ 140737488355328) (hbase : base ≤ w.heap.size)
    (h : ∀ v' w', w'.ownsRow base e size v' (n + m) (xs ++ news) → w.grownBy w' v.ownBlock → (v'.ownBlock = v.ownBlock ∨ v'.ownBlock = some w.heap.size) → K (a.put o.dst v') w') : o.wp P a w K Q := by
  obtain ⟨v', w', hrun, h2, h3, h4⟩ := run_app (P := P) w base t o.type e i z size bytes ht hi hz hsize hby hzs hsz v n xs hown A m c news hr h1 h63 hbytes hbase
  unfold Oper.wp execOp
  simp only [ho, resolve, invoke, builtin, Sem.run_bind, Sem.run_pure, Result.andThen_ok, List.map_toArray, List.map_cons, List.map_nil, hs, hx, hrun]
  exact h v' w' h2 h3 h4
theorem wpList_app {ops : Array Oper} {rest : List Oper} {o : Oper} {a : Act} {Q : Exit → Act → World → Prop} (hgd : o.guard = none) (s x : Operand) (t : TypeId)
    (ho : o.op = .call { callee := .builtin .append, args := #[s, x], argTypes := #[t, t] })
    (base : Nat) (e : TypeId) (i : TypeInfo) (z : Value) (size bytes : Nat) (ht : P.underlying t = some (.slice e)) (hi : P.info? e = some i) (hz : i.zero = some z)
    (hsize : i.size = size) (hby : i.bytes = bytes) (hzs : z.cells.size = size) (hsz : 0 < size)
    (v : Value) (n : Nat) (xs : List Value) (hs : a.eval s = v) (hown : w.ownsRow base e size v n xs)
    (A : Option Addr) (m c : Nat) (news : List Value) (hx : a.eval x = .slice A m c) (hr : Rd w A m size news) (h1 : ∀ u ∈ news, u.oneCell' = true)
    (h63 : n + m ≤ maxLen) (hbytes : (n + m) * bytes ≤ 140737488355328) (hbase : base ≤ w.heap.size)
    (h : ∀ v' w', w'.ownsRow base e size v' (n + m) (xs ++ news) → w.grownBy w' v.ownBlock → (v'.ownBlock = v.ownBlock ∨ v'.ownBlock = some w.heap.size) → wpList P ops Q rest (a.put o.dst v') w') : wpList P ops Q (o :: rest) a w :=
  wpList_plain hgd fun _ hK => wp_app w s x t ho base e i z size bytes ht hi hz hsize hby hzs hsz v n xs hs hown A m c news hx hr h1 h63 hbytes hbase fun v' w' h2 h3 h4 => hK _ _ (h v' w' h2 h3 h4)
end
theorem below_app {B base : Nat} {w w' : World} {e : TypeId} {size n : Nat} {v : Value} {xs : List Value} (hB : B ≤ base) (hb : base ≤ w.heap.size) (hown : w.ownsRow base e size v n xs) (hg : w.grownBy w' v.ownBlock) : Below B w w' := by
  refine (Below.refl _ _).grown hg (by omega) ?_
  intro g hgv
  rcases hown.2 with ⟨rfl, _⟩ | ⟨g', cap, cur, rfl, hbg, _⟩
  · simp [Value.ownBlock] at hgv
  · simp [Value.ownBlock] at hgv
    omega
end Go.Proofs.YtkpcohfdcilfcaaGreat
namespace Go.Proofs.YtkpcohfdcilfcaaGreat
open Go.ChangeShapes Go.WideShapes Go.ChangeAt Go.RowKit
theorem infoByteSz : (Tryz.prog.info? 5).map (fun i => i.size) = some 1 := by kernel_rfl
theorem mulC (n : Nat) (w : World) (hn : n < 18446744073709551616) : Calls Tryz.prog 111 #[.int .u64 1, .int .u64 (n : Int)] w fun e' w' => e' = .returned (.tuple #[.int .u64 0, .int .u64 (n : Int)]) ∧ w = w' := by
  refine (Any.bits_Mul Tryz.laysMul 1 n (by omega) hn w).mono ?_
  rintro e' w' ⟨rfl, h⟩
  refine ⟨?_, h.symm⟩
  rw [Nat.one_mul, Nat.div_eq_of_lt hn, Nat.mod_eq_of_lt hn]
  rfl
theorem wrapS (x : Int) (h0 : -1000000000000 ≤ x) (h1 : x ≤ 1000000000000) : IntKind.i64.wrap x = x := by
  rw [IntKind.wrap_i64]
  omega
section
variable {P : Program}
theorem wp_copy {w : World} {o : Oper} {a : Act} {K : Act → World → Prop} {Q : Exit → Act → World → Prop} (d s : Operand) (t : TypeId)
    (ho : o.op = .call { callee := .builtin .copy, args := #[d, s], argTypes := #[t, t] }) (v u r : Value) (w' : World) (hd : a.eval d = v) (hs : a.eval s = u)
    (hrun : (Builtin.copy_ #[t, t] o.type #[v, u]).run P w = .ok r w') (h : K (a.put o.dst r) w') : o.wp P a w K Q := by
  unfold Oper.wp execOp
  simp only [ho, resolve, invoke, builtin, Sem.run_bind, Sem.run_pure, Result.andThen_ok, List.map_toArray, List.map_cons, List.map_nil, hd, hs, hrun]
  exact h
end
def Pre (A : Array Value) (k : Nat) (v : Value) : Prop := k ≤ A.size ∧ ∀ j, j < k → A[j]? = some v
def spl (A : Array Value) (k : Nat) (vs : List Value) : Array Value := (A.toList.take k ++ vs ++ A.toList.drop (k + vs.length)).toArray
theorem spl_size {A : Array Value} {k : Nat} {vs : List Value} (h : k + vs.length ≤ A.size) : (spl A k vs).size = A.size := by
  simp [spl]
  omega
theorem Pre.spl {A : Array Value} {k q : Nat} {v : Value} (h : Pre A k v) (hq : k + q ≤ A.size) : Pre (spl A k (List.replicate q v)) (k + q) v := by
  obtain ⟨h1, h2⟩ := h
  refine ⟨by rw [spl_size (by simpa using hq)]; exact hq, fun j hj => ?_⟩
  simp only [Proofs.YtkpcohfdcilfcaaGreat.spl, List.getElem?_toArray]
  rw [List.append_assoc]
  by_cases hjk : j < k
  · rw [List.getElem?_append_left (by simp; omega), List.getElem?_take_of_lt hjk]
    have := h2 j hjk
    simpa using this
  · rw [List.getElem?_append_right (by simp; omega), List.getElem?_append_left (by simp; omega), List.getElem?_replicate, if_pos (by simp; omega)]
theorem Pre.row {A : Array Value} {n : Nat} {v : Value} (h : Pre A n v) : A = (List.replicate n v ++ A.toList.drop n).toArray := by
  obtain ⟨h1, h2⟩ := h
  apply Array.ext'
  simp only
  conv => lhs; rw [← List.take_append_drop n A.toList]
  congr 1
  apply List.ext_getElem?
  intro j
  rw [List.getElem?_replicate]
  by_cases hj : j < n
  · rw [List.getElem?_take_of_lt hj, if_pos hj]
    have := h2 j hj
    simpa using this
  · rw [if_neg hj, List.getElem?_eq_none (by simp; omega)]
theorem copy_pre {w : World} {g n k q : Nat} {v : Int} {A : Array Value} {m : Nat} (hB : Blk w g 5 A) (hp : Pre A k (.int .u8 v)) (hn : n ≤ A.size) (hk : k < n) (hmk : m ≤ k) (hq : min m (n - k) = q) (cm : Nat) :
    (Builtin.copy_ #[37, 37] 3 #[.slice (some ⟨g, k, none⟩) (n - k) (n - k), .slice (some ⟨g, 0, none⟩) m cm]).run Tryz.prog w = .ok (.int .i64 (q : Int)) (w.setRow g (spl A k (List.replicate q (.int .u8 v)))) := by
  have hrun := run_copy_row (P := Tryz.prog) w 37 37 3 5 g k (n - k) (n - k) ⟨g, 0, none⟩ m cm A 5 (List.replicate q (.int .u8 v)) Tryz.underlying37 infoByteSz hB (by rw [List.length_replicate]; exact hq.symm) ?_ (by rw [List.length_replicate]; omega) (fun u hu => by rw [(List.mem_replicate.1 hu).2]; rfl)
  · rw [hrun, List.length_replicate]
    simp [Proofs.YtkpcohfdcilfcaaGreat.spl]
    rfl
  · intro j u hj
    obtain ⟨hlt, rfl⟩ := List.getElem?_eq_some_iff.1 hj
    have hjq : j < q := by simpa using hlt
    have e : (⟨g, 0, none⟩ : Addr).add j = ⟨g, j, none⟩ := by
      unfold Addr.add
      split <;> simp_all
    rw [e, hB.cell_, hp.2 j (by omega)]
    simp
theorem copy_preA {w : World} {g n k q : Nat} {v : Int} {A A2 : Array Value} {m : Nat} (hB : Blk w g 5 A) (hp : Pre A k (.int .u8 v)) (hn : n ≤ A.size) (hk : k < n) (hmk : m ≤ k) (hq : min m (n - k) = q) (cm : Nat) (hA : spl A k (List.replicate q (.int .u8 v)) = A2) :
    (Builtin.copy_ #[37, 37] 3 #[.slice (some ⟨g, k, none⟩) (n - k) (n - k), .slice (some ⟨g, 0, none⟩) m cm]).run Tryz.prog w = .ok (.int .i64 (q : Int)) (w.setRow g A2) := by
  rw [← hA]
  exact copy_pre hB hp hn hk hmk hq cm
theorem rptB_any (v : Int) (b : Nat) (n : Nat) (w : World) (hc : w.cell? ⟨b, 0, none⟩ = some (.int .u8 v)) (hb : b < w.heap.size) (n1 : 1 ≤ n) (n2 : n ≤ 100000) :
    Calls Tryz.prog 69 #[.slice (some ⟨b, 0, none⟩) 1 1, .int .i64 (n : Int)] w fun e' w' => ∃ g, e' = .returned (.slice (some ⟨g, 0, none⟩) n n) ∧ w.heap.size ≤ g ∧ RowT w' g 5 (List.replicate n (.int .u8 v)) ∧ Below w.heap.size w w' := by
  have i0 : (0 : Int) ≤ (n : Int) := by omega
  have i1 : (1 : Int) ≤ (n : Int) := by omega
  have i2 : (n : Int) ≤ 100000 := by omega
  obtain ⟨cs, hrunM, hle, _⟩ := Lib.run_makeNoZero (P := Tryz.prog) w #[3] 37 5 Tryz.underlying37 n (by omega)
  have hcall : (callFunc 112 #[.int .i64 (n : Int)]).run Tryz.prog w = .ok (.value (.slice (some ⟨w.heap.size, 0, none⟩) n cs.size)) ((w.alloc (.cells cs 5)).drewN 2) := by
    rw [run_callFunc_extern Tryz.func112 (by kernel_rfl) (by kernel_rfl) (by kernel_rfl) (e := Extern.BytealgMakeNoZero.makeNoZero #[3] #[37]) (by kernel_rfl), hrunM]
    rfl
  clear hrunM
  obtain ⟨W1, hW1⟩ : ∃ V : World, V = (w.alloc (.cells cs 5)).drewN 2 := ⟨_, rfl⟩
  have hB1 : Below w.heap.size w W1 := by rw [hW1]; exact below_dn ((Below.refl _ _).alloc (Nat.le_refl _) _) 2
  have hK1 : Blk W1 w.heap.size 5 cs := by rw [hW1]; exact Blk.drewN_ (Blk.new_ w _ _) 2
  have hc1 : W1.cell? ⟨b, 0, none⟩ = some (.int .u8 v) := (hB1.cell (p := ⟨b, 0, none⟩) hb).trans hc
  have hrun := run_copy_row (P := Tryz.prog) W1 37 37 3 5 w.heap.size 0 n n ⟨b, 0, none⟩ 1 1 cs 5 [.int .u8 v] Tryz.underlying37 infoByteSz hK1 (by show 1 = min 1 n; omega) (by intro j u hj; cases j with | zero => (simp at hj; subst hj; simpa [Addr.add] using hc1) | succ j => simp at hj) (by simp; omega) (by simp [Value.oneCell'])
  obtain ⟨A1, hA1⟩ : ∃ A1, spl cs 0 [Value.int .u8 v] = A1 := ⟨_, rfl⟩
  have hrun1 : (Builtin.copy_ #[37, 37] 3 #[.slice (some ⟨w.heap.size, 0, none⟩) n n, .slice (some ⟨b, 0, none⟩) 1 1]).run Tryz.prog W1 = .ok (.int .i64 1) (W1.setRow w.heap.size A1) := by
    rw [← hA1]
    exact hrun
  have hP1 : Pre A1 1 (.int .u8 v) := by
    rw [← hA1]
    have := Pre.spl (A := cs) (k := 0) (q := 1) (v := .int .u8 v) ⟨Nat.zero_le _, fun j hj => absurd hj (Nat.not_lt_zero _)⟩ (by omega)
    simpa using this
  have hS1 : n ≤ A1.size := by
    rw [← hA1, spl_size (by simp; omega)]
    exact hle
  have hB2 := below_setRow hB1 (Nat.le_refl _) A1
  have hK2 : Blk (W1.setRow w.heap.size A1) w.heap.size 5 A1 := setRow_heap W1 w.heap.size _ _ 5 _ hK1
  generalize W1.setRow w.heap.size A1 = wy at hrun1 hB2 hK2
  rw [hW1] at hrun1
  clear hrun hB1 hK1 hc1 hc hW1 hA1
  have HK2 := Lib.hid hK2
  have HP1 := Lib.hid hP1
  have HS1 := Lib.hid hS1
  clear hK2 hP1 hS1
  rcases (by omega : 8192 < n ∨ ¬ 8192 < n) with hbig | hbig
  · have hbz : (8192 : Int) < (n : Int) := by omega
    go_enter Tryz.func69, Tryz.ntmps69
    go_wp2_with (go_at_call 111; ((with_reducible refine (mulC n _ (by omega)).mono ?_); rintro e' wN ⟨rfl, rfl⟩; skip))
    go_loopw [10] (fun s10 wr => ∃ (k : Nat) (A : Array Value), s10 = .int .i64 (k : Int) ∧ 1 ≤ k ∧ k ≤ n ∧ Below w.heap.size w wr ∧ Blk wr w.heap.size 5 A ∧ Pre A k (.int .u8 v) ∧ n ≤ A.size) (fun s10 _ => n - (intOf s10).toNat)
    case atStart => exact ⟨1, A1, rfl, Nat.le_refl _, n1, hB2, HK2.out, HP1.out, HS1.out⟩
    case round =>
      obtain ⟨k, A, rfl, k1, k2, hBr, hKr, hPr, hSr⟩ := hrel
      clear hrun1 hB2 HK2 HP1 HS1 hb hcall
      by_cases hk : k < n
      · obtain ⟨m, hm⟩ : ∃ m, min k 8192 = m := ⟨_, rfl⟩
        obtain ⟨q, hq⟩ : ∃ q, min m (n - k) = q := ⟨_, rfl⟩
        have j0 : (0 : Int) ≤ (k : Int) := by omega
        have j1 : (k : Int) < (n : Int) := by omega
        have j2 : (k : Int) ≤ (n : Int) := by omega
        have j3 : ¬ n = k := by omega
        have j4 : ¬ (n : Int) = (k : Int) := by omega
        have j5 : (n : Int) - (k : Int) = ((n - k : Nat) : Int) := by omega
        have m0 : (0 : Int) ≤ (m : Int) := by omega
        have m1 : (m : Int) ≤ (n : Int) := by omega
        have q1 : 1 ≤ q := by omega
        have q2 : k + q ≤ n := by omega
        have q3 : (0 : Int) ≤ (q : Int) := by omega
        have q4 : (q : Int) ≤ 100000 := by omega
        have hmm : (if (8192 : Int) < (k : Int) then (8192 : Int) else (k : Int)) = (m : Int) := by split <;> omega
        obtain ⟨A2, hA2⟩ : ∃ A2, spl A k (List.replicate q (.int .u8 v)) = A2 := ⟨_, rfl⟩
        have HP2 : Hid (Pre A2 (k + q) (.int .u8 v)) := Lib.hid (by rw [← hA2]; exact Pre.spl hPr (by omega))
        have HS2 : Hid (n ≤ A2.size) := Lib.hid (by rw [← hA2, spl_size (by simp; omega)]; exact hSr)
        have HPr := Lib.hid hPr
        have HSr := Lib.hid hSr
        have HA2 := Lib.hid hA2
        have HQ := Lib.hid hq
        have HMK := Lib.hid (show m ≤ k by omega)
        have HKr := Lib.hid hKr
        clear hA2 hm hq hKr hPr hSr
        go_upto_region 20 with fail
        refine wp_region_noPanic ?_
        refine wp_region_held_drew (S := (fun w' => Below w.heap.size w w')) (by kernel_rfl) ?_ (fun hHeld => ?_)
        · (first | exact hBr.drew | exact hB9.drew | assumption)
        refine tk 0 ?_; try simp only [Act.put, pz1, pz2, pz3]
        refine tk 1 ?_; try simp only [Act.put, pz1, pz2, pz3]
        refine tk 2 ?_; try simp only [Act.put, pz1, pz2, pz3]
        refine tk 3 ?_; try simp only [Act.put, pz1, pz2, pz3]
        refine tk 4 ?_; try simp only [Act.put, pz1, pz2, pz3]
        refine tk 5 ?_; try simp only [Act.put, pz1, pz2, pz3]
        refine tk 6 ?_; try simp only [Act.put, pz1, pz2, pz3]
        refine wpAnyH_ready (rs := [7]) (by kernel_rfl) (by simp) ?_
        refine AllReadyH.cons (o := ⟨some 74, .call { callee := .builtin .copy, args := #[.tmp 70, .tmp 73], argTypes := #[37, 37] }, 3, "bytes.go:672", #[⟨3, .data⟩, ⟨6, .data⟩], none⟩) rfl (fun K hK => ?_) AllReadyH.nil
        refine wp_copy _ _ 37 rfl _ _ _ _ rfl rfl (copy_preA (w := wr.drew) (k := k) HKr.out HPr.out HSr.out hk HMK.out HQ.out n HA2.out) ?_
        have hB9 := below_setRow hBr (Nat.le_refl _) A2
        have hK9 := setRow_heap wr w.heap.size _ A2 5 _ HKr.out
        change K _ (wr.setRow w.heap.size A2).drew
        generalize wr.setRow w.heap.size A2 = w9 at hB9 hK9 ⊢
        refine hK.out _ _ ?_ (fun hNew => ?_)
        · (first | exact hBr.drew | exact hB9.drew | assumption)
        clear hK K hHeld
        have hHeld := hNew
        clear hNew
        try simp only [Act.put, pz1, pz2, pz3]
        refine tk 8 ?_; try simp only [Act.put, pz1, pz2, pz3]
        refine tk 9 ?_; try simp only [Act.put, pz1, pz2, pz3]
        refine wpAnyH_done (by kernel_rfl) ?_ _
        refine NoPanic.normal ?_
        go_wp2_with fail
        go_roundw
        case rel => exact ⟨k + q, A2, by rw [wrapS _ (by omega) (by omega)]; rfl, by omega, q2, hB9.drew, hK9, HP2.out, HS2.out⟩
        case measure =>
          rw [wrapS _ (by omega) (by omega)]
          simp [intOf]
          omega
      · have hkn : k = n := by omega
        subst hkn
        have hrow : RowT wr w.heap.size 5 (List.replicate k (.int .u8 v)) := ⟨_, by rw [← hPr.row]; exact hKr⟩
        have HR := Lib.hid hrow
        clear hKr hPr hSr hk hrow
        go_wp2_with fail
        go_ret
        exact ⟨_, rfl, Nat.le_refl _, HR.out, hBr⟩
  · have hbz : ¬ (8192 : Int) < (n : Int) := by omega
    go_enter Tryz.func69, Tryz.ntmps69
    go_wp2_with (go_at_call 111; ((with_reducible refine (mulC n _ (by omega)).mono ?_); rintro e' wN ⟨rfl, rfl⟩; skip))
    go_loopw [10] (fun s10 wr => ∃ (k : Nat) (A : Array Value), s10 = .int .i64 (k : Int) ∧ 1 ≤ k ∧ k ≤ n ∧ Below w.heap.size w wr ∧ Blk wr w.heap.size 5 A ∧ Pre A k (.int .u8 v) ∧ n ≤ A.size) (fun s10 _ => n - (intOf s10).toNat)
    case atStart => exact ⟨1, A1, rfl, Nat.le_refl _, n1, hB2, HK2.out, HP1.out, HS1.out⟩
    case round =>
      obtain ⟨k, A, rfl, k1, k2, hBr, hKr, hPr, hSr⟩ := hrel
      clear hrun1 hB2 HK2 HP1 HS1 hb hcall
      by_cases hk : k < n
      · obtain ⟨q, hq⟩ : ∃ q, min k (n - k) = q := ⟨_, rfl⟩
        have j0 : (0 : Int) ≤ (k : Int) := by omega
        have j1 : (k : Int) < (n : Int) := by omega
        have j2 : (k : Int) ≤ (n : Int) := by omega
        have j3 : ¬ n = k := by omega
        have j4 : ¬ (n : Int) = (k : Int) := by omega
        have j5 : (n : Int) - (k : Int) = ((n - k : Nat) : Int) := by omega
        have q1 : 1 ≤ q := by omega
        have q2 : k + q ≤ n := by omega
        have q3 : (0 : Int) ≤ (q : Int) := by omega
        have q4 : (q : Int) ≤ 100000 := by omega
        obtain ⟨A2, hA2⟩ : ∃ A2, spl A k (List.replicate q (.int .u8 v)) = A2 := ⟨_, rfl⟩
        have HP2 : Hid (Pre A2 (k + q) (.int .u8 v)) := Lib.hid (by rw [← hA2]; exact Pre.spl hPr (by omega))
        have HS2 : Hid (n ≤ A2.size) := Lib.hid (by rw [← hA2, spl_size (by simp; omega)]; exact hSr)
        have HPr := Lib.hid hPr
        have HSr := Lib.hid hSr
        have HA2 := Lib.hid hA2
        have HQ := Lib.hid hq
        have HMK := Lib.hid (show k ≤ k by omega)
        have HKr := Lib.hid hKr
        clear hA2 hq hKr hPr hSr
        go_upto_region 20 with fail
        refine wp_region_noPanic ?_
        refine wp_region_held_drew (S := (fun w' => Below w.heap.size w w')) (by kernel_rfl) ?_ (fun hHeld => ?_)
        · (first | exact hBr.drew | exact hB9.drew | assumption)
        refine tk 0 ?_; try simp only [Act.put, pz1, pz2, pz3]
        refine tk 1 ?_; try simp only [Act.put, pz1, pz2, pz3]
        refine tk 2 ?_; try simp only [Act.put, pz1, pz2, pz3]
        refine tk 3 ?_; try simp only [Act.put, pz1, pz2, pz3]
        refine tk 4 ?_; try simp only [Act.put, pz1, pz2, pz3]
        refine tk 5 ?_; try simp only [Act.put, pz1, pz2, pz3]
        refine tk 6 ?_; try simp only [Act.put, pz1, pz2, pz3]
        refine wpAnyH_ready (rs := [7]) (by kernel_rfl) (by simp) ?_
        refine AllReadyH.cons (o := ⟨some 74, .call { callee := .builtin .copy, args := #[.tmp 70, .tmp 73], argTypes := #[37, 37] }, 3, "bytes.go:672", #[⟨3, .data⟩, ⟨6, .data⟩], none⟩) rfl (fun K hK => ?_) AllReadyH.nil
        refine wp_copy _ _ 37 rfl _ _ _ _ rfl rfl (copy_preA (w := wr.drew) (k := k) HKr.out HPr.out HSr.out hk HMK.out HQ.out n HA2.out) ?_
        have hB9 := below_setRow hBr (Nat.le_refl _) A2
        have hK9 := setRow_heap wr w.heap.size _ A2 5 _ HKr.out
        change K _ (wr.setRow w.heap.size A2).drew
        generalize wr.setRow w.heap.size A2 = w9 at hB9 hK9 ⊢
        refine hK.out _ _ ?_ (fun hNew => ?_)
        · (first | exact hBr.drew | exact hB9.drew | assumption)
        clear hK K hHeld
        have hHeld := hNew
        clear hNew
        try simp only [Act.put, pz1, pz2, pz3]
        refine tk 8 ?_; try simp only [Act.put, pz1, pz2, pz3]
        refine tk 9 ?_; try simp only [Act.put, pz1, pz2, pz3]
        refine wpAnyH_done (by kernel_rfl) ?_ _
        refine NoPanic.normal ?_
        go_wp2_with fail
        go_roundw
        case rel => exact ⟨k + q, A2, by rw [wrapS _ (by omega) (by omega)]; rfl, by omega, q2, hB9.drew, hK9, HP2.out, HS2.out⟩
        case measure =>
          rw [wrapS _ (by omega) (by omega)]
          simp [intOf]
          omega
      · have hkn : k = n := by omega
        subst hkn
        have hrow : RowT wr w.heap.size 5 (List.replicate k (.int .u8 v)) := ⟨_, by rw [← hPr.row]; exact hKr⟩
        have HR := Lib.hid hrow
        clear hKr hPr hSr hk hrow
        go_wp2_with fail
        go_ret
        exact ⟨_, rfl, Nat.le_refl _, HR.out, hBr⟩
end Go.Proofs.YtkpcohfdcilfcaaGreat
namespace Go.Proofs.YtkpcohfdcilfcaaGreat
open Go.ChangeShapes Go.WideShapes Go.ChangeAt Go.RowKit
def ChS.ask (s : ChS) (a B : Int) (j : Nat) : Int := if inB a B then s.k B j else 0
theorem inB_no {a B : Int} (h : B < 0 ∨ a ≤ B) : inB a B = false := by
  unfold inB
  rcases h with h | h
  · rw [decide_eq_false (by omega : ¬ 0 ≤ B)]; rfl
  · rw [decide_eq_false (by omega : ¬ B < a), Bool.and_false]
theorem inB_yes {a B : Int} (h : 0 ≤ B) (h2 : B < a) : inB a B = true := by simp [inB, h, h2]
theorem inB_out {a B : Int} (h : inB a B = true) : ∃ k : Nat, B = (k : Int) ∧ (k : Int) < a := by
  simp only [inB, Bool.and_eq_true, decide_eq_true_eq] at h
  exact ⟨B.toNat, by omega, by omega⟩
theorem hasBlock_any (m gx gb : Nat) (Af : Option Addr) (nf cf : Nat) (a b c d e : Int) (fs : List Flt) (B : Int) (w : World) (s : ChS) (hC : ChipW w m gx gb Af nf cf a b c d e fs s) : Calls Tryz.prog 82 #[.pointer (some ⟨m, 0, none⟩), .int .i64 B] w fun e' w' => e' = .returned (.bool (inB a B)) ∧ w = w' := by
  obtain ⟨cx, cb, NX, NB, hNX, hNB, y0, y1, y2, y3, y4, y5, y6, y7, y8, y9, y10, y11, y12, y13, y14, y15, yx, yb, fm, fx, fb⟩ := hC.get
  have hn := hNB.out
  by_cases h1 : B < 0
  · rw [inB_no (Or.inl h1)]
    have h2 : ¬ 0 ≤ B := by omega
    clear yx yb fm fx fb hn
    go_enter Tryz.func82, Tryz.ntmps82
    go_wp2_with fail
    go_ret
    exact ⟨rfl, rfl⟩
  · have h2 : 0 ≤ B := by omega
    by_cases h3 : B < (NB : Int)
    · rw [inB_yes h2 (by omega)]
      clear yx yb fm fx fb hn
      go_enter Tryz.func82, Tryz.ntmps82
      go_wp2_with fail
      go_ret
      exact ⟨rfl, rfl⟩
    · rw [inB_no (Or.inr (by omega))]
      clear yx yb fm fx fb hn
      go_enter Tryz.func82, Tryz.ntmps82
      go_wp2_with fail
      go_ret
      exact ⟨rfl, rfl⟩
theorem hasBlock_b (m gx gb : Nat) (Af : Option Addr) (nf cf : Nat) (a b c d e : Int) (fs : List Flt) (B : Int) (T : Bool) (w : World) (s : ChS) (hC : ChipW w m gx gb Af nf cf a b c d e fs s) (hib : Hid (inB a B = T)) : Calls Tryz.prog 82 #[.pointer (some ⟨m, 0, none⟩), .int .i64 B] w fun e' w' => e' = .returned (.bool T) ∧ w = w' := by
  have := hasBlock_any m gx gb Af nf cf a b c d e fs B w s hC
  rwa [hib.out] at this
theorem wear_any (m gx gb : Nat) (Af : Option Addr) (nf cf : Nat) (a b c d e : Int) (fs : List Flt) (B : Int) (w : World) (s : ChS) (hC : ChipW w m gx gb Af nf cf a b c d e fs s) : Calls Tryz.prog 52 #[.pointer (some ⟨m, 0, none⟩), .int .i64 B] w fun e' w' => e' = .returned (.int .i64 (s.ask a B 1)) ∧ w = w' := by
  cases hq : inB a B
  · rw [show s.ask a B 1 = 0 by unfold ChS.ask; rw [hq]; rfl]
    have hib := Lib.hid hq
    clear hq
    go_enter Tryz.func52, Tryz.ntmps52
    go_wp2_with (go_at_call 82; ((with_reducible refine (hasBlock_b _ _ _ _ _ _ _ _ _ _ _ _ _ _ _ _ hC hib).mono ?_); rintro e' wN ⟨rfl, rfl⟩; skip))
    go_ret
    exact ⟨rfl, rfl⟩
  · have hib := Lib.hid hq
    rw [show s.ask a B 1 = s.k B 1 by unfold ChS.ask; rw [hq]; rfl]
    obtain ⟨k, rfl, hk⟩ := inB_out hq
    obtain ⟨cx, cb, NX, NB, hNX, hNB, y0, y1, y2, y3, y4, y5, y6, y7, y8, y9, y10, y11, y12, y13, y14, y15, yx, yb, fm, fx, fb⟩ := hC.get
    have cz := yb (3 * k + 1) (by have := hNB.out; omega)
    have i0 : (0 : Int) ≤ (k : Int) := by omega
    have i1 : (k : Int) < (NB : Int) := by have := hNB.out; omega
    obtain ⟨z, hz⟩ : ∃ z, s.K.getD (3 * k + 1) 0 = z := ⟨_, rfl⟩
    have HZ : Hid (s.k (k : Int) 1 = z) := Lib.hid (by unfold ChS.k; rw [Int.toNat_natCast]; exact hz)
    rw [hz, Nat.mul_comm] at cz
    (try rw [Nat.add_zero] at cz)
    clear yx yb fm fx fb hq hz
    go_enter Tryz.func52, Tryz.ntmps52
    go_wp2_with (go_at_call 82; ((with_reducible refine (hasBlock_b _ _ _ _ _ _ _ _ _ _ _ _ _ _ _ _ hC hib).mono ?_); rintro e' wN ⟨rfl, rfl⟩; skip))
    go_ret
    rw [HZ.out]
    exact ⟨rfl, rfl⟩
theorem used_any (m gx gb : Nat) (Af : Option Addr) (nf cf : Nat) (a b c d e : Int) (fs : List Flt) (B : Int) (w : World) (s : ChS) (hC : ChipW w m gx gb Af nf cf a b c d e fs s) : Calls Tryz.prog 155 #[.pointer (some ⟨m, 0, none⟩), .int .i64 B] w fun e' w' => e' = .returned (.int .i64 (s.ask a B 0)) ∧ w = w' := by
  cases hq : inB a B
  · rw [show s.ask a B 0 = 0 by unfold ChS.ask; rw [hq]; rfl]
    have hib := Lib.hid hq
    clear hq
    go_enter Tryz.func155, Tryz.ntmps155
    go_wp2_with (go_at_call 82; ((with_reducible refine (hasBlock_b _ _ _ _ _ _ _ _ _ _ _ _ _ _ _ _ hC hib).mono ?_); rintro e' wN ⟨rfl, rfl⟩; skip))
    go_ret
    exact ⟨rfl, rfl⟩
  · have hib := Lib.hid hq
    rw [show s.ask a B 0 = s.k B 0 by unfold ChS.ask; rw [hq]; rfl]
    obtain ⟨k, rfl, hk⟩ := inB_out hq
    obtain ⟨cx, cb, NX, NB, hNX, hNB, y0, y1, y2, y3, y4, y5, y6, y7, y8, y9, y10, y11, y12, y13, y14, y15, yx, yb, fm, fx, fb⟩ := hC.get
    have cz := yb (3 * k + 0) (by have := hNB.out; omega)
    have i0 : (0 : Int) ≤ (k : Int) := by omega
    have i1 : (k : Int) < (NB : Int) := by have := hNB.out; omega
    obtain ⟨z, hz⟩ : ∃ z, s.K.getD (3 * k + 0) 0 = z := ⟨_, rfl⟩
    have HZ : Hid (s.k (k : Int) 0 = z) := Lib.hid (by unfold ChS.k; rw [Int.toNat_natCast]; exact hz)
    rw [hz, Nat.mul_comm] at cz
    (try rw [Nat.add_zero] at cz)
    clear yx yb fm fx fb hq hz
    go_enter Tryz.func155, Tryz.ntmps155
    go_wp2_with (go_at_call 82; ((with_reducible refine (hasBlock_b _ _ _ _ _ _ _ _ _ _ _ _ _ _ _ _ hC hib).mono ?_); rintro e' wN ⟨rfl, rfl⟩; skip))
    go_ret
    rw [HZ.out]
    exact ⟨rfl, rfl⟩
theorem on_any (m gx gb : Nat) (Af : Option Addr) (nf cf : Nat) (a b c d e : Int) (fs : List Flt) (w : World) (s : ChS) (hC : ChipW w m gx gb Af nf cf a b c d e fs s) : Calls Tryz.prog 58 #[.pointer (some ⟨m, 0, none⟩)] w fun e' w' => e' = .returned (.bool s.on) ∧ w = w' := by
  obtain ⟨cx, cb, NX, NB, hNX, hNB, y0, y1, y2, y3, y4, y5, y6, y7, y8, y9, y10, y11, y12, y13, y14, y15, yx, yb, fm, fx, fb⟩ := hC.get
  clear yx yb fm fx fb
  go_enter Tryz.func58, Tryz.ntmps58
  go_wp2_with fail
  go_ret
  exact ⟨rfl, rfl⟩
theorem ops_any (m gx gb : Nat) (Af : Option Addr) (nf cf : Nat) (a b c d e : Int) (fs : List Flt) (w : World) (s : ChS) (hC : ChipW w m gx gb Af nf cf a b c d e fs s) : Calls Tryz.prog 15 #[.pointer (some ⟨m, 0, none⟩)] w fun e' w' => e' = .returned (.int .i64 s.ops) ∧ w = w' := by
  obtain ⟨cx, cb, NX, NB, hNX, hNB, y0, y1, y2, y3, y4, y5, y6, y7, y8, y9, y10, y11, y12, y13, y14, y15, yx, yb, fm, fx, fb⟩ := hC.get
  clear yx yb fm fx fb
  go_enter Tryz.func15, Tryz.ntmps15
  go_wp2_with fail
  go_ret
  exact ⟨rfl, rfl⟩
theorem cuts_any (m gx gb : Nat) (Af : Option Addr) (nf cf : Nat) (a b c d e : Int) (fs : List Flt) (w : World) (s : ChS) (hC : ChipW w m gx gb Af nf cf a b c d e fs s) : Calls Tryz.prog 57 #[.pointer (some ⟨m, 0, none⟩)] w fun e' w' => e' = .returned (.int .i64 s.cuts) ∧ w = w' := by
  obtain ⟨cx, cb, NX, NB, hNX, hNB, y0, y1, y2, y3, y4, y5, y6, y7, y8, y9, y10, y11, y12, y13, y14, y15, yx, yb, fm, fx, fb⟩ := hC.get
  clear yx yb fm fx fb
  go_enter Tryz.func57, Tryz.ntmps57
  go_wp2_with fail
  go_ret
  exact ⟨rfl, rfl⟩
theorem fails_b (fs : List Flt) (n : Nat) (A : Option Addr) (c : Nat) (b d : Int) (w : World) (h : SlF w w.heap.size A fs) (n1 : n ≤ 1000000) (hn : fs.length = n) :
    Calls Tryz.prog 84 #[.slice A n c, .int .i64 b, .int .i64 d] w fun e w' => e = .returned (.bool (failsB fs b d)) ∧ Below w.heap.size w w' := by
  subst hn
  exact Fails_any fs A c b d w h n1
theorem bad_b (fs : List Flt) (n : Nat) (A : Option Addr) (c : Nat) (b : Int) (w : World) (h : SlF w w.heap.size A fs) (n1 : n ≤ 1000000) (hn : fs.length = n) :
    Calls Tryz.prog 83 #[.slice A n c, .int .i64 b] w fun e w' => e = .returned (.bool (badB fs b)) ∧ Below w.heap.size w w' := by
  subst hn
  exact Bad_any fs A c b w h n1
theorem chip_nf {w : World} {m gx gb : Nat} {Af : Option Addr} {nf cf : Nat} {a b c d e : Int} {fs : List Flt} {s : ChS} (h : ChipW w m gx gb Af nf cf a b c d e fs s) : nf ≤ 8 := by
  have := (planMay_bd h.may).2.1
  rw [h.nf] at this
  exact this
theorem bad_any (m gx gb : Nat) (Af : Option Addr) (nf cf : Nat) (a b c d e : Int) (fs : List Flt) (B : Int) (w : World) (s : ChS) (hC : ChipW w m gx gb Af nf cf a b c d e fs s) : Calls Tryz.prog 53 #[.pointer (some ⟨m, 0, none⟩), .int .i64 B] w fun e' w' => e' = .returned (.bool (badB fs B)) ∧ Below w.heap.size w w' := by
  obtain ⟨cx, cb, NX, NB, hNX, hNB, y0, y1, y2, y3, y4, y5, y6, y7, y8, y9, y10, y11, y12, y13, y14, y15, yx, yb, fm, fx, fb⟩ := hC.get
  have hn8 := chip_nf hC
  have HF := Lib.hid hC.nf
  have hS := hC.flt.sl
  clear yx yb fm fx fb
  go_enter Tryz.func53, Tryz.ntmps53
  go_wp2_with (go_at_call 83; ((with_reducible refine (bad_b _ _ _ _ _ _ hS (by omega) HF.out).mono ?_); rintro e' wN ⟨rfl, hb⟩; skip))
  go_ret
  exact ⟨rfl, hb⟩
theorem undrew {w w' : World} (h : Below w.drew.heap.size w.drew w') : Below w.heap.size w w' := ⟨h.os, h.tape, h.output, h.size, h.block⟩
theorem failed_any (m gx gb : Nat) (Af : Option Addr) (nf cf : Nat) (a b c d e : Int) (fs : List Flt) (B : Int) (w : World) (s : ChS) (hC : ChipW w m gx gb Af nf cf a b c d e fs s) : Calls Tryz.prog 54 #[.pointer (some ⟨m, 0, none⟩), .int .i64 B] w fun e' w' => e' = .returned (.bool (failedB a fs s B)) ∧ Below w.heap.size w w' := by
  unfold failedB
  cases hq : inB a B
  · have hib := Lib.hid hq
    clear hq
    go_enter Tryz.func54, Tryz.ntmps54
    go_wp2_with (go_at_call 82; ((with_reducible refine (hasBlock_b _ _ _ _ _ _ _ _ _ _ _ _ _ _ _ _ hC hib).mono ?_); rintro e' wN ⟨rfl, rfl⟩; skip))
    go_ret
    exact ⟨rfl, Below.refl _ _⟩
  · have hib := Lib.hid hq
    obtain ⟨k, rfl, hk⟩ := inB_out hq
    obtain ⟨cx, cb, NX, NB, hNX, hNB, y0, y1, y2, y3, y4, y5, y6, y7, y8, y9, y10, y11, y12, y13, y14, y15, yx, yb, fm, fx, fb⟩ := hC.get
    have hn8 := chip_nf hC
    have hl := hC.lt
    have HF := Lib.hid hC.nf
    have hS := hC.flt.sl
    have hSd : SlF w.drew w.drew.heap.size Af fs := hS
    have cz := yb (3 * k + 2) (by have := hNB.out; omega)
    have i0 : (0 : Int) ≤ (k : Int) := by omega
    have i1 : (k : Int) < (NB : Int) := by have := hNB.out; omega
    obtain ⟨z, hz⟩ : ∃ z, s.K.getD (3 * k + 2) 0 = z := ⟨_, rfl⟩
    have HZ : Hid (s.k (k : Int) 2 = z) := Lib.hid (by unfold ChS.k; rw [Int.toNat_natCast]; exact hz)
    rw [hz, Nat.mul_comm] at cz
    clear yx yb fm fx fb hq hz y0 y1 y2 y3 y4 y6 y8 y9 y10 y11 y12 y13 y14 y15
    go_enter Tryz.func54, Tryz.ntmps54
    go_upto_region 3 with (go_at_call 82; ((with_reducible refine (hasBlock_b _ _ _ _ _ _ _ _ _ _ _ _ _ _ _ _ hC hib).mono ?_); rintro e' wN ⟨rfl, rfl⟩; skip))
    refine wp_region_noPanic ?_
    refine wp_region_held_drew (S := (fun w' => w'.cell? ⟨m, 5, none⟩ = some (.slice Af nf cf) ∧ w'.cell? ⟨m, 7, none⟩ = some (.slice (some ⟨gb, 0, none⟩) NB cb) ∧ w'.cell? ⟨gb, k * 3 + 2, none⟩ = some (.int .i64 z))) (by kernel_rfl) ?_ (fun hHeld => ?_)
    · (first | exact ⟨y5, y7, cz⟩ | assumption)
    refine tk 0 ?_; try simp only [Act.put, pz1, pz2, pz3]
    refine tk 1 ?_; try simp only [Act.put, pz1, pz2, pz3]
    refine tk 2 ?_; try simp only [Act.put, pz1, pz2, pz3]
    refine tk 3 ?_; try simp only [Act.put, pz1, pz2, pz3]
    refine tk 4 ?_; try simp only [Act.put, pz1, pz2, pz3]
    refine tk 5 ?_; try simp only [Act.put, pz1, pz2, pz3]
    refine tk 6 ?_; try simp only [Act.put, pz1, pz2, pz3]
    refine tk 7 ?_; try simp only [Act.put, pz1, pz2, pz3]
    refine tk 8 ?_; try simp only [Act.put, pz1, pz2, pz3]
    refine tk 9 ?_; try simp only [Act.put, pz1, pz2, pz3]
    refine tk 10 ?_; try simp only [Act.put, pz1, pz2, pz3]
    refine tk 11 ?_; try simp only [Act.put, pz1, pz2, pz3]
    refine tk 12 ?_; try simp only [Act.put, pz1, pz2, pz3]
    refine wpAnyH_ready (rs := [13]) (by kernel_rfl) (by simp) ?_
    refine AllReadyH.cons (o := ⟨some 26, .call { callee := .value (.func 84), args := #[.tmp 16, .tmp 17, .tmp 25], argTypes := #[44, 3, 3] }, 4, "chip.go:244", #[⟨3, .data⟩, ⟨4, .data⟩, ⟨12, .data⟩], none⟩) rfl (fun K hK => ?_) AllReadyH.nil
    go_simp
    (go_at_call 84; ((with_reducible refine (fails_b _ _ _ _ _ _ _ hSd (by omega) HF.out).mono ?_); rintro e' wN ⟨rfl, hb⟩; have hb := undrew hb; have y5 := (hb.cell (p := ⟨m, 5, none⟩) hl.1).trans y5; have y7 := (hb.cell (p := ⟨m, 7, none⟩) hl.1).trans y7; have cz := (hb.cell (p := ⟨gb, k * 3 + 2, none⟩) hl.2.2).trans cz))
    go_wp2_with fail
    refine hK.out _ _ ?_ (fun hNew => ?_)
    · (first | exact ⟨y5, y7, cz⟩ | assumption)
    clear hK K hHeld
    have hHeld := hNew
    clear hNew
    try simp only [Act.put, pz1, pz2, pz3]
    refine tk 14 ?_; try simp only [Act.put, pz1, pz2, pz3]
    refine wpAnyH_done (by kernel_rfl) ?_ _
    refine NoPanic.normal ?_
    go_wp2_with fail
    go_ret
    rw [HZ.out]
    exact ⟨rfl, hb⟩
theorem failed_b (m gx gb : Nat) (Af : Option Addr) (nf cf : Nat) (a b c d e : Int) (fs : List Flt) (B : Int) (T : Bool) (w : World) (s : ChS) (hC : ChipW w m gx gb Af nf cf a b c d e fs s) (ht : Hid (failedB a fs s B = T)) : Calls Tryz.prog 54 #[.pointer (some ⟨m, 0, none⟩), .int .i64 B] w fun e' w' => e' = .returned (.bool T) ∧ Below w.heap.size w w' := by
  have := failed_any m gx gb Af nf cf a b c d e fs B w s hC
  rwa [ht.out] at this
end Go.Proofs.YtkpcohfdcilfcaaGreat
namespace Go.Proofs.YtkpcohfdcilfcaaGreat
open Go.ChangeShapes Go.WideShapes Go.ChangeAt Go.RowKit
def ifMay (a b c d e f : Int) : Int := if mayB a b c d e = true then f else 0
theorem ifMay_yes {a b c d e : Int} (f : Int) (h : mayB a b c d e = true) : ifMay a b c d e f = f := by simp [ifMay, h]
theorem ifMay_no {a b c d e : Int} (f : Int) (h : mayB a b c d e = false) : ifMay a b c d e f = 0 := by simp [ifMay, h]
theorem mul_bd {x y lo hi l2 h2 : Int} (a1 : lo ≤ x) (a2 : x ≤ hi) (b1 : l2 ≤ y) (b2 : y ≤ h2) (p : 0 ≤ lo) (q : 0 ≤ l2) : lo * l2 ≤ x * y ∧ x * y ≤ hi * h2 := by
  have h5 : x * y ≤ hi * y := Int.mul_le_mul_of_nonneg_right a2 (by omega)
  have h6 : hi * y ≤ hi * h2 := Int.mul_le_mul_of_nonneg_left b2 (by omega)
  have h7 : lo * l2 ≤ lo * y := Int.mul_le_mul_of_nonneg_left b1 p
  have h8 : lo * y ≤ x * y := Int.mul_le_mul_of_nonneg_right a1 (by omega)
  omega
theorem Logical_any (a b c d e : Int) (w : World) :
    Calls Tryz.prog 89 #[.agg #[.int .i64 a, .int .i64 b, .int .i64 c, .int .i64 d, .int .i64 e]] w fun e' w' => e' = .returned (.int .i64 (ifMay a b c d e (logicalI a b d))) ∧ Below w.heap.size w w' := by
  cases hm : mayB a b c d e
  · rw [ifMay_no _ hm]
    have Hm := Lib.hid hm
    clear hm
    go_enter Tryz.func89, Tryz.ntmps89
    go_wp2_with (go_at_call 108; refine (may_any _ _ _ _ _ _).mono ?_; rw [Hm.out]; rintro e' w1 ⟨rfl, hb1⟩)
    go_ret
    exact ⟨rfl, below1 hb1⟩
  · rw [ifMay_yes _ hm]
    obtain ⟨k1, k2, k3, k4, _, _, k5, k6, _⟩ := may_bd hm
    have Hm := Lib.hid hm
    clear hm
    go_enter Tryz.func89, Tryz.ntmps89
    go_wp2_with (first | (go_at_call 108; refine (may_any _ _ _ _ _ _).mono ?_; rw [Hm.out]; rintro e' w1 ⟨rfl, hb1⟩; obtain ⟨hc1, hf1⟩ := bcell hb1) | (go_at_call 132; refine (logical_any _ _ _ _ _ _ k1 k2 k3 k4 k5 k6).mono ?_; rintro e' w2 ⟨rfl, hb2⟩))
    go_ret
    exact ⟨rfl, (below1 hb1).trans (hb2.mono (by have := hb1.size; simp at this; omega))⟩
end Go.Proofs.YtkpcohfdcilfcaaGreat
namespace Go.Proofs.YtkpcohfdcilfcaaGreat
open Go.ChangeShapes Go.WideShapes Go.ChangeAt Go.RowKit
def thereB (a b x y : Int) : Bool := withinB x 0 (a - 1) && withinB y 0 (b - 1)
theorem there_bd {a b x y : Int} (h : thereB a b x y = true) : 0 ≤ x ∧ x ≤ a - 1 ∧ 0 ≤ y ∧ y ≤ b - 1 := by
  simp only [thereB, withinB, Bool.and_eq_true, decide_eq_true_eq] at h
  omega
theorem there_any (a b c d e x y : Int) (w : World) (h1 : 8 ≤ a) (h2 : a ≤ 20) (h3 : 4 ≤ b) (h4 : b ≤ 8) :
    Calls Tryz.prog 153 #[.agg #[.int .i64 a, .int .i64 b, .int .i64 c, .int .i64 d, .int .i64 e], .agg #[.int .i64 x, .int .i64 y]] w fun e' w' => e' = .returned (.bool (thereB a b x y)) ∧ Below w.heap.size w w' := by
  go_enter Tryz.func153, Tryz.ntmps153
  go_wp2_with (go_at_call 148; refine (within_any _ _ _ _).mono ?_; rintro e w' ⟨rfl, rfl⟩)
  all_goals
    go_ret
    exact ⟨by simp [thereB, *], ((Below.refl _ _).alloc (Nat.le_refl _) _).alloc (by simp) _⟩
def numberI (a b x y : Int) : Int := if thereB a b x y = true then x * b + y else -1
theorem below2 {w w1 : World} {o o' : Obj} (hb : Below ((w.alloc o).alloc o').heap.size ((w.alloc o).alloc o') w1) : Below w.heap.size w w1 :=
  (((Below.refl _ _).alloc (Nat.le_refl _) _).alloc (by simp) _).trans (hb.mono (by simp; omega))
theorem Number_any (a b c d e x y : Int) (w : World) :
    Calls Tryz.prog 115 #[.agg #[.int .i64 a, .int .i64 b, .int .i64 c, .int .i64 d, .int .i64 e], .agg #[.int .i64 x, .int .i64 y]] w fun e' w' => e' = .returned (.int .i64 (ifMay a b c d e (numberI a b x y))) ∧ Below w.heap.size w w' := by
  cases hm : mayB a b c d e
  · rw [ifMay_no _ hm]
    have Hm := Lib.hid hm
    clear hm
    go_enter Tryz.func115, Tryz.ntmps115
    go_wp2_with (go_at_call 108; refine (may_any _ _ _ _ _ _).mono ?_; rw [Hm.out]; rintro e' w1 ⟨rfl, hb1⟩)
    go_ret
    exact ⟨rfl, below2 hb1⟩
  · rw [ifMay_yes _ hm]
    obtain ⟨k1, k2, k3, k4, k7, k8, k5, k6, _⟩ := may_bd hm
    have Hm := Lib.hid hm
    clear hm
    cases ht : thereB a b x y
    · have hn : numberI a b x y = -1 := by simp [numberI, ht]
      rw [hn]
      clear hn
      have Ht := Lib.hid ht
      clear ht
      go_enter Tryz.func115, Tryz.ntmps115
      go_wp2_with (first | (go_at_call 108; refine (may_any _ _ _ _ _ _).mono ?_; rw [Hm.out]; rintro e' w1 ⟨rfl, hb1⟩; obtain ⟨hc1, hf1⟩ := bcell hb1) | (go_at_call 153; refine (there_any _ _ _ _ _ _ _ _ k1 k2 k3 k4).mono ?_; rw [Ht.out]; rintro e' w2 ⟨rfl, hb2⟩))
      go_ret
      exact ⟨rfl, (below2 hb1).trans (hb2.mono (by have := hb1.size; simp at this; omega))⟩
    · have hn : numberI a b x y = x * b + y := by simp [numberI, ht]
      rw [hn]
      clear hn
      obtain ⟨t1, t2, t3, t4⟩ := there_bd ht
      obtain ⟨p1, p2⟩ := mul_bd (x := x) (y := b) (lo := 0) (hi := 19) (by omega) (by omega) k3 k4 (by omega) (by omega)
      have Ht := Lib.hid ht
      clear ht
      go_enter Tryz.func115, Tryz.ntmps115
      go_wp2_with (first | (go_at_call 108; refine (may_any _ _ _ _ _ _).mono ?_; rw [Hm.out]; rintro e' w1 ⟨rfl, hb1⟩; obtain ⟨hc1, hf1⟩ := bcell hb1; have hz1 : w.heap.size + 1 < w1.heap.size := by { have := hb1.size; simp at this; omega }; have hz0 : w.heap.size < w1.heap.size := by { omega }) | (go_at_call 153; refine (there_any _ _ _ _ _ _ _ _ k1 k2 k3 k4).mono ?_; rw [Ht.out]; rintro e' w2 ⟨rfl, hb2⟩; obtain ⟨hc2, hf2⟩ := bcell hb2))
      go_ret
      exact ⟨rfl, (below2 hb1).trans (hb2.mono (by have := hb1.size; simp at this; omega))⟩
end Go.Proofs.YtkpcohfdcilfcaaGreat
namespace Go.Proofs.YtkpcohfdcilfcaaGreat
open Go.ChangeShapes Go.WideShapes Go.ChangeAt Go.RowKit
theorem ChipW.drew {w : World} {m gx gb : Nat} {Af : Option Addr} {nf cf : Nat} {a b c d e : Int} {fs : List Flt} {s : ChS} (h : ChipW w m gx gb Af nf cf a b c d e fs s) : ChipW w.drew m gx gb Af nf cf a b c d e fs s := h.like
theorem hasPage_any (m gx gb : Nat) (Af : Option Addr) (nf cf : Nat) (a b c d e : Int) (fs : List Flt) (x y : Int) (w : World) (s : ChS) (hC : ChipW w m gx gb Af nf cf a b c d e fs s) : Calls Tryz.prog 73 #[.pointer (some ⟨m, 0, none⟩), .agg #[.int .i64 x, .int .i64 y]] w fun e' w' => e' = .returned (.bool (thereB a b x y)) ∧ Below w.heap.size w w' := by
  obtain ⟨g1, g2, g3, g4⟩ : 8 ≤ a ∧ a ≤ 20 ∧ 4 ≤ b ∧ b ≤ 8 := (fun h => ⟨h.1, h.2.1, h.2.2.1, h.2.2.2.1⟩) (may_bd (planMay_bd hC.may).1)
  have HB0 : Below w.heap.size w (w.alloc (.cells #[.int .i64 x, .int .i64 y] 68)) := (Below.refl _ _).alloc (Nat.le_refl _) _
  have G1 : Blk (w.alloc (.cells #[.int .i64 x, .int .i64 y] 68)) w.heap.size 68 #[.int .i64 x, .int .i64 y] := Blk.new_ _ _ _
  have z0 : (w.alloc (.cells #[.int .i64 x, .int .i64 y] 68)).cell? ⟨w.heap.size, 0, none⟩ = some (.int .i64 x) := G1.cell_ 0
  have z1 : (w.alloc (.cells #[.int .i64 x, .int .i64 y] 68)).cell? ⟨w.heap.size, 1, none⟩ = some (.int .i64 y) := G1.cell_ 1
  have hC := hC.below HB0
  obtain ⟨cx, cb, NX, NB, hNX, hNB, y0, y1, y2, y3, y4, y5, y6, y7, y8, y9, y10, y11, y12, y13, y14, y15, yx, yb, fm, fx, fb⟩ := hC.get
  clear yx yb fm fx fb
  rcases (by cases hq : inB a x <;> simp : inB a x = false ∨ inB a x = true) with hq | hq
  · have hr : thereB a b x y = false := by
      cases ht : thereB a b x y
      · rfl
      · have := there_bd ht
        rw [inB_yes (by omega) (by omega)] at hq
        cases hq
    rw [hr]
    have hib := Lib.hid hq
    clear hq hr
    go_enter Tryz.func73, Tryz.ntmps73
    go_upto_region 1 with fail
    refine wp_region_noPanic ?_
    refine wp_region_held_drew (S := (fun w' => w'.cell? ⟨w.heap.size, 0, none⟩ = some (.int .i64 x) ∧ w'.cell? ⟨w.heap.size, 1, none⟩ = some (.int .i64 y) ∧ w'.cell? ⟨m, 1, none⟩ = some (.int .i64 b))) (by kernel_rfl) ?_ (fun hHeld => ?_)
    · (first | exact ⟨z0, z1, y1⟩ | assumption)
    refine tk 0 ?_; try simp only [Act.put, pz1, pz2, pz3]
    refine tk 1 ?_; try simp only [Act.put, pz1, pz2, pz3]
    refine tk 2 ?_; try simp only [Act.put, pz1, pz2, pz3]
    refine wpAnyH_ready (rs := [3]) (by kernel_rfl) (by simp) ?_
    refine AllReadyH.cons (o := ⟨some 8, .call { callee := .value (.func 82), args := #[.tmp 5, .tmp 7], argTypes := #[27, 3] }, 4, "chip.go:72", #[⟨0, .data⟩, ⟨2, .data⟩], none⟩) rfl (fun K hK => ?_) AllReadyH.nil
    go_simp
    (go_at_call 82; ((with_reducible refine (hasBlock_b _ _ _ _ _ _ _ _ _ _ _ _ _ _ _ _ (by first | exact hC | exact ChipW.drew hC) hib).mono ?_); rintro e' wN ⟨rfl, rfl⟩; skip))
    go_wp2_with fail
    refine hK.out _ _ ?_ (fun hNew => ?_)
    · (first | exact ⟨z0, z1, y1⟩ | assumption)
    clear hK K hHeld
    have hHeld := hNew
    clear hNew
    try simp only [Act.put, pz1, pz2, pz3]
    refine tk 4 ?_; try simp only [Act.put, pz1, pz2, pz3]
    refine tu 5 ?_
    try simp only [Act.put, pz1, pz2, pz3]
    refine tu 6 ?_
    try simp only [Act.put, pz1, pz2, pz3]
    refine tu 7 ?_
    try simp only [Act.put, pz1, pz2, pz3]
    refine tk 8 ?_; try simp only [Act.put, pz1, pz2, pz3]
    refine tk 9 ?_; try simp only [Act.put, pz1, pz2, pz3]
    refine tu 10 ?_
    try simp only [Act.put, pz1, pz2, pz3]
    refine tu 11 ?_
    try simp only [Act.put, pz1, pz2, pz3]
    refine tu 12 ?_
    try simp only [Act.put, pz1, pz2, pz3]
    refine tu 13 ?_
    try simp only [Act.put, pz1, pz2, pz3]
    refine tu 14 ?_
    try simp only [Act.put, pz1, pz2, pz3]
    refine tu 15 ?_
    try simp only [Act.put, pz1, pz2, pz3]
    refine tu 16 ?_
    try simp only [Act.put, pz1, pz2, pz3]
    refine tu 17 ?_
    try simp only [Act.put, pz1, pz2, pz3]
    refine tk 18 ?_; try simp only [Act.put, pz1, pz2, pz3]
    refine tk 19 ?_; try simp only [Act.put, pz1, pz2, pz3]
    refine wpAnyH_done (by kernel_rfl) ?_ _
    refine NoPanic.normal ?_
    go_wp2_with fail
    go_ret
    (first | exact ⟨rfl, HB0⟩ | exact ⟨rfl, HB0.drew⟩)
  obtain ⟨k, rfl, hk⟩ := inB_out hq
  have hib := Lib.hid hq
  clear hq
  by_cases h1 : y < 0
  · have hr : thereB a b (k : Int) y = false := by
      cases ht : thereB a b (k : Int) y
      · rfl
      · have := there_bd ht
        omega
    rw [hr]
    have d0 : decide (0 ≤ y) = false := decide_eq_false (by omega)
    have d1 : ¬ 0 ≤ y := by omega
    clear hr
    go_enter Tryz.func73, Tryz.ntmps73
    go_upto_region 1 with fail
    refine wp_region_noPanic ?_
    refine wp_region_held_drew (S := (fun w' => w'.cell? ⟨w.heap.size, 0, none⟩ = some (.int .i64 (k : Int)) ∧ w'.cell? ⟨w.heap.size, 1, none⟩ = some (.int .i64 y) ∧ w'.cell? ⟨m, 1, none⟩ = some (.int .i64 b))) (by kernel_rfl) ?_ (fun hHeld => ?_)
    · (first | exact ⟨z0, z1, y1⟩ | assumption)
    refine tk 0 ?_; try simp only [Act.put, pz1, pz2, pz3]
    refine tk 1 ?_; try simp only [Act.put, pz1, pz2, pz3]
    refine tk 2 ?_; try simp only [Act.put, pz1, pz2, pz3]
    refine wpAnyH_ready (rs := [3]) (by kernel_rfl) (by simp) ?_
    refine AllReadyH.cons (o := ⟨some 8, .call { callee := .value (.func 82), args := #[.tmp 5, .tmp 7], argTypes := #[27, 3] }, 4, "chip.go:72", #[⟨0, .data⟩, ⟨2, .data⟩], none⟩) rfl (fun K hK => ?_) AllReadyH.nil
    go_simp
    (go_at_call 82; ((with_reducible refine (hasBlock_b _ _ _ _ _ _ _ _ _ _ _ _ _ _ _ _ (by first | exact hC | exact ChipW.drew hC) hib).mono ?_); rintro e' wN ⟨rfl, rfl⟩; skip))
    go_wp2_with fail
    refine hK.out _ _ ?_ (fun hNew => ?_)
    · (first | exact ⟨z0, z1, y1⟩ | assumption)
    clear hK K hHeld
    have hHeld := hNew
    clear hNew
    try simp only [Act.put, pz1, pz2, pz3]
    refine tk 4 ?_; try simp only [Act.put, pz1, pz2, pz3]
    refine tk 5 ?_; try simp only [Act.put, pz1, pz2, pz3]
    refine tk 6 ?_; try simp only [Act.put, pz1, pz2, pz3]
    refine tk 7 ?_; try simp only [Act.put, pz1, pz2, pz3]
    refine tk 8 ?_; try simp only [Act.put, pz1, pz2, pz3]
    refine tk 9 ?_; try simp only [Act.put, pz1, pz2, pz3]
    refine tu 10 ?_
    try simp only [Act.put, pz1, pz2, pz3]
    refine tu 11 ?_
    try simp only [Act.put, pz1, pz2, pz3]
    refine tu 12 ?_
    try simp only [Act.put, pz1, pz2, pz3]
    refine tu 13 ?_
    try simp only [Act.put, pz1, pz2, pz3]
    refine tu 14 ?_
    try simp only [Act.put, pz1, pz2, pz3]
    refine tu 15 ?_
    try simp only [Act.put, pz1, pz2, pz3]
    refine tu 16 ?_
    try simp only [Act.put, pz1, pz2, pz3]
    refine tu 17 ?_
    try simp only [Act.put, pz1, pz2, pz3]
    refine tk 18 ?_; try simp only [Act.put, pz1, pz2, pz3]
    refine tk 19 ?_; try simp only [Act.put, pz1, pz2, pz3]
    refine wpAnyH_done (by kernel_rfl) ?_ _
    refine NoPanic.normal ?_
    go_wp2_with fail
    go_ret
    (first | exact ⟨rfl, HB0⟩ | exact ⟨rfl, HB0.drew⟩)
  by_cases h2 : y < b
  · have hr : thereB a b (k : Int) y = true := by
      unfold thereB withinB
      simp
      omega
    rw [hr]
    have d0 : 0 ≤ y := by omega
    clear hr
    go_enter Tryz.func73, Tryz.ntmps73
    go_upto_region 1 with fail
    refine wp_region_noPanic ?_
    refine wp_region_held_drew (S := (fun w' => w'.cell? ⟨w.heap.size, 0, none⟩ = some (.int .i64 (k : Int)) ∧ w'.cell? ⟨w.heap.size, 1, none⟩ = some (.int .i64 y) ∧ w'.cell? ⟨m, 1, none⟩ = some (.int .i64 b))) (by kernel_rfl) ?_ (fun hHeld => ?_)
    · (first | exact ⟨z0, z1, y1⟩ | assumption)
    refine tk 0 ?_; try simp only [Act.put, pz1, pz2, pz3]
    refine tk 1 ?_; try simp only [Act.put, pz1, pz2, pz3]
    refine tk 2 ?_; try simp only [Act.put, pz1, pz2, pz3]
    refine wpAnyH_ready (rs := [3]) (by kernel_rfl) (by simp) ?_
    refine AllReadyH.cons (o := ⟨some 8, .call { callee := .value (.func 82), args := #[.tmp 5, .tmp 7], argTypes := #[27, 3] }, 4, "chip.go:72", #[⟨0, .data⟩, ⟨2, .data⟩], none⟩) rfl (fun K hK => ?_) AllReadyH.nil
    go_simp
    (go_at_call 82; ((with_reducible refine (hasBlock_b _ _ _ _ _ _ _ _ _ _ _ _ _ _ _ _ (by first | exact hC | exact ChipW.drew hC) hib).mono ?_); rintro e' wN ⟨rfl, rfl⟩; skip))
    go_wp2_with fail
    refine hK.out _ _ ?_ (fun hNew => ?_)
    · (first | exact ⟨z0, z1, y1⟩ | assumption)
    clear hK K hHeld
    have hHeld := hNew
    clear hNew
    try simp only [Act.put, pz1, pz2, pz3]
    refine tk 4 ?_; try simp only [Act.put, pz1, pz2, pz3]
    refine tk 5 ?_; try simp only [Act.put, pz1, pz2, pz3]
    refine tk 6 ?_; try simp only [Act.put, pz1, pz2, pz3]
    refine tk 7 ?_; try simp only [Act.put, pz1, pz2, pz3]
    refine tk 8 ?_; try simp only [Act.put, pz1, pz2, pz3]
    refine tk 9 ?_; try simp only [Act.put, pz1, pz2, pz3]
    refine tk 10 ?_; try simp only [Act.put, pz1, pz2, pz3]
    refine tk 11 ?_; try simp only [Act.put, pz1, pz2, pz3]
    refine tk 12 ?_; try simp only [Act.put, pz1, pz2, pz3]
    refine tk 13 ?_; try simp only [Act.put, pz1, pz2, pz3]
    refine tk 14 ?_; try simp only [Act.put, pz1, pz2, pz3]
    refine tk 15 ?_; try simp only [Act.put, pz1, pz2, pz3]
    refine tk 16 ?_; try simp only [Act.put, pz1, pz2, pz3]
    refine tk 17 ?_; try simp only [Act.put, pz1, pz2, pz3]
    refine tk 18 ?_; try simp only [Act.put, pz1, pz2, pz3]
    refine tk 19 ?_; try simp only [Act.put, pz1, pz2, pz3]
    refine wpAnyH_done (by kernel_rfl) ?_ _
    refine NoPanic.normal ?_
    go_wp2_with fail
    go_ret
    (first | exact ⟨rfl, HB0⟩ | exact ⟨rfl, HB0.drew⟩)
  · have hr : thereB a b (k : Int) y = false := by
      cases ht : thereB a b (k : Int) y
      · rfl
      · have := there_bd ht
        omega
    rw [hr]
    have d0 : 0 ≤ y := by omega
    have d1 : decide (y < b) = false := decide_eq_false h2
    clear hr
    go_enter Tryz.func73, Tryz.ntmps73
    go_upto_region 1 with fail
    refine wp_region_noPanic ?_
    refine wp_region_held_drew (S := (fun w' => w'.cell? ⟨w.heap.size, 0, none⟩ = some (.int .i64 (k : Int)) ∧ w'.cell? ⟨w.heap.size, 1, none⟩ = some (.int .i64 y) ∧ w'.cell? ⟨m, 1, none⟩ = some (.int .i64 b))) (by kernel_rfl) ?_ (fun hHeld => ?_)
    · (first | exact ⟨z0, z1, y1⟩ | assumption)
    refine tk 0 ?_; try simp only [Act.put, pz1, pz2, pz3]
    refine tk 1 ?_; try simp only [Act.put, pz1, pz2, pz3]
    refine tk 2 ?_; try simp only [Act.put, pz1, pz2, pz3]
    refine wpAnyH_ready (rs := [3]) (by kernel_rfl) (by simp) ?_
    refine AllReadyH.cons (o := ⟨some 8, .call { callee := .value (.func 82), args := #[.tmp 5, .tmp 7], argTypes := #[27, 3] }, 4, "chip.go:72", #[⟨0, .data⟩, ⟨2, .data⟩], none⟩) rfl (fun K hK => ?_) AllReadyH.nil
    go_simp
    (go_at_call 82; ((with_reducible refine (hasBlock_b _ _ _ _ _ _ _ _ _ _ _ _ _ _ _ _ (by first | exact hC | exact ChipW.drew hC) hib).mono ?_); rintro e' wN ⟨rfl, rfl⟩; skip))
    go_wp2_with fail
    refine hK.out _ _ ?_ (fun hNew => ?_)
    · (first | exact ⟨z0, z1, y1⟩ | assumption)
    clear hK K hHeld
    have hHeld := hNew
    clear hNew
    try simp only [Act.put, pz1, pz2, pz3]
    refine tk 4 ?_; try simp only [Act.put, pz1, pz2, pz3]
    refine tk 5 ?_; try simp only [Act.put, pz1, pz2, pz3]
    refine tk 6 ?_; try simp only [Act.put, pz1, pz2, pz3]
    refine tk 7 ?_; try simp only [Act.put, pz1, pz2, pz3]
    refine tk 8 ?_; try simp only [Act.put, pz1, pz2, pz3]
    refine tk 9 ?_; try simp only [Act.put, pz1, pz2, pz3]
    refine tk 10 ?_; try simp only [Act.put, pz1, pz2, pz3]
    refine tk 11 ?_; try simp only [Act.put, pz1, pz2, pz3]
    refine tk 12 ?_; try simp only [Act.put, pz1, pz2, pz3]
    refine tk 13 ?_; try simp only [Act.put, pz1, pz2, pz3]
    refine tk 14 ?_; try simp only [Act.put, pz1, pz2, pz3]
    refine tk 15 ?_; try simp only [Act.put, pz1, pz2, pz3]
    refine tk 16 ?_; try simp only [Act.put, pz1, pz2, pz3]
    refine tk 17 ?_; try simp only [Act.put, pz1, pz2, pz3]
    refine tk 18 ?_; try simp only [Act.put, pz1, pz2, pz3]
    refine tk 19 ?_; try simp only [Act.put, pz1, pz2, pz3]
    refine wpAnyH_done (by kernel_rfl) ?_ _
    refine NoPanic.normal ?_
    go_wp2_with fail
    go_ret
    (first | exact ⟨rfl, HB0⟩ | exact ⟨rfl, HB0.drew⟩)
theorem hasPage_b (m gx gb : Nat) (Af : Option Addr) (nf cf : Nat) (a b c d e : Int) (fs : List Flt) (x y : Int) (T : Bool) (w : World) (s : ChS) (hC : ChipW w m gx gb Af nf cf a b c d e fs s) (ht : Hid (thereB a b x y = T)) : Calls Tryz.prog 73 #[.pointer (some ⟨m, 0, none⟩), .agg #[.int .i64 x, .int .i64 y]] w fun e' w' => e' = .returned (.bool T) ∧ Below w.heap.size w w' := by
  have := hasPage_any m gx gb Af nf cf a b c d e fs x y w s hC
  rwa [ht.out] at this
theorem chB_x {m gx gb : Nat} : chB m gx gb gx := Or.inr (Or.inl rfl)
theorem chB_b {m gx gb : Nat} : chB m gx gb gb := Or.inr (Or.inr rfl)
theorem ChipW.put {w w' : World} {m gx gb : Nat} {Af : Option Addr} {nf cf : Nat} {a b c d e : Int} {fs : List Flt} {s : ChS} (hC : ChipW w m gx gb Af nf cf a b c d e fs s) (s' : ChS) {cx cb NX NB : Nat} (hX : s.X.length = NX) (hN : (NB : Int) = a) (hcx : NX ≤ cx) (hB : Blk w' m 81 #[.int .i64 a, .int .i64 b, .int .i64 c, .int .i64 d, .int .i64 e, .slice Af nf cf, .slice (some ⟨gx, 0, none⟩) NX cx, .slice (some ⟨gb, 0, none⟩) NB cb, .int .i64 (s').ops, .int .i64 (s').cuts, .bool (s').on, .bool (s').armed, .int .i64 (s').turn, .int .i64 (s').cop, .int .i64 (s').cby, .int .u8 ((s').fill : Nat)]) (hT : Tch (fun g => g = m) w w') (h1 : s'.X = s.X) (h2 : s'.K = s.K) : ChipW w' m gx gb Af nf cf a b c d e fs s' := by
  obtain ⟨_, rX, rK, rF, n1, n2, n3, l1, l2, l3, l4⟩ := hC
  refine ⟨⟨cx, cb, NX, NB, by rw [h1]; exact hX, hN, hcx, hB⟩, ?_, ?_, rF.keep hT.size (fun g hg g1 g2 g3 => hT.far g hg g1), n1, n2, n3, by rw [h1]; exact l1, by rw [h2]; exact l2, l3, l4⟩
  · rw [h1]
    exact rX.keep (hT.far _ rX.lt (fun e => n1 e.symm))
  · rw [h2]
    exact rK.keep (hT.far _ rK.lt (fun e => n2 e.symm))
theorem Tch.setm (w : World) (g i : Nat) (u : Value) : Tch (fun h => h = g) w (w.setCell ⟨g, i, none⟩ u) := Tch.set w ⟨g, i, none⟩ u rfl
theorem tch_m {m gx gb : Nat} {w w' : World} (h : Tch (fun g => g = m) w w') : Tch (chB m gx gb) w w' := h.mono (fun g e => Or.inl e)
theorem begin_any (m gx gb : Nat) (Af : Option Addr) (nf cf : Nat) (a b c d e : Int) (fs : List Flt) (n : Int) (w : World) (s : ChS) (hC : ChipW w m gx gb Af nf cf a b c d e fs s) (hb : s.Bnd n) (hn : n ≤ 1000000000) : Calls Tryz.prog 74 #[.pointer (some ⟨m, 0, none⟩)] w fun e' w' => e' = .returned (.bool s.cutB) ∧ ChipW w' m gx gb Af nf cf a b c d e fs s.tick ∧ Tch (chB m gx gb) w w' := by
  obtain ⟨o0, o1, c0, c1, -, -⟩ := hb
  obtain ⟨HC⟩ : Nonempty (Hid (ChipW w m gx gb Af nf cf a b c d e fs s)) := ⟨Lib.hid hC⟩
  obtain ⟨⟨cx, cb, NX, NB, hX, hN, hcx, hB⟩, rX, rK, rF, n1, n2, n3, l1, l2, l3, l4⟩ := hC
  have H1 := Lib.hid hX
  have H2 := Lib.hid hN
  clear hX hN rX rK rF l1 l2 l3 l4
  rcases (by cases s.armed <;> simp : s.armed = false ∨ s.armed = true) with ha | ha
  · have hcut : s.cutB = false := by simp [ChS.cutB, ha]
    have htick : s.tick = { s with ops := s.ops + 1 } := by simp [ChS.tick, hcut]
    rw [hcut, htick]
    rw [ha] at hB
    have HA := Lib.hid ha
    clear ha hcut htick
    have Q1 := hB.set_ 8 (.int .i64 (s.ops + 1))
    simp at Q1
    have k8 := Q1.cell_ 8; have k9 := Q1.cell_ 9; have k10 := Q1.cell_ 10; have k11 := Q1.cell_ 11; have k12 := Q1.cell_ 12; simp at k8 k9 k10 k11 k12
    have y8 := hB.cell_ 8; simp at y8
    have fm := hB.free
    have fq := Q1.free
    have HB := Lib.hid hB
    have HQ1 := Lib.hid Q1
    clear Q1 hB
    go_enter Tryz.func74, Tryz.ntmps74
    go_upto_region 2 with fail
    refine wp_region_noPanic ?_
    refine wp_region_held_drew (S := (fun w' => w'.cell? ⟨m, 8, none⟩ = some (.int .i64 (s.ops + 1)) ∧ w'.cell? ⟨m, 11, none⟩ = some (.bool false) ∧ w'.cell? ⟨m, 12, none⟩ = some (.int .i64 s.turn))) (by kernel_rfl) ?_ (fun hHeld => ?_)
    · (first | exact ⟨k8, k11, k12⟩ | assumption)
    refine tk 0 ?_; try simp only [Act.put, pz1, pz2, pz3]
    refine tk 1 ?_; try simp only [Act.put, pz1, pz2, pz3]
    refine tk 2 ?_; try simp only [Act.put, pz1, pz2, pz3]
    refine tk 3 ?_; try simp only [Act.put, pz1, pz2, pz3]
    refine tk 4 ?_; try simp only [Act.put, pz1, pz2, pz3]
    refine tk 5 ?_; try simp only [Act.put, pz1, pz2, pz3]
    refine tu 6 ?_
    try simp only [Act.put, pz1, pz2, pz3]
    refine tu 7 ?_
    try simp only [Act.put, pz1, pz2, pz3]
    refine tu 8 ?_
    try simp only [Act.put, pz1, pz2, pz3]
    refine tu 9 ?_
    try simp only [Act.put, pz1, pz2, pz3]
    refine tu 10 ?_
    try simp only [Act.put, pz1, pz2, pz3]
    refine tu 11 ?_
    try simp only [Act.put, pz1, pz2, pz3]
    refine tu 12 ?_
    try simp only [Act.put, pz1, pz2, pz3]
    refine tu 13 ?_
    try simp only [Act.put, pz1, pz2, pz3]
    refine tu 14 ?_
    try simp only [Act.put, pz1, pz2, pz3]
    refine tk 15 ?_; try simp only [Act.put, pz1, pz2, pz3]
    refine wpAnyH_done (by kernel_rfl) ?_ _
    refine NoPanic.normal ?_
    go_wp2_with fail
    go_ret
    exact ⟨rfl, HC.out.put { s with ops := s.ops + 1 } H1.out H2.out hcx (by rw [show ({ s with ops := s.ops + 1 } : ChS).armed = false from HA.out]; exact HQ1.out) ((Tch.setm w m 8 (.int .i64 (s.ops + 1))).like) rfl rfl, tch_m ((Tch.setm w m 8 (.int .i64 (s.ops + 1))).like)⟩
  by_cases ht : s.ops + 1 = s.turn
  · have hcut : s.cutB = true := by simp [ChS.cutB, ha, ht]
    have htick : s.tick = { s with ops := s.ops + 1, armed := false, on := false, cuts := s.cuts + 1 } := by simp [ChS.tick, hcut]
    rw [hcut, htick]
    rw [ha] at hB
    have hte : (s.ops + 1 != s.turn) = false := by simp [ht]
    clear ha hcut htick ht
    have Q1 := hB.set_ 8 (.int .i64 (s.ops + 1))
    simp at Q1
    have k8 := Q1.cell_ 8; have k9 := Q1.cell_ 9; have k10 := Q1.cell_ 10; have k11 := Q1.cell_ 11; have k12 := Q1.cell_ 12; simp at k8 k9 k10 k11 k12
    have y8 := hB.cell_ 8; simp at y8
    have fm := hB.free
    have fq := Q1.free
    have HB := Lib.hid hB
    have HQ1 := Lib.hid Q1
    have Q2 := Q1.set_ 11 (.bool false)
    have Q3 := Q2.set_ 10 (.bool false)
    have Q4 := Q3.set_ 9 (.int .i64 (s.cuts + 1))
    simp at Q2 Q3 Q4
    have HQF := Lib.hid Q4
    have j2_9 := Q2.cell_ 9; simp at j2_9
    have fq2 := Q2.free
    have j3_9 := Q3.cell_ 9; simp at j3_9
    have fq3 := Q3.free
    clear Q2 Q3 Q4
    clear Q1 hB
    go_enter Tryz.func74, Tryz.ntmps74
    go_upto_region 2 with fail
    refine wp_region_noPanic ?_
    refine wp_region_held_drew (S := (fun w' => w'.cell? ⟨m, 8, none⟩ = some (.int .i64 (s.ops + 1)) ∧ w'.cell? ⟨m, 11, none⟩ = some (.bool true) ∧ w'.cell? ⟨m, 12, none⟩ = some (.int .i64 s.turn))) (by kernel_rfl) ?_ (fun hHeld => ?_)
    · (first | exact ⟨k8, k11, k12⟩ | assumption)
    refine tk 0 ?_; try simp only [Act.put, pz1, pz2, pz3]
    refine tk 1 ?_; try simp only [Act.put, pz1, pz2, pz3]
    refine tk 2 ?_; try simp only [Act.put, pz1, pz2, pz3]
    refine tk 3 ?_; try simp only [Act.put, pz1, pz2, pz3]
    refine tk 4 ?_; try simp only [Act.put, pz1, pz2, pz3]
    refine tk 5 ?_; try simp only [Act.put, pz1, pz2, pz3]
    refine tk 6 ?_; try simp only [Act.put, pz1, pz2, pz3]
    refine tk 7 ?_; try simp only [Act.put, pz1, pz2, pz3]
    refine tk 8 ?_; try simp only [Act.put, pz1, pz2, pz3]
    refine tk 9 ?_; try simp only [Act.put, pz1, pz2, pz3]
    refine tk 10 ?_; try simp only [Act.put, pz1, pz2, pz3]
    refine tk 11 ?_; try simp only [Act.put, pz1, pz2, pz3]
    refine tk 12 ?_; try simp only [Act.put, pz1, pz2, pz3]
    refine tk 13 ?_; try simp only [Act.put, pz1, pz2, pz3]
    refine tk 14 ?_; try simp only [Act.put, pz1, pz2, pz3]
    refine tk 15 ?_; try simp only [Act.put, pz1, pz2, pz3]
    refine wpAnyH_done (by kernel_rfl) ?_ _
    refine NoPanic.normal ?_
    go_wp2_with fail
    go_ret
    refine ⟨rfl, HC.out.put { s with ops := s.ops + 1, armed := false, on := false, cuts := s.cuts + 1 } H1.out H2.out hcx HQF.out ?_ rfl rfl, tch_m ?_⟩
    all_goals exact ((((Tch.setm w m 8 (.int .i64 (s.ops + 1))).trans (Tch.setm _ m 11 (.bool false))).trans (Tch.setm _ m 10 (.bool false))).trans (Tch.setm _ m 9 (.int .i64 (s.cuts + 1)))).like
  · have hcut : s.cutB = false := by simp [ChS.cutB, ht]
    have htick : s.tick = { s with ops := s.ops + 1 } := by simp [ChS.tick, hcut]
    rw [hcut, htick]
    rw [ha] at hB
    have hte : (s.ops + 1 != s.turn) = true := by simp [ht]
    have HA := Lib.hid ha
    clear ha hcut htick ht
    have Q1 := hB.set_ 8 (.int .i64 (s.ops + 1))
    simp at Q1
    have k8 := Q1.cell_ 8; have k9 := Q1.cell_ 9; have k10 := Q1.cell_ 10; have k11 := Q1.cell_ 11; have k12 := Q1.cell_ 12; simp at k8 k9 k10 k11 k12
    have y8 := hB.cell_ 8; simp at y8
    have fm := hB.free
    have fq := Q1.free
    have HB := Lib.hid hB
    have HQ1 := Lib.hid Q1
    clear Q1 hB
    go_enter Tryz.func74, Tryz.ntmps74
    go_upto_region 2 with fail
    refine wp_region_noPanic ?_
    refine wp_region_held_drew (S := (fun w' => w'.cell? ⟨m, 8, none⟩ = some (.int .i64 (s.ops + 1)) ∧ w'.cell? ⟨m, 11, none⟩ = some (.bool true) ∧ w'.cell? ⟨m, 12, none⟩ = some (.int .i64 s.turn))) (by kernel_rfl) ?_ (fun hHeld => ?_)
    · (first | exact ⟨k8, k11, k12⟩ | assumption)
    refine tk 0 ?_; try simp only [Act.put, pz1, pz2, pz3]
    refine tk 1 ?_; try simp only [Act.put, pz1, pz2, pz3]
    refine tk 2 ?_; try simp only [Act.put, pz1, pz2, pz3]
    refine tk 3 ?_; try simp only [Act.put, pz1, pz2, pz3]
    refine tk 4 ?_; try simp only [Act.put, pz1, pz2, pz3]
    refine tk 5 ?_; try simp only [Act.put, pz1, pz2, pz3]
    refine tk 6 ?_; try simp only [Act.put, pz1, pz2, pz3]
    refine tk 7 ?_; try simp only [Act.put, pz1, pz2, pz3]
    refine tk 8 ?_; try simp only [Act.put, pz1, pz2, pz3]
    refine tk 9 ?_; try simp only [Act.put, pz1, pz2, pz3]
    refine tk 10 ?_; try simp only [Act.put, pz1, pz2, pz3]
    refine tk 11 ?_; try simp only [Act.put, pz1, pz2, pz3]
    refine tk 12 ?_; try simp only [Act.put, pz1, pz2, pz3]
    refine tk 13 ?_; try simp only [Act.put, pz1, pz2, pz3]
    refine tk 14 ?_; try simp only [Act.put, pz1, pz2, pz3]
    refine tk 15 ?_; try simp only [Act.put, pz1, pz2, pz3]
    refine wpAnyH_done (by kernel_rfl) ?_ _
    refine NoPanic.normal ?_
    go_wp2_with fail
    go_ret
    exact ⟨rfl, HC.out.put { s with ops := s.ops + 1 } H1.out H2.out hcx (by rw [show ({ s with ops := s.ops + 1 } : ChS).armed = true from HA.out]; exact HQ1.out) ((Tch.setm w m 8 (.int .i64 (s.ops + 1))).like) rfl rfl, tch_m ((Tch.setm w m 8 (.int .i64 (s.ops + 1))).like)⟩
end Go.Proofs.YtkpcohfdcilfcaaGreat
namespace Go.Proofs.YtkpcohfdcilfcaaGreat
def whoI (A : List Int) (n : Int) : Int := if n ∈ A then (A.idxOf n : Int) else -1
theorem whoI_cases (A : List Int) (n : Int) : (whoI A n = -1 ∧ ∀ p, p < A.length → A.getD p (-1) ≠ n) ∨ ∃ p, p < A.length ∧ whoI A n = (p : Int) ∧ A.getD p (-1) = n := by
  unfold whoI
  by_cases h : n ∈ A
  · right
    have hl := List.idxOf_lt_length_of_mem h
    refine ⟨A.idxOf n, hl, by simp [h], ?_⟩
    rw [List.getD_eq_getElem?_getD, List.getElem?_eq_getElem hl]
    simp
  · left
    refine ⟨by simp [h], fun p hp he => h ?_⟩
    rw [List.getD_eq_getElem?_getD, List.getElem?_eq_getElem hp] at he
    simp at he
    rw [← he]
    exact List.getElem_mem hp
structure InvM (N : Nat) (A W : List Int) : Prop where
  len : W.length = N
  rng : ∀ p, p < A.length → -1 ≤ A.getD p (-1) ∧ A.getD p (-1) < (N : Int)
  inj : ∀ p q, p < A.length → q < A.length → A.getD p (-1) = A.getD q (-1) → 0 ≤ A.getD p (-1) → p = q
  who : ∀ n, n < N → W.getD n (-1) = whoI A (n : Int)
theorem who_at {N : Nat} {A W : List Int} (h : InvM N A W) {p : Nat} (hp : p < A.length) {n : Int} (hn : 0 ≤ n) (he : A.getD p (-1) = n) : whoI A n = (p : Int) := by
  rcases whoI_cases A n with ⟨_, h2⟩ | ⟨q, hq, h2, h3⟩
  · exact absurd he (h2 p hp)
  · rw [h2, h.inj p q hp hq (by rw [he, h3]) (by rw [he]; exact hn)]
theorem who_none {A : List Int} {n : Int} (h : ∀ p, p < A.length → A.getD p (-1) ≠ n) : whoI A n = -1 := by
  rcases whoI_cases A n with ⟨h2, _⟩ | ⟨q, hq, _, h3⟩
  · exact h2
  · exact absurd h3 (h q hq)
theorem getD_set (A : List Int) (p q : Nat) (v d : Int) : (A.set p v).getD q d = if p = q ∧ p < A.length then v else A.getD q d := by
  rw [List.getD_eq_getElem?_getD, List.getD_eq_getElem?_getD, List.getElem?_set]
  by_cases h : p = q
  · subst h
    by_cases h2 : p < A.length
    · simp [h2]
    · simp [h2]
  · simp [h]
theorem InvM.start (N L : Nat) : InvM N (List.replicate L (-1)) (List.replicate N (-1)) := by
  have hd : ∀ (L p : Nat), (List.replicate L (-1 : Int)).getD p (-1) = -1 := by
    intro L p
    rw [List.getD_eq_getElem?_getD, List.getElem?_replicate]
    split <;> rfl
  refine ⟨by simp, fun p _ => by rw [hd]; omega, fun p q _ _ _ h => by rw [hd] at h; omega, fun n _ => ?_⟩
  rw [hd, who_none]
  intro p _
  rw [hd]
  omega
theorem InvM.drop {N : Nat} {A W : List Int} (h : InvM N A W) {p n : Nat} (hp : p < A.length) (hn : n < N) (he : A.getD p (-1) = (n : Int)) : InvM N (A.set p (-1)) (W.set n (-1)) := by
  have hA : ∀ q, (A.set p (-1)).getD q (-1) = if p = q then -1 else A.getD q (-1) := by
    intro q
    rw [getD_set]
    simp [hp]
  refine ⟨by simp [h.len], fun q hq => ?_, fun q r hq hr h1 h2 => ?_, fun m hm => ?_⟩
  · rw [hA]
    split
    · omega
    · exact h.rng q (by simpa using hq)
  · rw [hA] at h1 h2
    rw [hA] at h1
    by_cases hpq : p = q
    · rw [if_pos hpq] at h2
      omega
    · rw [if_neg hpq] at h1 h2
      by_cases hpr : p = r
      · rw [if_pos hpr] at h1
        omega
      · rw [if_neg hpr] at h1
        exact h.inj q r (by simpa using hq) (by simpa using hr) h1 h2
  · rw [getD_set, h.len]
    by_cases hnm : n = m
    · rw [if_pos ⟨hnm, hn⟩, who_none]
      intro q hq
      rw [hA]
      by_cases hpq : p = q
      · rw [if_pos hpq]
        omega
      · rw [if_neg hpq]
        intro hx
        exact hpq (h.inj p q hp (by simpa using hq) (by rw [he, hx, hnm]) (by omega))
    · rw [if_neg (fun hx => hnm hx.1), h.who m hm]
      rcases whoI_cases A m with ⟨h2, h3⟩ | ⟨q, hq, h2, h3⟩
      · rw [h2, who_none]
        intro q hq
        rw [hA]
        split
        · omega
        · exact h3 q (by simpa using hq)
      · have hpq : p ≠ q := by
          intro hx
          rw [hx, h3] at he
          omega
        rw [h2]
        rcases whoI_cases (A.set p (-1)) m with ⟨_, h5⟩ | ⟨r, hr, h4, h5⟩
        · exact absurd (by rw [hA, if_neg hpq]; exact h3) (h5 q (by simpa using hq))
        · rw [h4]
          rw [hA] at h5
          by_cases hpr : p = r
          · rw [if_pos hpr] at h5
            omega
          · rw [if_neg hpr] at h5
            rw [h.inj q r hq (by simpa using hr) (by rw [h3, h5]) (by omega)]
theorem InvM.put {N : Nat} {A W : List Int} (h : InvM N A W) {p n : Nat} (hp : p < A.length) (hn : n < N) (he : A.getD p (-1) = -1) (hw : whoI A (n : Int) = -1) : InvM N (A.set p (n : Int)) (W.set n (p : Int)) := by
  have hA : ∀ q, (A.set p (n : Int)).getD q (-1) = if p = q then (n : Int) else A.getD q (-1) := by
    intro q
    rw [getD_set]
    simp [hp]
  have hno : ∀ q, q < A.length → A.getD q (-1) ≠ (n : Int) := by
    rcases whoI_cases A n with ⟨_, h3⟩ | ⟨q, hq, h2, _⟩
    · exact h3
    · omega
  have hinj : ∀ q r, q < A.length → r < A.length → (A.set p (n : Int)).getD q (-1) = (A.set p (n : Int)).getD r (-1) → 0 ≤ (A.set p (n : Int)).getD q (-1) → q = r := by
    intro q r hq hr h1 h2
    rw [hA, hA] at h1
    rw [hA] at h2
    by_cases hpq : p = q
    · by_cases hpr : p = r
      · omega
      · rw [if_pos hpq, if_neg hpr] at h1
        exact absurd h1.symm (hno r hr)
    · by_cases hpr : p = r
      · rw [if_neg hpq, if_pos hpr] at h1
        exact absurd h1 (hno q hq)
      · rw [if_neg hpq, if_neg hpr] at h1
        rw [if_neg hpq] at h2
        exact h.inj q r hq hr h1 h2
  refine ⟨by simp [h.len], fun q hq => ?_, fun q r hq hr => hinj q r (by simpa using hq) (by simpa using hr), fun m hm => ?_⟩
  · rw [hA]
    split
    · omega
    · exact h.rng q (by simpa using hq)
  · rw [getD_set, h.len]
    have hx : ∀ q, q < A.length → (A.set p (n : Int)).getD q (-1) = (m : Int) → whoI (A.set p (n : Int)) (m : Int) = (q : Int) := by
      intro q hq hqm
      rcases whoI_cases (A.set p (n : Int)) m with ⟨_, h5⟩ | ⟨r, hr, h4, h5⟩
      · exact absurd hqm (h5 q (by simpa using hq))
      · rw [h4, hinj q r hq (by simpa using hr) (by rw [hqm, h5]) (by omega)]
    by_cases hnm : n = m
    · rw [if_pos ⟨hnm, hn⟩, hx p hp (by rw [hA, if_pos rfl, hnm])]
    · rw [if_neg (fun hx => hnm hx.1), h.who m hm]
      rcases whoI_cases A m with ⟨h2, h3⟩ | ⟨q, hq, h2, h3⟩
      · rw [h2, who_none]
        intro q hq
        rw [hA]
        split
        · omega
        · exact h3 q (by simpa using hq)
      · have hpq : p ≠ q := by
          intro hx
          rw [hx, h3] at he
          omega
        rw [h2, hx q hq (by rw [hA, if_neg hpq]; exact h3)]
theorem set_set (A : List Int) (p : Nat) (u v : Int) : (A.set p u).set p v = A.set p v := by simp
def hasB (A : List Int) (p : Int) : Bool := decide (0 ≤ p) && decide (p < (A.length : Int)) && decide (A.getD p.toNat (-1) ≠ -1)
def dropL (A : List Int) (p : Int) : List Int := if hasB A p then A.set p.toNat (-1) else A
def putB (a b : Int) (A : List Int) (p x y : Int) : Bool := decide (0 ≤ p) && decide (p < (A.length : Int)) && thereB a b x y && (decide (whoI A (x * b + y) = -1) || decide (whoI A (x * b + y) = p))
def putL (a b : Int) (A : List Int) (p x y : Int) : List Int := if putB a b A p x y then A.set p.toNat (x * b + y) else A
theorem putL_len (a b : Int) (A : List Int) (p x y : Int) : (putL a b A p x y).length = A.length := by
  unfold putL
  split <;> simp
theorem num_bd {a b x y : Int} (h : thereB a b x y = true) (hb : 0 ≤ b) : 0 ≤ x * b + y ∧ x * b + y < a * b := by
  obtain ⟨h1, h2, h3, h4⟩ := there_bd h
  refine ⟨by have := Int.mul_nonneg h1 hb; omega, ?_⟩
  have h5 : x * b ≤ (a - 1) * b := Int.mul_le_mul_of_nonneg_right h2 hb
  rw [Int.sub_mul] at h5
  omega
end Go.Proofs.YtkpcohfdcilfcaaGreat
namespace Go.Proofs.YtkpcohfdcilfcaaGreat
open Go.ChangeShapes Go.WideShapes Go.ChangeAt Go.RowKit Go.Deep
def SlA (w : World) (A : Option Addr) (n c : Nat) (vs : List Value) : Prop := n = vs.length ∧ Sl w w.heap.size A vs ∧ n ≤ c ∧ c ≤ maxLen ∧ (A = none → n = 0 ∧ c = 0)
section
variable {H : Type} {enc : TypeId × Value → H} {P : Program} {w : World} {base : Nat} {spare : Nat → Bool} {held : Bool}
theorem slice_value2 {r : Reach} {b0 : Nat} {t e : TypeId} {v : Value} {d : DataW H} {p : List MemPlace} (ht : P.underlying t = some (.slice e)) (hC : P.cellsOf e = 1)
    (hv : Value.okWide P w r b0 t v) (h : DataW.Trod enc P w base spare held t v d p) :
    ∃ (A : Option Addr) (n c : Nat) (vs : List Value), v = .slice A n c ∧ SlA w A n c vs ∧ ∀ u ∈ vs, ∃ (k : Nat) (y : DataW H × List MemPlace), DataW.trod enc P w base spare held k e [u] = some y := by
  obtain ⟨a0, len, cap, rfl⟩ := okWide_slice ht hv
  obtain ⟨fuel, hf⟩ := h
  rcases open_slice ht hf with ⟨hcs, _⟩ | ⟨a, len', cap', m, k, D, Pl, hcs, _, hl, hml, hm, _, hi⟩
  · simp [Value.cells] at hcs
    obtain ⟨rfl, rfl, rfl⟩ := hcs
    exact ⟨none, 0, 0, [], rfl, ⟨rfl, Or.inl rfl, by omega, by unfold maxLen; omega, fun _ => ⟨rfl, rfl⟩⟩, by simp⟩
  · simp [Value.cells] at hcs
    obtain ⟨rfl, rfl, rfl⟩ := hcs
    have hlm : len ≤ m := by rw [hm]; split <;> omega
    have key : ∀ i, i < len → ∃ u y, w.cell? (a.add i) = some u ∧ DataW.trod enc P w base spare held k e [u] = some y := by
      intro i hlt
      obtain ⟨cs', hc, hy⟩ := hi i (by omega)
      rw [hC, Nat.mul_one] at hc
      obtain ⟨_, hl1, hat⟩ := World.cells?_some hc
      match cs', hl1 with
      | [u], _ =>
        have h0 := hat 0 (by omega)
        have e0 : (a.add i).add 0 = a.add i := by simp [Addr.add]
        rw [e0] at h0
        exact ⟨u, _, by simpa using h0, hy⟩
    rcases Nat.eq_zero_or_pos len with h0 | h0
    · subst h0
      exact ⟨some a, 0, cap, [], rfl, ⟨rfl, Or.inl rfl, hl, hml, by simp⟩, by simp⟩
    · obtain ⟨b, off, spot⟩ := a
      obtain ⟨u0, _, hu0, _⟩ := key 0 h0
      have hsp : spot = none := by simpa [Addr.add] using World.cell?_spot hu0
      subst hsp
      have hb : b < w.heap.size := by simpa [Addr.add] using World.block_lt_of_cell? _ _ hu0
      refine ⟨some ⟨b, off, none⟩, len, cap, (List.range len).map fun i => (w.cell? (Addr.add ⟨b, off, none⟩ i)).getD default, rfl, ⟨by simp, ?_, hl, hml, by simp⟩, ?_⟩
      · right
        refine ⟨b, off, rfl, hb, fun i v hv => ?_⟩
        obtain ⟨hlt, rfl⟩ := List.getElem?_eq_some_iff.1 hv
        have hlt' : i < len := by simpa using hlt
        obtain ⟨u, _, hu, _⟩ := key i hlt'
        rw [add_plain] at hu
        simp [add_plain, hu]
      · intro u hu
        obtain ⟨i, hi', rfl⟩ := List.mem_map.1 hu
        obtain ⟨u, y, hc, hy⟩ := key i (by simpa using hi')
        rw [hc]
        exact ⟨k, y, hy⟩
theorem nat_of_wf {k : IntKind} {z : Int} (hk : k.signed = false) (h : (Lit.int k z).wf = true) : 0 ≤ z ∧ z < 2 ^ k.bits := by
  simp only [Lit.wf, Bool.and_eq_true, decide_eq_true_eq] at h
  cases k <;> simp_all [IntKind.min, IntKind.max, IntKind.signed, IntKind.bits] <;> omega
theorem nats_value {k : IntKind} (hk : k.signed = false) {r : Reach} {b0 : Nat} {t e : TypeId} {v : Value} {d : DataW H} {p : List MemPlace} (ht : P.underlying t = some (.slice e)) (he : P.underlying e = some (.int k)) (hC : P.cellsOf e = 1)
    (hv : Value.okWide P w r b0 t v) (h : DataW.Trod enc P w base spare held t v d p) :
    ∃ (A : Option Addr) (n c : Nat) (zs : List Nat), v = .slice A n c ∧ SlA w A n c (zs.map fun (z : Nat) => Value.int k (z : Int)) ∧ ∀ z ∈ zs, z < 2 ^ k.bits := by
  obtain ⟨A, n, c, vs, rfl, hs, hu⟩ := slice_value2 ht hC hv h
  have key : ∀ u ∈ vs, ∃ z : Nat, u = .int k (z : Int) ∧ z < 2 ^ k.bits := by
    intro u hmem
    obtain ⟨f, y, hy⟩ := hu u hmem
    obtain ⟨z, hz, _, hw⟩ := DataW.trod_int he hy
    simp only [List.cons.injEq, and_true] at hz
    subst hz
    obtain ⟨h0, h1⟩ := nat_of_wf hk hw
    refine ⟨z.toNat, by rw [Int.toNat_of_nonneg h0], ?_⟩
    have : ((z.toNat : Nat) : Int) < 2 ^ k.bits := by rw [Int.toNat_of_nonneg h0]; exact h1
    exact_mod_cast this
  have hm : vs = (vs.map fun v => match v with | .int _ z => z.toNat | _ => 0).map (fun (z : Nat) => Value.int k (z : Int)) := by
    rw [List.map_map]
    refine (List.map_congr_left fun u hmem => ?_).trans (List.map_id vs) |>.symm
    obtain ⟨z, rfl, _⟩ := key u hmem
    simp
  refine ⟨A, n, c, vs.map fun v => match v with | .int _ z => z.toNat | _ => 0, rfl, by rw [← hm]; exact hs, ?_⟩
  intro z hz
  obtain ⟨u, hmem, rfl⟩ := List.mem_map.1 hz
  obtain ⟨z, rfl, hlt⟩ := key u hmem
  simpa using hlt
end
end Go.Proofs.YtkpcohfdcilfcaaGreat
