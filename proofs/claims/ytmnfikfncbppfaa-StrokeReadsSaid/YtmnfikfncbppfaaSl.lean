/- A slice of one-cell elements that reads as a list of values; nil and empty ones let in. -/
import Derived.Test.YtmnfikfncbppfaaChecked
import Derived.WalkKit
import Derived.ProofKit
import Derived.OpenShut
import Derived.WalkSpells
import Derived.WalkLawsBesides
import Derived.Lib.Hide
import Derived.IntWalk
import Derived.Outline
import Derived.Deep.QuietTactic
import Derived.BigQuiet
import Derived.Deep.Light
import Derived.Laws.AppendOwn
import Derived.Lib.SmallJoins
namespace Go.Proofs.Ytmnfikfncbppfaa
open Go.ChangeShapes Go.WideShapes Go.ChangeAt Go.RowKit

/-- The slice at A holds the values vs, in a block below B. -/
def Sl (w : World) (B : Nat) (A : Option Addr) (vs : List Value) : Prop :=
  vs = [] ∨ ∃ b off, A = some ⟨b, off, none⟩ ∧ b < B ∧ ∀ k v, vs[k]? = some v → w.cell? ⟨b, off + k, none⟩ = some v

theorem Sl.nil_ {w : World} {B : Nat} {A : Option Addr} : Sl w B A [] := Or.inl rfl
theorem Sl.at_ {w : World} {B : Nat} {A : Option Addr} {vs : List Value} (h : Sl w B A vs) (hn : 0 < vs.length) :
    ∃ b off, A = some ⟨b, off, none⟩ ∧ b < B ∧ ∀ k v, vs[k]? = some v → w.cell? ⟨b, off + k, none⟩ = some v := by
  rcases h with rfl | h
  · simp at hn
  · exact h
theorem Sl.below {w w' : World} {B : Nat} {A : Option Addr} {vs : List Value} (h : Sl w B A vs) (hb : Below B w w') : Sl w' B A vs := by
  rcases h with h | ⟨b, off, e, hlt, hc⟩
  · exact Or.inl h
  · exact Or.inr ⟨b, off, e, hlt, fun k v hv => (hb.cell (p := ⟨b, off + k, none⟩) hlt).trans (hc k v hv)⟩
theorem Sl.mono {w : World} {B B' : Nat} {A : Option Addr} {vs : List Value} (h : Sl w B A vs) (hB : B ≤ B') : Sl w B' A vs := by
  rcases h with h | ⟨b, off, e, hlt, hc⟩
  · exact Or.inl h
  · exact Or.inr ⟨b, off, e, by omega, hc⟩
theorem Sl.next {w w' : World} {A : Option Addr} {vs : List Value} (h : Sl w w.heap.size A vs) (hb : Below w.heap.size w w') : Sl w' w'.heap.size A vs := (h.below hb).mono hb.size
theorem Sl.alloc_ {w : World} {A : Option Addr} {vs : List Value} (h : Sl w w.heap.size A vs) (o : Obj) : Sl (w.alloc o) (w.alloc o).heap.size A vs := h.next ((Below.refl _ _).alloc (Nat.le_refl _) _)
theorem Sl.new_ (w : World) (t : TypeId) (vs : List Value) : Sl (w.alloc (.cells vs.toArray t)) (w.alloc (.cells vs.toArray t)).heap.size (some ⟨w.heap.size, 0, none⟩) vs := by
  right
  refine ⟨w.heap.size, 0, rfl, by simp, fun k v hk => ?_⟩
  rw [Joins.cell_of_block (heap_alloc_new w _)]
  simpa using hk

theorem Sl.of_own {w : World} {base : Nat} {e : TypeId} {A : Option Addr} {n c : Nat} {vs : List Value} (h : w.ownsRow base e 1 (.slice A n c) n vs) : Sl w w.heap.size A vs := by
  obtain ⟨hl, h⟩ := h
  rcases h with ⟨_, h0⟩ | ⟨g, cap, cur, hv, _, hh, hnc, _, hsz, ht⟩
  · left
    subst h0
    simpa using hl
  · have hA : A = some ⟨g, 0, none⟩ := by injection hv
    subst hA
    right
    have hlt : g < w.heap.size := by
      rcases Nat.lt_or_ge g w.heap.size with hx | hx
      · exact hx
      · rw [Array.getElem?_eq_none hx] at hh
        cases hh
    refine ⟨g, 0, rfl, hlt, fun k v hk => ?_⟩
    have hk' : k < n := by
      have := (List.getElem?_eq_some_iff.1 hk).1
      omega
    rw [← ht, List.getElem?_take_of_lt (by omega)] at hk
    rw [Joins.cell_of_block hh]
    simpa using hk

theorem bcell {W w1 : World} (hb : Below W.heap.size W w1) : (∀ b o, b < W.heap.size → w1.cell? ⟨b, o, none⟩ = W.cell? ⟨b, o, none⟩) ∧ (∀ b o, b < W.heap.size → w1.frozen? ⟨b, o, none⟩ = W.frozen? ⟨b, o, none⟩) :=
  ⟨fun b o h => hb.cell (p := ⟨b, o, none⟩) h, fun b o h => hb.frozen (p := ⟨b, o, none⟩) h⟩
theorem btr {B : Nat} {a b c : World} (h : Below B a b) (hB : B ≤ b.heap.size) (k : Below b.heap.size b c) : Below B a c := h.trans (k.mono hB)
theorem below1 {w w1 : World} {o : Obj} (hb : Below (w.alloc o).heap.size (w.alloc o) w1) : Below w.heap.size w w1 :=
  ((Below.refl _ _).alloc (Nat.le_refl _) _).trans (hb.mono (by simp))
theorem kept_step {w W w' w'' : World} (h : Below w.heap.size w w' ∧ W.heap.size ≤ w'.heap.size ∧ ∀ b o, b < W.heap.size → w'.cell? ⟨b, o, none⟩ = W.cell? ⟨b, o, none⟩) (hb : Below w'.heap.size w' w'') :
    Below w.heap.size w w'' ∧ W.heap.size ≤ w''.heap.size ∧ ∀ b o, b < W.heap.size → w''.cell? ⟨b, o, none⟩ = W.cell? ⟨b, o, none⟩ :=
  ⟨btr h.1 h.1.size hb, Nat.le_trans h.2.1 hb.size, fun b o hk => (hb.cell (p := ⟨b, o, none⟩) (Nat.lt_of_lt_of_le hk h.2.1)).trans (h.2.2 b o hk)⟩

/-- A block that is known whole. -/
def Blk (w : World) (g : Nat) (t : TypeId) (cs : Array Value) : Prop := w.heap[g]? = some (.cells cs t (0, 0))
theorem Blk.cell_ {w : World} {g : Nat} {t : TypeId} {cs : Array Value} (h : Blk w g t cs) (i : Nat) : w.cell? ⟨g, i, none⟩ = cs[i]? := by
  unfold Blk at h
  simp [World.cell?, h]
theorem Blk.free {w : World} {g : Nat} {t : TypeId} {cs : Array Value} (h : Blk w g t cs) : ∀ i, w.frozen? ⟨g, i, none⟩ = false := by
  unfold Blk at h
  intro i
  simp [World.frozen?, h]
theorem Blk.lt {w : World} {g : Nat} {t : TypeId} {cs : Array Value} (h : Blk w g t cs) : g < w.heap.size := by
  rcases Nat.lt_or_ge g w.heap.size with hl | hl
  · exact hl
  · unfold Blk at h
    rw [Array.getElem?_eq_none hl] at h
    cases h
theorem Blk.new_ (w : World) (t : TypeId) (cs : Array Value) : Blk (w.alloc (.cells cs t)) w.heap.size t cs := heap_alloc_new w _
theorem Blk.alloc_ {w : World} {g : Nat} {t : TypeId} {cs : Array Value} (h : Blk w g t cs) (o : Obj) : Blk (w.alloc o) g t cs := (Below.heap_alloc w o g h.lt).trans h
theorem Blk.set_ {w : World} {g : Nat} {t : TypeId} {cs : Array Value} (h : Blk w g t cs) (i : Nat) (u : Value) : Blk (w.setCell ⟨g, i, none⟩ u) g t (cs.setIfInBounds i u) := Joins.block_setCell h u
theorem Blk.far {w : World} {g : Nat} {t : TypeId} {cs : Array Value} (h : Blk w g t cs) {p : Addr} (hp : g ≠ p.block) (u : Value) : Blk (w.setCell p u) g t cs := (Below.heap_setCell w p u g hp).trans h
theorem Blk.below {w w' : World} {g B : Nat} {t : TypeId} {cs : Array Value} (h : Blk w g t cs) (hb : Below B w w') (hg : g < B) : Blk w' g t cs := (hb.block g hg).trans h
theorem Blk.drewN_ {w : World} {g : Nat} {t : TypeId} {cs : Array Value} (h : Blk w g t cs) (n : Nat) : Blk (w.drewN n) g t cs := h
theorem below_dn {B : Nat} {a w : World} (h : Below B a w) (n : Nat) : Below B a (w.drewN n) := ⟨h.os, h.tape, h.output, h.size, h.block⟩
end Go.Proofs.Ytmnfikfncbppfaa
