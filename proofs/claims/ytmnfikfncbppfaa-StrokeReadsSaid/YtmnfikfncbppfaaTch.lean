/- What a call turns: blocks of a set; all else that was there stays. Rows that begin with known values. -/
import Derived.Test.YtmnfikfncbppfaaSl
import Derived.Laws.CopyOwn
namespace Go.Proofs.Ytmnfikfncbppfaa
open Go.ChangeShapes Go.WideShapes Go.ChangeAt Go.RowKit
set_option linter.unusedSimpArgs false
set_option linter.unusedVariables false

structure Tch (S : Nat → Prop) (w w' : World) : Prop where
  size : w.heap.size ≤ w'.heap.size
  far : ∀ g, g < w.heap.size → ¬ S g → w'.heap[g]? = w.heap[g]?
  os : w'.os = w.os
  tape : w'.tape = w.tape
  output : w'.output = w.output
theorem Tch.refl {S : Nat → Prop} (w : World) : Tch S w w := ⟨Nat.le_refl _, fun _ _ _ => rfl, rfl, rfl, rfl⟩
theorem Tch.of_below {S : Nat → Prop} {w w' : World} (h : Below w.heap.size w w') : Tch S w w' := ⟨h.size, fun g hg _ => h.block g hg, h.os, h.tape, h.output⟩
theorem Tch.trans {S : Nat → Prop} {w w' w'' : World} (h : Tch S w w') (k : Tch S w' w'') : Tch S w w'' :=
  ⟨Nat.le_trans h.size k.size, fun g hg h1 => (k.far g (Nat.lt_of_lt_of_le hg h.size) h1).trans (h.far g hg h1), k.os.trans h.os, k.tape.trans h.tape, k.output.trans h.output⟩
theorem Tch.mono {S S' : Nat → Prop} {w w' : World} (h : Tch S w w') (hs : ∀ g, S g → S' g) : Tch S' w w' := ⟨h.size, fun g hg h1 => h.far g hg (fun h2 => h1 (hs g h2)), h.os, h.tape, h.output⟩
theorem Tch.monoL {S S' : Nat → Prop} {w w' : World} (h : Tch S w w') (hs : ∀ g, g < w.heap.size → S g → S' g) : Tch S' w w' := ⟨h.size, fun g hg h1 => h.far g hg (fun h2 => h1 (hs g hg h2)), h.os, h.tape, h.output⟩
theorem Tch.below {S : Nat → Prop} {w w' : World} (h : Tch S w w') {B : Nat} (hB : B ≤ w.heap.size) (hs : ∀ g, S g → B ≤ g) : Below B w w' :=
  ⟨h.os, h.tape, h.output, h.size, fun g hg => h.far g (Nat.lt_of_lt_of_le hg hB) (fun h1 => by have := hs g h1; omega)⟩
theorem Tch.then {S : Nat → Prop} {w w' w'' : World} (h : Tch S w w') (k : Below w'.heap.size w' w'') : Tch S w w'' := h.trans (.of_below k)
theorem Tch.set {S : Nat → Prop} (w : World) (p : Addr) (u : Value) (hp : S p.block) : Tch S w (w.setCell p u) := by
  have hb := (Below.refl (0 : Nat) w).setCell (p := p) (Nat.zero_le _) u
  exact ⟨hb.size, fun g _ h1 => Below.heap_setCell w p u g (fun e => h1 (e ▸ hp)), hb.os, hb.tape, hb.output⟩
theorem Tch.setRow {S : Nat → Prop} (w : World) (g : Nat) (cs : Array Value) (hp : S g) : Tch S w (w.setRow g cs) :=
  ⟨by simp [World.setRow], fun h hh h1 => setRow_other w g h cs (fun e => h1 (e ▸ hp)), rfl, rfl, rfl⟩
theorem Tch.grown {S : Nat → Prop} {w w' : World} {row : Option Nat} (hg : w.grownBy w' row) (hr : ∀ k, row = some k → S k) : Tch S w w' :=
  ⟨hg.size, fun g hl h1 => hg.block g hl (fun e => h1 (hr g e.symm)), hg.os, hg.tape, hg.output⟩
theorem Tch.like {S : Nat → Prop} {w w1 w2 : World} (h : Tch S w w1) (e1 : w2.heap = w1.heap := by rfl) (e2 : w2.os = w1.os := by rfl) (e3 : w2.tape = w1.tape := by rfl) (e4 : w2.output = w1.output := by rfl) : Tch S w w2 :=
  ⟨by rw [e1]; exact h.size, fun x hx h1 => by rw [e1]; exact h.far x hx h1, e2.trans h.os, e3.trans h.tape, e4.trans h.output⟩
theorem Tch.like0 {S : Nat → Prop} {w w0 w1 : World} (h : Tch S w w1) (e1 : w.heap = w0.heap := by rfl) (e2 : w.os = w0.os := by rfl) (e3 : w.tape = w0.tape := by rfl) (e4 : w.output = w0.output := by rfl) : Tch S w0 w1 :=
  ⟨by rw [← e1]; exact h.size, fun x hx h1 => by rw [← e1] at hx ⊢; exact h.far x hx h1, h.os.trans e2, h.tape.trans e3, h.output.trans e4⟩
theorem Tch.blk {S : Nat → Prop} {w w' : World} {g : Nat} {t : TypeId} {cs : Array Value} (hT : Tch S w w') (h : Blk w g t cs) (h1 : ¬ S g) : Blk w' g t cs := (hT.far _ h.lt h1).trans h
theorem Tch.sl {S : Nat → Prop} {w w' : World} {B : Nat} {A : Option Addr} {vs : List Value} (hT : Tch S w w') (h : Sl w B A vs) (hB : B ≤ w.heap.size) (h1 : ∀ g, g < B → ¬ S g) : Sl w' B A vs :=
  h.below ⟨hT.os, hT.tape, hT.output, hT.size, fun g hg => hT.far g (Nat.lt_of_lt_of_le hg hB) (h1 g hg)⟩

/-- A block that begins with these values. -/
def RowT (w : World) (g : Nat) (t : TypeId) (xs : List Value) : Prop := ∃ r : List Value, Blk w g t (xs ++ r).toArray
theorem RowT.cell_ {w : World} {g : Nat} {t : TypeId} {xs : List Value} (h : RowT w g t xs) {i : Nat} {v : Value} (hi : xs[i]? = some v) : w.cell? ⟨g, i, none⟩ = some v := by
  obtain ⟨r, h⟩ := h
  rw [h.cell_]
  simp only [List.getElem?_toArray]
  rw [List.getElem?_append_left (List.getElem?_eq_some_iff.1 hi).1, hi]
theorem RowT.free {w : World} {g : Nat} {t : TypeId} {xs : List Value} (h : RowT w g t xs) : ∀ i, w.frozen? ⟨g, i, none⟩ = false := by
  obtain ⟨r, h⟩ := h
  exact h.free
theorem RowT.lt {w : World} {g : Nat} {t : TypeId} {xs : List Value} (h : RowT w g t xs) : g < w.heap.size := by
  obtain ⟨r, h⟩ := h
  exact h.lt
theorem RowT.set_ {w : World} {g : Nat} {t : TypeId} {xs : List Value} (h : RowT w g t xs) {i : Nat} (hi : i < xs.length) (v : Value) : RowT (w.setCell ⟨g, i, none⟩ v) g t (xs.set i v) := by
  obtain ⟨r, h⟩ := h
  refine ⟨r, ?_⟩
  have := h.set_ i v
  rw [show ((xs ++ r).toArray.setIfInBounds i v) = (xs.set i v ++ r).toArray by
    rw [List.setIfInBounds_toArray, List.set_append_left _ _ hi]] at this
  exact this
theorem RowT.far {w : World} {g : Nat} {t : TypeId} {xs : List Value} (h : RowT w g t xs) {p : Addr} (hp : g ≠ p.block) (u : Value) : RowT (w.setCell p u) g t xs := by
  obtain ⟨r, h⟩ := h
  exact ⟨r, h.far hp u⟩
theorem RowT.keep {w w' : World} {g : Nat} {t : TypeId} {xs : List Value} (h : RowT w g t xs) (hb : w'.heap[g]? = w.heap[g]?) : RowT w' g t xs := by
  obtain ⟨r, h⟩ := h
  exact ⟨r, hb.trans h⟩
theorem RowT.below {w w' : World} {g : Nat} {t : TypeId} {xs : List Value} (h : RowT w g t xs) (hb : Below w.heap.size w w') : RowT w' g t xs := h.keep (hb.block _ h.lt)
theorem RowT.of_blk {w : World} {g : Nat} {t : TypeId} {xs : List Value} (h : Blk w g t xs.toArray) : RowT w g t xs := ⟨[], by simpa using h⟩
theorem RowT.own {w : World} {base : Nat} {t : TypeId} {g n c : Nat} {xs : List Value} (h : w.ownsRow base t 1 (.slice (some ⟨g, 0, none⟩) n c) n xs) : RowT w g t xs := by
  obtain ⟨hl, h⟩ := h
  rcases h with ⟨h0, _⟩ | ⟨g', cap, cur, hv, _, hh, hnc, _, hsz, ht⟩
  · cases h0
  · cases hv
    refine ⟨cur.toList.drop (n * 1), ?_⟩
    unfold Blk
    rw [← ht, List.take_append_drop]
    exact hh
end Go.Proofs.Ytmnfikfncbppfaa
