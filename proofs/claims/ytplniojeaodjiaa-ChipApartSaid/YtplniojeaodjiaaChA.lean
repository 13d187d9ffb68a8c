/- What a chip is in a world. -/
import Derived.Test.YtplniojeaodjiaaTch
import Derived.Test.YtplniojeaodjiaaPlanM
import Derived.Test.YtplniojeaodjiaaPlanA
import Derived.Test.YtplniojeaodjiaaKeptB
namespace Go.Proofs.Ytplniojeaodjiaa
open Go.ChangeShapes Go.WideShapes Go.ChangeAt Go.RowKit
set_option linter.unusedSimpArgs false
set_option linter.unusedVariables false

structure ChS where
  X : List Nat
  K : List Int
  ops : Int
  cuts : Int
  on : Bool
  armed : Bool
  turn : Int
  cop : Int
  cby : Int
  fill : Nat
def FltAt (w : World) (A : Option Addr) (fs : List Flt) (m gx gb : Nat) : Prop :=
  fs = [] ∨ ∃ g off, A = some ⟨g, off, none⟩ ∧ g < w.heap.size ∧ g ≠ m ∧ g ≠ gx ∧ g ≠ gb ∧ ∀ k f, fs[k]? = some f →
    w.cell? ⟨g, off + k * 3, none⟩ = some (.int .i64 f.blk) ∧ w.cell? ⟨g, off + k * 3 + 1, none⟩ = some (.bool f.fac) ∧ w.cell? ⟨g, off + k * 3 + 2, none⟩ = some (.int .i64 f.aft)
theorem FltAt.sl {w : World} {A : Option Addr} {fs : List Flt} {m gx gb : Nat} (h : FltAt w A fs m gx gb) : SlF w w.heap.size A fs := by
  rcases h with h | ⟨g, off, e, hlt, _, _, _, hc⟩
  · exact Or.inl h
  · exact Or.inr ⟨g, off, e, hlt, hc⟩
theorem FltAt.keep {w w' : World} {A : Option Addr} {fs : List Flt} {m gx gb : Nat} (h : FltAt w A fs m gx gb) (hz : w.heap.size ≤ w'.heap.size) (hk : ∀ g, g < w.heap.size → g ≠ m → g ≠ gx → g ≠ gb → w'.heap[g]? = w.heap[g]?) : FltAt w' A fs m gx gb := by
  rcases h with h | ⟨g, off, e, hlt, h1, h2, h3, hc⟩
  · exact Or.inl h
  · have hq : ∀ o, w'.cell? ⟨g, o, none⟩ = w.cell? ⟨g, o, none⟩ := fun o => World.cell?_of_block (w := w) (hk g hlt h1 h2 h3)
    exact Or.inr ⟨g, off, e, by omega, h1, h2, h3, fun k f hf => by rw [hq, hq, hq]; exact hc k f hf⟩
structure ChipW (w : World) (m gx gb : Nat) (Af : Option Addr) (nf cf : Nat) (a b c d e : Int) (fs : List Flt) (s : ChS) : Prop where
  blk : ∃ (cx cb NX NB : Nat), s.X.length = NX ∧ (NB : Int) = a ∧ NX ≤ cx ∧ Blk w m 71 #[.int .i64 a, .int .i64 b, .int .i64 c, .int .i64 d, .int .i64 e, .slice Af nf cf, .slice (some ⟨gx, 0, none⟩) NX cx, .slice (some ⟨gb, 0, none⟩) NB cb, .int .i64 (s).ops, .int .i64 (s).cuts, .bool (s).on, .bool (s).armed, .int .i64 (s).turn, .int .i64 (s).cop, .int .i64 (s).cby, .int .u8 ((s).fill : Nat)]
  rX : RowT w gx 5 (s.X.map byteV)
  rK : RowT w gb 85 (s.K.map (Value.int .i64))
  flt : FltAt w Af fs m gx gb
  nx : m ≠ gx
  nb : m ≠ gb
  nxb : gx ≠ gb
  lenX : s.X.length = (a * b * (c + 16)).toNat
  lenK : s.K.length = 3 * a.toNat
  nf : fs.length = nf
  may : planMay a b c d e fs = true
def inB (a B : Int) : Bool := decide (0 ≤ B) && decide (B < a)
def ChS.k (s : ChS) (B : Int) (j : Nat) : Int := s.K.getD (3 * B.toNat + j) 0
def failedB (a : Int) (fs : List Flt) (s : ChS) (B : Int) : Bool := inB a B && failsB fs B (s.k B 2)
def ChS.cutB (s : ChS) : Bool := s.armed && decide (s.ops + 1 = s.turn)
def ChS.tick (s : ChS) : ChS := if s.cutB then { s with ops := s.ops + 1, armed := false, on := false, cuts := s.cuts + 1 } else { s with ops := s.ops + 1 }
/-- All its numbers lie from 0 to n. -/
structure ChS.Bnd (s : ChS) (n : Int) : Prop where
  o0 : 0 ≤ s.ops
  o1 : s.ops ≤ n
  c0 : 0 ≤ s.cuts
  c1 : s.cuts ≤ n
  k0 : ∀ i, 0 ≤ s.K.getD i 0
  k1 : ∀ i, s.K.getD i 0 ≤ n
/-- The three blocks of a chip. -/
def chB (m gx gb : Nat) (g : Nat) : Prop := g = m ∨ g = gx ∨ g = gb
theorem ChipW.keep {w w' : World} {m gx gb : Nat} {Af : Option Addr} {nf cf : Nat} {a b c d e : Int} {fs : List Flt} {s : ChS} (h : ChipW w m gx gb Af nf cf a b c d e fs s) (hz : w.heap.size ≤ w'.heap.size) (hm : w'.heap[m]? = w.heap[m]?) (hx : w'.heap[gx]? = w.heap[gx]?) (hb : w'.heap[gb]? = w.heap[gb]?) (hk : ∀ g, g < w.heap.size → g ≠ m → g ≠ gx → g ≠ gb → w'.heap[g]? = w.heap[g]?) : ChipW w' m gx gb Af nf cf a b c d e fs s := by
  obtain ⟨⟨cx, cb, NX, NB, hX, hN, hcx, hB⟩, r1, r2, r3, n1, n2, n3, l1, l2, l3, l4⟩ := h
  exact ⟨⟨cx, cb, NX, NB, hX, hN, hcx, hm.trans hB⟩, r1.keep hx, r2.keep hb, r3.keep hz hk, n1, n2, n3, l1, l2, l3, l4⟩
theorem ChipW.lt {w : World} {m gx gb : Nat} {Af : Option Addr} {nf cf : Nat} {a b c d e : Int} {fs : List Flt} {s : ChS} (h : ChipW w m gx gb Af nf cf a b c d e fs s) : m < w.heap.size ∧ gx < w.heap.size ∧ gb < w.heap.size := by
  obtain ⟨⟨cx, cb, NX, NB, hX, hN, hcx, hB⟩, r1, r2, _⟩ := h
  exact ⟨hB.lt, r1.lt, r2.lt⟩
theorem ChipW.below {w w' : World} {m gx gb : Nat} {Af : Option Addr} {nf cf : Nat} {a b c d e : Int} {fs : List Flt} {s : ChS} (h : ChipW w m gx gb Af nf cf a b c d e fs s) (hb : Below w.heap.size w w') : ChipW w' m gx gb Af nf cf a b c d e fs s :=
  h.keep hb.size (hb.block _ h.lt.1) (hb.block _ h.lt.2.1) (hb.block _ h.lt.2.2) (fun g hg _ _ _ => hb.block g hg)
theorem ChipW.like {w w' : World} {m gx gb : Nat} {Af : Option Addr} {nf cf : Nat} {a b c d e : Int} {fs : List Flt} {s : ChS} (h : ChipW w m gx gb Af nf cf a b c d e fs s) (e1 : w'.heap = w.heap := by rfl) : ChipW w' m gx gb Af nf cf a b c d e fs s :=
  h.keep (by rw [e1]; exact Nat.le_refl _) (by rw [e1]) (by rw [e1]) (by rw [e1]) (fun g _ _ _ _ => by rw [e1])
theorem ChipW.likeB {w w1 w' : World} {m gx gb : Nat} {Af : Option Addr} {nf cf : Nat} {a b c d e : Int} {fs : List Flt} {s : ChS} (h : ChipW w m gx gb Af nf cf a b c d e fs s) (hb : Below w1.heap.size w1 w') (he : w1.heap = w.heap := by rfl) : ChipW w' m gx gb Af nf cf a b c d e fs s := (h.like he).below hb
theorem ChipW.far {w w' : World} {m gx gb : Nat} {Af : Option Addr} {nf cf : Nat} {a b c d e : Int} {fs : List Flt} {s : ChS} (h : ChipW w m gx gb Af nf cf a b c d e fs s) {S : Nat → Prop} (hT : Tch S w w') (hs : ∀ g, g < w.heap.size → ¬ S g) : ChipW w' m gx gb Af nf cf a b c d e fs s :=
  h.keep hT.size (hT.far _ h.lt.1 (hs _ h.lt.1)) (hT.far _ h.lt.2.1 (hs _ h.lt.2.1)) (hT.far _ h.lt.2.2 (hs _ h.lt.2.2)) (fun g hg _ _ _ => hT.far g hg (hs g hg))
theorem ChipW.get {w : World} {m gx gb : Nat} {Af : Option Addr} {nf cf : Nat} {a b c d e : Int} {fs : List Flt} {s : ChS} (h : ChipW w m gx gb Af nf cf a b c d e fs s) : ∃ (cx cb NX NB : Nat), Hid (s.X.length = NX ∧ NX ≤ cx) ∧ Hid ((NB : Int) = a) ∧
    w.cell? ⟨m, 0, none⟩ = some (.int .i64 a) ∧ w.cell? ⟨m, 1, none⟩ = some (.int .i64 b) ∧ w.cell? ⟨m, 2, none⟩ = some (.int .i64 c) ∧ w.cell? ⟨m, 3, none⟩ = some (.int .i64 d) ∧ w.cell? ⟨m, 4, none⟩ = some (.int .i64 e) ∧ w.cell? ⟨m, 5, none⟩ = some (.slice Af nf cf) ∧ w.cell? ⟨m, 6, none⟩ = some (.slice (some ⟨gx, 0, none⟩) NX cx) ∧ w.cell? ⟨m, 7, none⟩ = some (.slice (some ⟨gb, 0, none⟩) NB cb) ∧ w.cell? ⟨m, 8, none⟩ = some (.int .i64 s.ops) ∧ w.cell? ⟨m, 9, none⟩ = some (.int .i64 s.cuts) ∧ w.cell? ⟨m, 10, none⟩ = some (.bool s.on) ∧ w.cell? ⟨m, 11, none⟩ = some (.bool s.armed) ∧ w.cell? ⟨m, 12, none⟩ = some (.int .i64 s.turn) ∧ w.cell? ⟨m, 13, none⟩ = some (.int .i64 s.cop) ∧ w.cell? ⟨m, 14, none⟩ = some (.int .i64 s.cby) ∧ w.cell? ⟨m, 15, none⟩ = some (.int .u8 (s.fill : Nat)) ∧
    (∀ i, i < NX → w.cell? ⟨gx, i, none⟩ = some (byteV (s.X.getD i 0))) ∧ (∀ i, i < 3 * NB → w.cell? ⟨gb, i, none⟩ = some (.int .i64 (s.K.getD i 0))) ∧
    (∀ i, w.frozen? ⟨m, i, none⟩ = false) ∧ (∀ i, w.frozen? ⟨gx, i, none⟩ = false) ∧ (∀ i, w.frozen? ⟨gb, i, none⟩ = false) := by
  obtain ⟨⟨cx, cb, NX, NB, hX, hN, hcx, hB⟩, r1, r2, r3, n1, n2, n3, l1, l2, l3, l4⟩ := h
  subst hX
  refine ⟨cx, cb, _, NB, Lib.hid ⟨rfl, hcx⟩, Lib.hid hN, hB.cell_ 0, hB.cell_ 1, hB.cell_ 2, hB.cell_ 3, hB.cell_ 4, hB.cell_ 5, hB.cell_ 6, hB.cell_ 7, hB.cell_ 8, hB.cell_ 9, hB.cell_ 10, hB.cell_ 11, hB.cell_ 12, hB.cell_ 13, hB.cell_ 14, hB.cell_ 15, fun i hi => r1.cell_ ?_, fun i hi => r2.cell_ ?_, hB.free, r1.free, r2.free⟩
  · rw [List.getElem?_map, List.getElem?_eq_getElem hi, List.getD_eq_getElem?_getD, List.getElem?_eq_getElem hi]
    rfl
  · rw [List.getElem?_map, List.getElem?_eq_getElem (by omega), List.getD_eq_getElem?_getD, List.getElem?_eq_getElem (by omega)]
    rfl
end Go.Proofs.Ytplniojeaodjiaa
