/- Faults, plainly; a slice that reads as a list of them, and how such an argument is opened. -/
import Derived.Test.YtplniojeaodjiaaSl
import Derived.Test.YtplniojeaodjiaaOpen
import Derived.Deep.Slices
import Derived.Deep.Fields
import Derived.ChangeSame
namespace Go.Proofs.Ytplniojeaodjiaa
open Go.ChangeShapes Go.WideShapes Go.ChangeAt Go.RowKit Go.Deep

structure Flt where
  blk : Int
  fac : Bool
  aft : Int
instance : Inhabited Flt := ⟨⟨0, false, 0⟩⟩

/-- The slice at A holds the faults fs, in a block below B. -/
def SlF (w : World) (B : Nat) (A : Option Addr) (fs : List Flt) : Prop :=
  fs = [] ∨ ∃ b off, A = some ⟨b, off, none⟩ ∧ b < B ∧ ∀ k f, fs[k]? = some f →
    w.cell? ⟨b, off + k * 3, none⟩ = some (.int .i64 f.blk) ∧ w.cell? ⟨b, off + k * 3 + 1, none⟩ = some (.bool f.fac) ∧ w.cell? ⟨b, off + k * 3 + 2, none⟩ = some (.int .i64 f.aft)

theorem SlF.nil_ {w : World} {B : Nat} {A : Option Addr} : SlF w B A [] := Or.inl rfl
theorem SlF.at_ {w : World} {B : Nat} {A : Option Addr} {fs : List Flt} (h : SlF w B A fs) (hn : 0 < fs.length) :
    ∃ b off, A = some ⟨b, off, none⟩ ∧ b < B ∧ ∀ k f, fs[k]? = some f →
    w.cell? ⟨b, off + k * 3, none⟩ = some (.int .i64 f.blk) ∧ w.cell? ⟨b, off + k * 3 + 1, none⟩ = some (.bool f.fac) ∧ w.cell? ⟨b, off + k * 3 + 2, none⟩ = some (.int .i64 f.aft) := by
  rcases h with rfl | h
  · simp at hn
  · exact h
theorem SlF.below {w w' : World} {B : Nat} {A : Option Addr} {fs : List Flt} (h : SlF w B A fs) (hb : Below B w w') : SlF w' B A fs := by
  rcases h with h | ⟨b, off, e, hlt, hc⟩
  · exact Or.inl h
  · exact Or.inr ⟨b, off, e, hlt, fun k f hv => ⟨(hb.cell (p := ⟨b, _, none⟩) hlt).trans (hc k f hv).1, (hb.cell (p := ⟨b, _, none⟩) hlt).trans (hc k f hv).2.1, (hb.cell (p := ⟨b, _, none⟩) hlt).trans (hc k f hv).2.2⟩⟩
theorem SlF.mono {w : World} {B B' : Nat} {A : Option Addr} {fs : List Flt} (h : SlF w B A fs) (hB : B ≤ B') : SlF w B' A fs := by
  rcases h with h | ⟨b, off, e, hlt, hc⟩
  · exact Or.inl h
  · exact Or.inr ⟨b, off, e, by omega, hc⟩
theorem SlF.next {w w' : World} {A : Option Addr} {fs : List Flt} (h : SlF w w.heap.size A fs) (hb : Below w.heap.size w w') : SlF w' w'.heap.size A fs := (h.below hb).mono hb.size
theorem SlF.take_ {w : World} {B : Nat} {A : Option Addr} {fs : List Flt} (h : SlF w B A fs) (n : Nat) : SlF w B A (fs.take n) := by
  rcases h with h | ⟨b, off, e, hlt, hc⟩
  · exact Or.inl (by simp [h])
  · refine Or.inr ⟨b, off, e, hlt, fun k f hv => hc k f ?_⟩
    rw [List.getElem?_take] at hv
    split at hv
    · exact hv
    · cases hv
theorem SlF.held {W w' : World} {A : Option Addr} {fs : List Flt} (h : SlF W W.heap.size A fs) (hz : W.heap.size ≤ w'.heap.size) (hc : ∀ b o, b < W.heap.size → w'.cell? ⟨b, o, none⟩ = W.cell? ⟨b, o, none⟩) : SlF w' w'.heap.size A fs := by
  rcases h with h | ⟨b, off, e, hlt, hq⟩
  · exact Or.inl h
  · exact Or.inr ⟨b, off, e, by omega, fun k f hv => ⟨(hc b _ hlt).trans (hq k f hv).1, (hc b _ hlt).trans (hq k f hv).2.1, (hc b _ hlt).trans (hq k f hv).2.2⟩⟩

section
variable {H : Type} {enc : TypeId × Value → H} {P : Program} {w : World} {base : Nat} {spare : Nat → Bool} {held : Bool}

theorem slice_fields {t e : TypeId} {fs : Array Field} {fuel : Nat} {cs : List Value} {x : DataW H × List MemPlace} (ht : P.underlying t = some (.slice e)) (he : P.underlying e = some (.struct fs))
    (hone : oneCellFields P fs = true) (hC : P.cellsOf e = fs.size) (h : DataW.trod enc P w base spare held fuel t cs = some x) :
    cs = [.slice none 0 0] ∨
    ∃ (a : Addr) (len cap m : Nat), cs = [.slice (some a) len cap] ∧ len ≤ cap ∧ cap ≤ maxLen ∧ m = (if spare a.block then cap else len) ∧
      ∀ i, i < m → ∃ (ys : List (DataW H × List MemPlace)) (n : Nat), ys.length = fs.size ∧
        ∀ (j : Nat) (f : Field), fs[j]? = some f → ∃ (v : Value) (y : DataW H × List MemPlace), w.cell? (a.add (i * fs.size + j)) = some v ∧ ys[j]? = some y ∧ DataW.trod enc P w base spare held n f.type [v] = some y := by
  rcases open_slice ht h with h0 | ⟨a, len, cap, m, n, D, Pl, hcs, hb, hl, hm, hmm, hx, hi⟩
  · exact .inl h0.1
  · refine .inr ⟨a, len, cap, m, hcs, hl, hm, hmm, fun i him => ?_⟩
    obtain ⟨cs', hc, ht'⟩ := hi i him
    rw [hC] at hc
    obtain ⟨ys, n', hn', hy, hlen, hyl, hf⟩ := DataW.trod_struct he ht'
    obtain ⟨_, hcl, hat⟩ := World.cells?_some hc
    refine ⟨ys, n', hyl, fun j f hj => ?_⟩
    obtain ⟨ho, hk⟩ := hone_of hone j f hj
    have hjl : j < fs.size := (Array.getElem?_eq_some_iff.1 hj).1
    have hcell := hat j hjl
    have hv : cs'[j]? = some (cs'[j]'(by omega)) := List.getElem?_eq_getElem (by omega)
    have h1 := hf j f hj
    rw [ho, hk] at h1
    have hone' : (cs'.drop j).take 1 = [cs'[j]'(by omega)] := by
      rw [List.drop_eq_getElem_cons (by omega)]
      rfl
    rw [hone'] at h1
    have hys : ys[j]? = some (ys[j]'(by omega)) := List.getElem?_eq_getElem (by omega)
    refine ⟨_, _, ?_, hys, h1.trans hys⟩
    rw [← Go.Deep.add_add, hcell, hv]

def fltOf (w : World) (a : Addr) (i : Nat) : Flt :=
  { blk := match w.cell? (a.add (i * 3)) with | some (.int _ z) => z | _ => 0
    fac := match w.cell? (a.add (i * 3 + 1)) with | some (.bool z) => z | _ => false
    aft := match w.cell? (a.add (i * 3 + 2)) with | some (.int _ z) => z | _ => 0 }

theorem faults_value {r : Reach} {b0 : Nat} {t e : TypeId} {f0 f1 f2 : Field} {v : Value} {d : DataW H} {p : List MemPlace} (ht : P.underlying t = some (.slice e)) (he : P.underlying e = some (.struct #[f0, f1, f2]))
    (hone : oneCellFields P #[f0, f1, f2] = true) (hC : P.cellsOf e = 3) (h0 : P.underlying f0.type = some (.int .i64)) (h1 : P.underlying f1.type = some .bool) (h2 : P.underlying f2.type = some (.int .i64))
    (hv : Value.okWide P w r b0 t v) (h : DataW.Trod enc P w base spare held t v d p) :
    ∃ (A : Option Addr) (n c : Nat) (fs : List Flt), v = .slice A n c ∧ n = fs.length ∧ n ≤ c ∧ c ≤ maxLen ∧ SlF w w.heap.size A fs ∧ ∀ f ∈ fs, i64in f.blk ∧ i64in f.aft := by
  obtain ⟨a0, len, cap, rfl⟩ := okWide_slice ht hv
  obtain ⟨fuel, hf⟩ := h
  rcases slice_fields ht he hone hC hf with hcs | ⟨a, len', cap', m, hcs, hl, hm', hm, hi⟩
  · simp [Value.cells] at hcs
    obtain ⟨rfl, rfl, rfl⟩ := hcs
    exact ⟨none, 0, 0, [], rfl, rfl, Nat.le_refl _, by unfold maxLen; omega, Or.inl rfl, by simp⟩
  · simp [Value.cells] at hcs
    obtain ⟨rfl, rfl, rfl⟩ := hcs
    have hlm : len ≤ m := by rw [hm]; split <;> omega
    have key : ∀ i, i < len → ∃ x y z, w.cell? (a.add (i * 3)) = some (.int .i64 x) ∧ w.cell? (a.add (i * 3 + 1)) = some (.bool y) ∧ w.cell? (a.add (i * 3 + 2)) = some (.int .i64 z) ∧ i64in x ∧ i64in z := by
      intro i hlt
      obtain ⟨ys, n, _, hj⟩ := hi i (by omega)
      obtain ⟨v0, y0, c0, _, t0⟩ := hj 0 f0 rfl
      obtain ⟨v1, y1, c1, _, t1⟩ := hj 1 f1 rfl
      obtain ⟨v2, y2, c2, _, t2⟩ := hj 2 f2 rfl
      obtain ⟨x, hx, _, wx⟩ := DataW.trod_int h0 t0
      obtain ⟨y, hy, _⟩ := DataW.trod_bool h1 t1
      obtain ⟨z, hz, _, wz⟩ := DataW.trod_int h2 t2
      simp only [List.cons.injEq, and_true] at hx hy hz
      subst hx hy hz
      exact ⟨x, y, z, c0, c1, c2, i64in_of wx, i64in_of wz⟩
    rcases Nat.eq_zero_or_pos len with h0 | h0
    · subst h0
      exact ⟨some a, 0, cap, [], rfl, rfl, hl, hm', Or.inl rfl, by simp⟩
    · obtain ⟨b, off, spot⟩ := a
      obtain ⟨x0, _, _, hu0, _⟩ := key 0 h0
      have hsp : spot = none := by simpa [Addr.add] using World.cell?_spot hu0
      subst hsp
      have hb : b < w.heap.size := by simpa [Addr.add] using World.block_lt_of_cell? _ _ hu0
      refine ⟨some ⟨b, off, none⟩, len, cap, (List.range len).map (fltOf w ⟨b, off, none⟩), rfl, by simp, hl, hm', ?_, ?_⟩
      · right
        refine ⟨b, off, rfl, hb, fun i f hv => ?_⟩
        obtain ⟨hlt, rfl⟩ := List.getElem?_eq_some_iff.1 hv
        have hlt' : i < len := by simpa using hlt
        obtain ⟨x, y, z, cx, cy, cz, _, _⟩ := key i hlt'
        rw [add_plain] at cx cy cz
        simp only [List.getElem_map, List.getElem_range, fltOf, add_plain, cx, cy, cz]
        exact ⟨trivial, cy, cz⟩
      · intro f hf
        obtain ⟨i, hi', rfl⟩ := List.mem_map.1 hf
        obtain ⟨x, y, z, cx, cy, cz, wx, wz⟩ := key i (by simpa using hi')
        simp only [fltOf, cx, cz]
        exact ⟨wx, wz⟩
end

/-- Is a block named? -/
def namesB (fs : List Flt) (b : Int) : Bool := fs.any fun f => f.blk == b
def failsB (fs : List Flt) (b d : Int) : Bool := fs.any fun f => f.blk == b && decide (f.aft ≤ d)
def badB (fs : List Flt) (b : Int) : Bool := fs.any fun f => f.blk == b && f.fac
def mayF (a : Int) (f : Flt) : Bool := !decide (f.blk < 0) && (!decide (a ≤ f.blk) && (!decide (f.aft < 0) && (!decide (1073741824 < f.aft) && (!f.fac || f.aft == 0))))
def preB (a : Int) (fs : List Flt) : Nat → Bool
  | 0 => true
  | k + 1 => preB a fs k && (mayF a (fs.getD k default) && !namesB (fs.take k) (fs.getD k default).blk)

theorem any_take {p : Flt → Bool} {fs : List Flt} {k : Nat} (hk : k < fs.length) : (fs.take (k + 1)).any p = ((fs.take k).any p || p fs[k]) := by
  rw [List.take_succ_eq_append_getElem hk, List.any_append, List.any_cons, List.any_nil, Bool.or_false]
theorem any_hit {p : Flt → Bool} {fs : List Flt} {k : Nat} (hk : k < fs.length) (h : p fs[k] = true) : fs.any p = true := List.any_eq_true.2 ⟨fs[k], List.getElem_mem hk, h⟩
theorem any_end {p : Flt → Bool} {fs : List Flt} {k : Nat} (hk : k = fs.length) (h : (fs.take k).any p = false) : fs.any p = false := by
  subst hk
  simpa using h
theorem preB_stop (a : Int) (fs : List Flt) {k : Nat} (h : preB a fs k = false) : ∀ n, k ≤ n → preB a fs n = false
  | 0, hn => by
    obtain rfl : k = 0 := by omega
    exact h
  | n + 1, hn => by
    rcases Nat.lt_or_ge n k with h1 | h1
    · obtain rfl : k = n + 1 := by omega
      exact h
    · unfold preB
      rw [preB_stop a fs h n h1]
      rfl
end Go.Proofs.Ytplniojeaodjiaa
