/- What an argument that is a slice of numbers or of bools looks like. -/
import Derived.Test.YtnbiioighjdkjaaOpen
import Derived.Test.YtnbiioighjdkjaaSl
import Derived.Deep.Slices
namespace Go.Proofs.Ytnbiioighjdkjaa
open Go.ChangeShapes Go.WideShapes Go.ChangeAt Go.RowKit Go.Deep
section
variable {H : Type} {enc : TypeId × Value → H} {P : Program} {w : World} {base : Nat} {spare : Nat → Bool} {held : Bool}

theorem slice_value {r : Reach} {b0 : Nat} {t e : TypeId} {v : Value} {d : DataW H} {p : List MemPlace} (ht : P.underlying t = some (.slice e)) (hC : P.cellsOf e = 1)
    (hv : Value.okWide P w r b0 t v) (h : DataW.Trod enc P w base spare held t v d p) :
    ∃ (A : Option Addr) (n c : Nat) (vs : List Value), v = .slice A n c ∧ n = vs.length ∧ Sl w w.heap.size A vs ∧ ∀ u ∈ vs, ∃ (k : Nat) (y : DataW H × List MemPlace), DataW.trod enc P w base spare held k e [u] = some y := by
  obtain ⟨a0, len, cap, rfl⟩ := okWide_slice ht hv
  obtain ⟨fuel, hf⟩ := h
  rcases open_slice ht hf with ⟨hcs, _⟩ | ⟨a, len', cap', m, k, D, Pl, hcs, _, hl, _, hm, _, hi⟩
  · simp [Value.cells] at hcs
    obtain ⟨rfl, rfl, rfl⟩ := hcs
    exact ⟨none, 0, 0, [], rfl, rfl, Or.inl rfl, by simp⟩
  · simp [Value.cells] at hcs
    obtain ⟨rfl, rfl, rfl⟩ := hcs
    have hlm : len ≤ m := by rw [hm]; split <;> omega
    have key : ∀ i, i < len → ∃ u y, w.cell? (a.add i) = some u ∧ DataW.trod enc P w base spare held k e [u] = some y := by
      intro i hlt
      obtain ⟨cs', hc, hy⟩ := hi i (by omega)
      rw [hC, Nat.mul_one] at hc
      obtain ⟨_, hl1, hat⟩ := World.cells?_some hc
      match cs', hl1 with
      | [u], _ =>
        have h0 := hat 0 (by omega)
        have e0 : (a.add i).add 0 = a.add i := by simp [Addr.add]
        rw [e0] at h0
        exact ⟨u, _, by simpa using h0, hy⟩
    rcases Nat.eq_zero_or_pos len with h0 | h0
    · subst h0
      exact ⟨some a, 0, cap, [], rfl, rfl, Or.inl rfl, by simp⟩
    · obtain ⟨b, off, spot⟩ := a
      obtain ⟨u0, _, hu0, _⟩ := key 0 h0
      have hsp : spot = none := by simpa [Addr.add] using World.cell?_spot hu0
      subst hsp
      have hb : b < w.heap.size := by simpa [Addr.add] using World.block_lt_of_cell? _ _ hu0
      refine ⟨some ⟨b, off, none⟩, len, cap, (List.range len).map fun i => (w.cell? (Addr.add ⟨b, off, none⟩ i)).getD default, rfl, by simp, ?_, ?_⟩
      · right
        refine ⟨b, off, rfl, hb, fun i v hv => ?_⟩
        obtain ⟨hlt, rfl⟩ := List.getElem?_eq_some_iff.1 hv
        have hlt' : i < len := by simpa using hlt
        obtain ⟨u, _, hu, _⟩ := key i hlt'
        rw [add_plain] at hu
        simp [add_plain, hu]
      · intro u hu
        obtain ⟨i, hi', rfl⟩ := List.mem_map.1 hu
        obtain ⟨u, y, hc, hy⟩ := key i (by simpa using hi')
        rw [hc]
        exact ⟨k, y, hy⟩

theorem ints_value {r : Reach} {b0 : Nat} {t e : TypeId} {v : Value} {d : DataW H} {p : List MemPlace} (ht : P.underlying t = some (.slice e)) (he : P.underlying e = some (.int .i64)) (hC : P.cellsOf e = 1)
    (hv : Value.okWide P w r b0 t v) (h : DataW.Trod enc P w base spare held t v d p) :
    ∃ (A : Option Addr) (n c : Nat) (zs : List Int), v = .slice A n c ∧ n = zs.length ∧ Sl w w.heap.size A (zs.map (Value.int .i64)) ∧ ∀ z ∈ zs, i64in z := by
  obtain ⟨A, n, c, vs, rfl, rfl, hs, hu⟩ := slice_value ht hC hv h
  have hm : vs = (vs.map fun v => match v with | .int _ z => z | _ => 0).map (Value.int .i64) := by
    rw [List.map_map]
    refine (List.map_congr_left fun u hmem => ?_).trans (List.map_id vs) |>.symm
    obtain ⟨k, y, hy⟩ := hu u hmem
    obtain ⟨z, hz, _⟩ := DataW.trod_int he hy
    simp only [List.cons.injEq, and_true] at hz
    subst hz
    rfl
  refine ⟨A, _, c, vs.map fun v => match v with | .int _ z => z | _ => 0, rfl, by simp, by rw [← hm]; exact hs, ?_⟩
  intro z hz
  obtain ⟨u, hmem, rfl⟩ := List.mem_map.1 hz
  obtain ⟨k, y, hy⟩ := hu u hmem
  obtain ⟨z, hz, _, hw⟩ := DataW.trod_int he hy
  simp only [List.cons.injEq, and_true] at hz
  subst hz
  exact i64in_of hw

theorem bools_value {r : Reach} {b0 : Nat} {t e : TypeId} {v : Value} {d : DataW H} {p : List MemPlace} (ht : P.underlying t = some (.slice e)) (he : P.underlying e = some .bool) (hC : P.cellsOf e = 1)
    (hv : Value.okWide P w r b0 t v) (h : DataW.Trod enc P w base spare held t v d p) :
    ∃ (A : Option Addr) (n c : Nat) (bs : List Bool), v = .slice A n c ∧ n = bs.length ∧ Sl w w.heap.size A (bs.map Value.bool) := by
  obtain ⟨A, n, c, vs, rfl, rfl, hs, hu⟩ := slice_value ht hC hv h
  have hm : vs = (vs.map fun v => match v with | .bool z => z | _ => false).map Value.bool := by
    rw [List.map_map]
    refine (List.map_congr_left fun u hmem => ?_).trans (List.map_id vs) |>.symm
    obtain ⟨k, y, hy⟩ := hu u hmem
    obtain ⟨z, hz, _⟩ := DataW.trod_bool he hy
    simp only [List.cons.injEq, and_true] at hz
    subst hz
    rfl
  exact ⟨A, _, c, vs.map fun v => match v with | .bool z => z | _ => false, rfl, by simp, by rw [← hm]; exact hs⟩
end
end Go.Proofs.Ytnbiioighjdkjaa
