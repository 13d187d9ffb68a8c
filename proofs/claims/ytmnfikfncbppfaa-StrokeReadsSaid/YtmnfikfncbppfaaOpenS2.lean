/- What an argument that is a slice of one-cell elements looks like, its room and its nil too; and a number of other kinds. -/
import Derived.Test.YtmnfikfncbppfaaOpen
import Derived.Test.YtmnfikfncbppfaaSl
import Derived.Deep.Slices
namespace Go.Proofs.Ytmnfikfncbppfaa
open Go.ChangeShapes Go.WideShapes Go.ChangeAt Go.RowKit Go.Deep

/-- A slice of the values vs: n of them, room for c. -/
def SlA (w : World) (A : Option Addr) (n c : Nat) (vs : List Value) : Prop := n = vs.length ∧ Sl w w.heap.size A vs ∧ n ≤ c ∧ c ≤ maxLen ∧ (A = none → n = 0 ∧ c = 0)

section
variable {H : Type} {enc : TypeId × Value → H} {P : Program} {w : World} {base : Nat} {spare : Nat → Bool} {held : Bool}

theorem slice_value2 {r : Reach} {b0 : Nat} {t e : TypeId} {v : Value} {d : DataW H} {p : List MemPlace} (ht : P.underlying t = some (.slice e)) (hC : P.cellsOf e = 1)
    (hv : Value.okWide P w r b0 t v) (h : DataW.Trod enc P w base spare held t v d p) :
    ∃ (A : Option Addr) (n c : Nat) (vs : List Value), v = .slice A n c ∧ SlA w A n c vs ∧ ∀ u ∈ vs, ∃ (k : Nat) (y : DataW H × List MemPlace), DataW.trod enc P w base spare held k e [u] = some y := by
  obtain ⟨a0, len, cap, rfl⟩ := okWide_slice ht hv
  obtain ⟨fuel, hf⟩ := h
  rcases open_slice ht hf with ⟨hcs, _⟩ | ⟨a, len', cap', m, k, D, Pl, hcs, _, hl, hml, hm, _, hi⟩
  · simp [Value.cells] at hcs
    obtain ⟨rfl, rfl, rfl⟩ := hcs
    exact ⟨none, 0, 0, [], rfl, ⟨rfl, Or.inl rfl, by omega, by unfold maxLen; omega, fun _ => ⟨rfl, rfl⟩⟩, by simp⟩
  · simp [Value.cells] at hcs
    obtain ⟨rfl, rfl, rfl⟩ := hcs
    have hlm : len ≤ m := by rw [hm]; split <;> omega
    have key : ∀ i, i < len → ∃ u y, w.cell? (a.add i) = some u ∧ DataW.trod enc P w base spare held k e [u] = some y := by
      intro i hlt
      obtain ⟨cs', hc, hy⟩ := hi i (by omega)
      rw [hC, Nat.mul_one] at hc
      obtain ⟨_, hl1, hat⟩ := World.cells?_some hc
      match cs', hl1 with
      | [u], _ =>
        have h0 := hat 0 (by omega)
        have e0 : (a.add i).add 0 = a.add i := by simp [Addr.add]
        rw [e0] at h0
        exact ⟨u, _, by simpa using h0, hy⟩
    rcases Nat.eq_zero_or_pos len with h0 | h0
    · subst h0
      exact ⟨some a, 0, cap, [], rfl, ⟨rfl, Or.inl rfl, hl, hml, by simp⟩, by simp⟩
    · obtain ⟨b, off, spot⟩ := a
      obtain ⟨u0, _, hu0, _⟩ := key 0 h0
      have hsp : spot = none := by simpa [Addr.add] using World.cell?_spot hu0
      subst hsp
      have hb : b < w.heap.size := by simpa [Addr.add] using World.block_lt_of_cell? _ _ hu0
      refine ⟨some ⟨b, off, none⟩, len, cap, (List.range len).map fun i => (w.cell? (Addr.add ⟨b, off, none⟩ i)).getD default, rfl, ⟨by simp, ?_, hl, hml, by simp⟩, ?_⟩
      · right
        refine ⟨b, off, rfl, hb, fun i v hv => ?_⟩
        obtain ⟨hlt, rfl⟩ := List.getElem?_eq_some_iff.1 hv
        have hlt' : i < len := by simpa using hlt
        obtain ⟨u, _, hu, _⟩ := key i hlt'
        rw [add_plain] at hu
        simp [add_plain, hu]
      · intro u hu
        obtain ⟨i, hi', rfl⟩ := List.mem_map.1 hu
        obtain ⟨u, y, hc, hy⟩ := key i (by simpa using hi')
        rw [hc]
        exact ⟨k, y, hy⟩

/-- A whole number's Int as a Nat, in a kind without a sign. -/
theorem nat_of_wf {k : IntKind} {z : Int} (hk : k.signed = false) (h : (Lit.int k z).wf = true) : 0 ≤ z ∧ z < 2 ^ k.bits := by
  simp only [Lit.wf, Bool.and_eq_true, decide_eq_true_eq] at h
  cases k <;> simp_all [IntKind.min, IntKind.max, IntKind.signed, IntKind.bits] <;> omega

theorem nat_value {k : IntKind} (hk : k.signed = false) {r : Reach} {b0 : Nat} {t : TypeId} {v : Value} {d : DataW H} {p : List MemPlace} (ht : P.underlying t = some (.int k)) (hv : Value.okWide P w r b0 t v) (h : DataW.Trod enc P w base spare held t v d p) :
    ∃ z : Nat, v = .int k (z : Int) ∧ z < 2 ^ k.bits := by
  obtain ⟨z, rfl, _, _, hw⟩ := open_int ht hv h
  obtain ⟨h0, h1⟩ := nat_of_wf hk hw
  refine ⟨z.toNat, by rw [Int.toNat_of_nonneg h0], ?_⟩
  have : ((z.toNat : Nat) : Int) < 2 ^ k.bits := by rw [Int.toNat_of_nonneg h0]; exact h1
  exact_mod_cast this

theorem nats_value {k : IntKind} (hk : k.signed = false) {r : Reach} {b0 : Nat} {t e : TypeId} {v : Value} {d : DataW H} {p : List MemPlace} (ht : P.underlying t = some (.slice e)) (he : P.underlying e = some (.int k)) (hC : P.cellsOf e = 1)
    (hv : Value.okWide P w r b0 t v) (h : DataW.Trod enc P w base spare held t v d p) :
    ∃ (A : Option Addr) (n c : Nat) (zs : List Nat), v = .slice A n c ∧ SlA w A n c (zs.map fun (z : Nat) => Value.int k (z : Int)) ∧ ∀ z ∈ zs, z < 2 ^ k.bits := by
  obtain ⟨A, n, c, vs, rfl, hs, hu⟩ := slice_value2 ht hC hv h
  have key : ∀ u ∈ vs, ∃ z : Nat, u = .int k (z : Int) ∧ z < 2 ^ k.bits := by
    intro u hmem
    obtain ⟨f, y, hy⟩ := hu u hmem
    obtain ⟨z, hz, _, hw⟩ := DataW.trod_int he hy
    simp only [List.cons.injEq, and_true] at hz
    subst hz
    obtain ⟨h0, h1⟩ := nat_of_wf hk hw
    refine ⟨z.toNat, by rw [Int.toNat_of_nonneg h0], ?_⟩
    have : ((z.toNat : Nat) : Int) < 2 ^ k.bits := by rw [Int.toNat_of_nonneg h0]; exact h1
    exact_mod_cast this
  have hm : vs = (vs.map fun v => match v with | .int _ z => z.toNat | _ => 0).map (fun (z : Nat) => Value.int k (z : Int)) := by
    rw [List.map_map]
    refine (List.map_congr_left fun u hmem => ?_).trans (List.map_id vs) |>.symm
    obtain ⟨z, rfl, _⟩ := key u hmem
    simp
  refine ⟨A, n, c, vs.map fun v => match v with | .int _ z => z.toNat | _ => 0, rfl, by rw [← hm]; exact hs, ?_⟩
  intro z hz
  obtain ⟨u, hmem, rfl⟩ := List.mem_map.1 hz
  obtain ⟨z, rfl, hlt⟩ := key u hmem
  simpa using hlt

theorem ints_value2 {r : Reach} {b0 : Nat} {t e : TypeId} {v : Value} {d : DataW H} {p : List MemPlace} (ht : P.underlying t = some (.slice e)) (he : P.underlying e = some (.int .i64)) (hC : P.cellsOf e = 1)
    (hv : Value.okWide P w r b0 t v) (h : DataW.Trod enc P w base spare held t v d p) :
    ∃ (A : Option Addr) (n c : Nat) (zs : List Int), v = .slice A n c ∧ SlA w A n c (zs.map (Value.int .i64)) ∧ ∀ z ∈ zs, i64in z := by
  obtain ⟨A, n, c, vs, rfl, hs, hu⟩ := slice_value2 ht hC hv h
  have hm : vs = (vs.map fun v => match v with | .int _ z => z | _ => 0).map (Value.int .i64) := by
    rw [List.map_map]
    refine (List.map_congr_left fun u hmem => ?_).trans (List.map_id vs) |>.symm
    obtain ⟨k, y, hy⟩ := hu u hmem
    obtain ⟨z, hz, _⟩ := DataW.trod_int he hy
    simp only [List.cons.injEq, and_true] at hz
    subst hz
    rfl
  refine ⟨A, n, c, vs.map fun v => match v with | .int _ z => z | _ => 0, rfl, by rw [← hm]; exact hs, ?_⟩
  intro z hz
  obtain ⟨u, hmem, rfl⟩ := List.mem_map.1 hz
  obtain ⟨k, y, hy⟩ := hu u hmem
  obtain ⟨z, hz, _, hw⟩ := DataW.trod_int he hy
  simp only [List.cons.injEq, and_true] at hz
  subst hz
  exact i64in_of hw

theorem bools_value2 {r : Reach} {b0 : Nat} {t e : TypeId} {v : Value} {d : DataW H} {p : List MemPlace} (ht : P.underlying t = some (.slice e)) (he : P.underlying e = some .bool) (hC : P.cellsOf e = 1)
    (hv : Value.okWide P w r b0 t v) (h : DataW.Trod enc P w base spare held t v d p) :
    ∃ (A : Option Addr) (n c : Nat) (bs : List Bool), v = .slice A n c ∧ SlA w A n c (bs.map Value.bool) := by
  obtain ⟨A, n, c, vs, rfl, hs, hu⟩ := slice_value2 ht hC hv h
  have hm : vs = (vs.map fun v => match v with | .bool z => z | _ => false).map Value.bool := by
    rw [List.map_map]
    refine (List.map_congr_left fun u hmem => ?_).trans (List.map_id vs) |>.symm
    obtain ⟨k, y, hy⟩ := hu u hmem
    obtain ⟨z, hz, _⟩ := DataW.trod_bool he hy
    simp only [List.cons.injEq, and_true] at hz
    subst hz
    rfl
  exact ⟨A, n, c, vs.map fun v => match v with | .bool z => z | _ => false, rfl, by rw [← hm]; exact hs⟩
end
end Go.Proofs.Ytmnfikfncbppfaa
