/- What an argument's value looks like, by its type: numbers, structs of numbers. -/
import Derived.Test.YtmnfikfncbppfaaLaw
import Derived.Deep.Fields
namespace Go.Proofs.Ytmnfikfncbppfaa
open Go.ChangeShapes Go.WideShapes Go.ChangeAt Go.RowKit Go.Deep

def i64in (z : Int) : Prop := -9223372036854775808 ≤ z ∧ z ≤ 9223372036854775807

theorem i64in_of {z : Int} (h : (Lit.int .i64 z).wf = true) : i64in z := by
  have e1 : IntKind.i64.min = -9223372036854775808 := rfl
  have e2 : IntKind.i64.max = 9223372036854775807 := rfl
  simp only [Lit.wf, Bool.and_eq_true, decide_eq_true_eq, e1, e2] at h
  exact h

section
variable {H : Type} {enc : TypeId × Value → H} {P : Program} {w : World} {base : Nat} {spare : Nat → Bool} {held : Bool}

theorem int_value {r : Reach} {b0 : Nat} {t : TypeId} {v : Value} {d : DataW H} {p : List MemPlace} (ht : P.underlying t = some (.int .i64)) (hv : Value.okWide P w r b0 t v) (h : DataW.Trod enc P w base spare held t v d p) :
    ∃ z, v = .int .i64 z ∧ i64in z := by
  obtain ⟨z, rfl, _, _, hw⟩ := open_int ht hv h
  exact ⟨z, rfl, i64in_of hw⟩

theorem bool_value {r : Reach} {b0 : Nat} {t : TypeId} {v : Value} {d : DataW H} {p : List MemPlace} (ht : P.underlying t = some .bool) (hv : Value.okWide P w r b0 t v) (h : DataW.Trod enc P w base spare held t v d p) :
    ∃ z, v = .bool z := by
  obtain ⟨z, rfl, _⟩ := open_bool ht hv h
  exact ⟨z, rfl⟩

theorem agg_ints {r : Reach} {b0 : Nat} {t : TypeId} {fs : Array Field} {v : Value} {d : DataW H} {p : List MemPlace} (hs : P.underlying t = some (.struct fs)) (hone : oneCellFields P fs = true)
    (hi : ∀ (i : Nat) (f : Field), fs[i]? = some f → P.underlying f.type = some (.int .i64)) (hC : P.cellsOf t = fs.size) (hv : Value.okWide P w r b0 t v) (h : DataW.Trod enc P w base spare held t v d p) :
    ∃ zs : List Int, zs.length = fs.size ∧ v = .agg (zs.map (Value.int .i64)).toArray ∧ ∀ z ∈ zs, i64in z := by
  obtain ⟨cs, rfl, hsz⟩ := okWide_struct hs hv
  obtain ⟨l⟩ := cs
  obtain ⟨fuel, hf⟩ := h
  obtain ⟨xs, n, _, _, _, hlen, hg⟩ := DataW.trod_struct hs hf
  have hl : l.length = fs.size := by simpa using hsz.trans hC
  have key : ∀ i (hlt : i < l.length), ∃ z, l[i] = .int .i64 z ∧ i64in z := by
    intro i hlt
    have hfi : fs[i]? = some (fs[i]'(by omega)) := Array.getElem?_eq_getElem (by omega)
    obtain ⟨ho, hk⟩ := hone_of hone i _ hfi
    have h1 := hg i _ hfi
    have h2 : xs[i]? = some (xs[i]'(by omega)) := List.getElem?_eq_getElem (by omega)
    rw [ho, hk, h2] at h1
    have h3 : ((Value.agg l.toArray).cells.toList.drop i).take 1 = [l[i]] := by
      show (l.drop i).take 1 = _
      rw [List.drop_eq_getElem_cons hlt]
      rfl
    rw [h3] at h1
    obtain ⟨z, hz, _, hw⟩ := DataW.trod_int (hi i _ hfi) h1
    refine ⟨z, ?_, i64in_of hw⟩
    simpa using hz
  refine ⟨l.map fun v => match v with | .int _ z => z | _ => 0, by simpa using hl, ?_, ?_⟩
  · congr 1
    congr 1
    refine List.ext_getElem (by simp) fun i h1 h2 => ?_
    obtain ⟨z, hz, _⟩ := key i h1
    simp [hz]
  · intro z hz
    obtain ⟨v, hv, rfl⟩ := List.mem_map.1 hz
    obtain ⟨i, hlt, rfl⟩ := List.mem_iff_getElem.1 hv
    obtain ⟨z, hz, hw⟩ := key i hlt
    simpa [hz] using hw

theorem all_type {fs : Array Field} {ti : TypeId} (h : fs.all (fun f => f.type == ti) = true) (i : Nat) (f : Field) (hf : fs[i]? = some f) : f.type = ti := by
  obtain ⟨hlt, rfl⟩ := Array.getElem?_eq_some_iff.1 hf
  simpa using (Array.all_eq_true.1 h) i hlt

theorem agg2_value {r : Reach} {b0 : Nat} {t ti : TypeId} {fs : Array Field} {v : Value} {d : DataW H} {p : List MemPlace} (hs : P.underlying t = some (.struct fs)) (hone : oneCellFields P fs = true)
    (hi : fs.all (fun f => f.type == ti) = true) (ht : P.underlying ti = some (.int .i64)) (hn : fs.size = 2) (hC : P.cellsOf t = 2) (hv : Value.okWide P w r b0 t v) (h : DataW.Trod enc P w base spare held t v d p) :
    ∃ x y, v = .agg #[.int .i64 x, .int .i64 y] ∧ i64in x ∧ i64in y := by
  obtain ⟨zs, hl, rfl, hw⟩ := agg_ints hs hone (fun i f hf => by rw [all_type hi i f hf]; exact ht) (by rw [hC, hn]) hv h
  match zs, hl.trans hn with
  | [x, y], _ => exact ⟨x, y, rfl, hw x (by simp), hw y (by simp)⟩

theorem agg5_value {r : Reach} {b0 : Nat} {t ti : TypeId} {fs : Array Field} {v : Value} {d : DataW H} {p : List MemPlace} (hs : P.underlying t = some (.struct fs)) (hone : oneCellFields P fs = true)
    (hi : fs.all (fun f => f.type == ti) = true) (ht : P.underlying ti = some (.int .i64)) (hn : fs.size = 5) (hC : P.cellsOf t = 5) (hv : Value.okWide P w r b0 t v) (h : DataW.Trod enc P w base spare held t v d p) :
    ∃ a b c d e, v = .agg #[.int .i64 a, .int .i64 b, .int .i64 c, .int .i64 d, .int .i64 e] ∧ i64in a ∧ i64in b ∧ i64in c ∧ i64in d ∧ i64in e := by
  obtain ⟨zs, hl, rfl, hw⟩ := agg_ints hs hone (fun i f hf => by rw [all_type hi i f hf]; exact ht) (by rw [hC, hn]) hv h
  match zs, hl.trans hn with
  | [a, b, c, d, e], _ => exact ⟨a, b, c, d, e, rfl, hw a (by simp), hw b (by simp), hw c (by simp), hw d (by simp), hw e (by simp)⟩
end
end Go.Proofs.Ytmnfikfncbppfaa
