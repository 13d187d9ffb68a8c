/- A struct of numbers and bools as an argument by value; a cut. -/
import Derived.Test.YtplniojeaodjiaaFlat
namespace Go.Proofs.Ytplniojeaodjiaa
open Go.ChangeShapes Go.WideShapes Go.ChangeAt Go.RowKit Go.Deep

section
variable {H : Type} {enc : TypeId × Value → H} {P : Program} {w : World} {base : Nat} {spare : Nat → Bool} {held : Bool}
theorem flat_value {r : Reach} {b0 : Nat} {t : TypeId} {fs : Array Field} {ls : List (Option IntKind)} {n : Nat} {v : Value} {d : DataW H} {p : List MemPlace} (hs : P.underlying t = some (.struct fs)) (hsh : flatShape P n t = some ls) (hv : Value.okWide P w r b0 t v) (h : DataW.Trod enc P w base spare held t v d p) :
    ∃ cs : List Value, v = .agg cs.toArray ∧ Flat ls cs := by
  obtain ⟨cs, rfl, hsz⟩ := okWide_struct hs hv
  obtain ⟨l⟩ := cs
  obtain ⟨fuel, hf⟩ := h
  exact ⟨l, rfl, flat_trod n fuel t ls l _ hsh hf⟩
theorem cut_value {r : Reach} {b0 : Nat} {t : TypeId} {fs : Array Field} {n : Nat} {v : Value} {d : DataW H} {p : List MemPlace} (hs : P.underlying t = some (.struct fs)) (hsh : flatShape P n t = some [some .i64, some .i64, some .u8]) (hv : Value.okWide P w r b0 t v) (h : DataW.Trod enc P w base spare held t v d p) :
    ∃ (x y : Int) (z : Nat), v = .agg #[.int .i64 x, .int .i64 y, .int .u8 (z : Int)] ∧ i64in x ∧ i64in y ∧ z < 256 := by
  obtain ⟨cs, rfl, hc⟩ := flat_value hs hsh hv h
  obtain ⟨x, r1, rfl, h1, hc⟩ := hc.int
  obtain ⟨y, r2, rfl, h2, hc⟩ := hc.int
  obtain ⟨z, r3, rfl, h3, hc⟩ := hc.int
  obtain rfl := hc.nil
  have e1 : IntKind.u8.min = 0 := rfl
  have e2 : IntKind.u8.max = 255 := rfl
  simp only [Lit.wf, Bool.and_eq_true, decide_eq_true_eq, e1, e2] at h3
  refine ⟨x, y, z.toNat, ?_, i64in_of h1, i64in_of h2, by omega⟩
  rw [Int.toNat_of_nonneg h3.1]
end
end Go.Proofs.Ytplniojeaodjiaa
