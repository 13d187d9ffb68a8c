/- Box, of, awake. -/
import Derived.Test.YtmnfikfncbppfaaFlB
import Derived.Test.YtmnfikfncbppfaaSl
import Derived.Test.YtmnfikfncbppfaaLow
import Derived.Deep.RegionHeld3
import Derived.Deep.DrawnRows
import Derived.Deep.DeepCutAuto
import Derived.OwnWalk
namespace Go.Proofs.Ytmnfikfncbppfaa
open Go.ChangeShapes Go.WideShapes Go.ChangeAt Go.RowKit
set_option linter.unusedSimpArgs false
set_option linter.unusedVariables false

theorem run_minF (ts : Array TypeId) (t : TypeId) (P : Program) (x y : Int) (w : World) (hx : Sm x) (hy : Sm y) : (Builtin.min_ ts t #[.float .f64 (F x), .float .f64 (F y)]).run P w = .ok (.float .f64 (F (min x y))) w := by
  have h := ord_c (IsI.f x) (IsI.f y) hx hy
  have hc : compare x y = compareOfLessAndEq x y := rfl
  rw [hc] at h
  unfold compareOfLessAndEq at h
  by_cases h1 : x < y
  · rw [if_pos h1] at h
    simp [Builtin.min_, Builtin.min2, h, Int.min_eq_left (Int.le_of_lt h1)]
  · rw [if_neg h1] at h
    by_cases h2 : x = y
    · rw [if_pos h2] at h
      subst h2
      simp [Builtin.min_, Builtin.min2, h]
    · rw [if_neg h2] at h
      simp [Builtin.min_, Builtin.min2, h, Int.min_eq_right (by omega : y ≤ x)]
theorem run_maxF (ts : Array TypeId) (t : TypeId) (P : Program) (x y : Int) (w : World) (hx : Sm x) (hy : Sm y) : (Builtin.max_ ts t #[.float .f64 (F x), .float .f64 (F y)]).run P w = .ok (.float .f64 (F (max x y))) w := by
  have h := ord_c (IsI.f x) (IsI.f y) hx hy
  have hc : compare x y = compareOfLessAndEq x y := rfl
  rw [hc] at h
  unfold compareOfLessAndEq at h
  by_cases h1 : x < y
  · rw [if_pos h1] at h
    simp [Builtin.max_, Builtin.max2, h, Int.max_eq_right (Int.le_of_lt h1)]
  · rw [if_neg h1] at h
    by_cases h2 : x = y
    · rw [if_pos h2] at h
      subst h2
      simp [Builtin.max_, Builtin.max2, h]
    · rw [if_neg h2] at h
      simp [Builtin.max_, Builtin.max2, h, Int.max_eq_left (by omega : y ≤ x)]
def cV (p : Int × Int) : Value := .complex .f64 (F p.1) (F p.2)
def loS (a p : Int × Int) : Int × Int := (min a.1 p.1, min a.2 p.2)
def hiS (a p : Int × Int) : Int × Int := (max a.1 p.1, max a.2 p.2)
def loF (ps : List (Int × Int)) (i : Nat) : Int × Int := (ps.take i).foldl loS (ps.getD 0 (0, 0))
def hiF (ps : List (Int × Int)) (i : Nat) : Int × Int := (ps.take i).foldl hiS (ps.getD 0 (0, 0))
def PtsOk (ps : List (Int × Int)) : Prop := ∀ p ∈ ps, mayZ p.1 = true ∧ mayZ p.2 = true
theorem loF_step {ps : List (Int × Int)} {i : Nat} {p : Int × Int} (h : ps[i]? = some p) : loF ps (i + 1) = loS (loF ps i) p := by
  obtain ⟨hlt, rfl⟩ := List.getElem?_eq_some_iff.1 h
  unfold loF
  rw [List.take_succ_eq_append_getElem hlt, List.foldl_append]
  rfl
theorem hiF_step {ps : List (Int × Int)} {i : Nat} {p : Int × Int} (h : ps[i]? = some p) : hiF ps (i + 1) = hiS (hiF ps i) p := by
  obtain ⟨hlt, rfl⟩ := List.getElem?_eq_some_iff.1 h
  unfold hiF
  rw [List.take_succ_eq_append_getElem hlt, List.foldl_append]
  rfl
theorem mayZ_min {x y : Int} (hx : mayZ x = true) (hy : mayZ y = true) : mayZ (min x y) = true ∧ mayZ (max x y) = true := by
  have := mayZ_bd hx
  have := mayZ_bd hy
  exact ⟨mayZ_of (by omega), mayZ_of (by omega)⟩
theorem boxF_ok {ps : List (Int × Int)} (h : PtsOk ps) : ∀ i, i ≤ ps.length → 0 < ps.length → (mayZ (loF ps i).1 = true ∧ mayZ (loF ps i).2 = true) ∧ (mayZ (hiF ps i).1 = true ∧ mayZ (hiF ps i).2 = true)
  | 0, _, h0 => by
    have e : ps.getD 0 (0, 0) ∈ ps := by
      rw [List.getD_eq_getElem?_getD, List.getElem?_eq_getElem h0]
      exact List.getElem_mem h0
    have := h _ e
    exact ⟨this, this⟩
  | i + 1, hi, h0 => by
    obtain ⟨⟨a1, a2⟩, a3, a4⟩ := boxF_ok h i (by omega) h0
    have hg : ps[i]? = some (ps[i]'(by omega)) := List.getElem?_eq_getElem _
    obtain ⟨b1, b2⟩ := h _ (List.getElem_mem (h := (by omega : i < ps.length)))
    rw [loF_step hg, hiF_step hg]
    exact ⟨⟨(mayZ_min a1 b1).1, (mayZ_min a2 b2).1⟩, (mayZ_min a3 b1).2, (mayZ_min a4 b2).2⟩
theorem ofInt_c (z : Int) (hz : Sm z) : floatOfInt .f64 z = F z := ofInt_F hz
def ofZ (a most : Int) : Int := lowI a (2 * most + 1) - most
theorem ofZ_bd (a most : Int) (h : 0 ≤ most) : -most ≤ ofZ a most ∧ ofZ a most ≤ most := by
  have := lowI_bd a (2 * most + 1) (by omega)
  unfold ofZ
  omega
end Go.Proofs.Ytmnfikfncbppfaa
