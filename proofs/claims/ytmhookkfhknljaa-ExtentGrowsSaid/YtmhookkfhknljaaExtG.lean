/- Rows of a call's own, two apart; ExtentGrows: the walk. -/
import Derived.Test.YtmhookkfhknljaaExtAw
import Derived.Test.YtmhookkfhknljaaOpenSl
namespace Go.Proofs.Ytmhookkfhknljaa
open Go.ChangeShapes Go.WideShapes Go.ChangeAt Go.RowKit
set_option linter.unusedSimpArgs false
set_option linter.unusedVariables false

theorem infoInt : (Try.prog.info? 3).map (fun i => (i.zero, i.size, i.bytes)) = some (some (.int .i64 0), 1, 8) := by kernel_rfl
theorem own_kept2 {w w' : World} {base : Nat} {e : TypeId} {n : Nat} {v u : Value} {xs : List Value} (h : w.ownsRow base e 1 v n xs) (hg : w.grownBy w' u.ownBlock) (hd : ∀ g, v.ownBlock = some g → u.ownBlock ≠ some g) : w'.ownsRow base e 1 v n xs := by
  refine h.kept hg ?_
  cases hv : v.ownBlock with
  | none => exact Or.inl rfl
  | some g => exact Or.inr (fun he => hd g hv he.symm)
theorem apart_sym {v u : Value} (h : ∀ g, v.ownBlock = some g → u.ownBlock ≠ some g) : ∀ g, u.ownBlock = some g → v.ownBlock ≠ some g := fun g hu hv => h g hv hu
theorem apart_new {w : World} {base : Nat} {e : TypeId} {n : Nat} {v u' : Value} {xs : List Value} (h : w.ownsRow base e 1 v n xs) (hu : u'.ownBlock = none ∨ u'.ownBlock = some w.heap.size) : ∀ g, v.ownBlock = some g → u'.ownBlock ≠ some g := by
  intro g hg he
  have := (h.lt g hg).2
  rcases hu with hu | hu
  · rw [hu] at he
    cases he
  · rw [hu] at he
    cases he
    omega
theorem apart_app {w : World} {base : Nat} {e : TypeId} {n : Nat} {v u u' : Value} {xs : List Value} (h : w.ownsRow base e 1 v n xs) (hd : ∀ g, v.ownBlock = some g → u.ownBlock ≠ some g) (hu : u'.ownBlock = u.ownBlock ∨ u'.ownBlock = some w.heap.size) :
    ∀ g, v.ownBlock = some g → u'.ownBlock ≠ some g := by
  rcases hu with hu | hu
  · rw [hu]
    exact hd
  · exact apart_new h (Or.inr hu)
theorem own_slA {w : World} {base : Nat} {e : TypeId} {A : Option Addr} {n c : Nat} {vs : List Value} (h : w.ownsRow base e 1 (.slice A n c) n vs) : Sl w w.heap.size A vs := by
  obtain ⟨A', c', hv, _, _, _, hs⟩ := own_sliceV h
  cases hv
  exact hs
theorem oneI (zs : List Int) : ∀ u ∈ zs.map (Value.int .i64), u.oneCell' = true := by
  intro u hu
  obtain ⟨z, _, rfl⟩ := List.mem_map.1 hu
  rfl
theorem rmay_b (a b c d e : Int) (M : Bool) (w : World) (hm : Hid (mayB a b c d e = M)) :
    Calls Try.prog 6 #[.agg #[.int .i64 a, .int .i64 b, .int .i64 c, .int .i64 d, .int .i64 e]] w fun e' w' => e' = .returned (.bool M) ∧ Below w.heap.size w w' := by
  have q := rmay_any a b c d e w
  rwa [hm.out] at q
def lowsI (zs : List Int) : List Int := zs.map fun z => lowI z 1000
theorem lows_bd {zs : List Int} : ∀ z ∈ lowsI zs, 0 ≤ z ∧ z < 1000 := by
  intro z hz
  obtain ⟨y, _, rfl⟩ := List.mem_map.1 hz
  exact lowI_bd y 1000 (by omega)
theorem lows_len (zs : List Int) : (lowsI zs).length = zs.length := by simp [lowsI]
theorem lows_take {zs : List Int} {j : Nat} (h : j < zs.length) : (lowsI zs).take (j + 1) = (lowsI zs).take j ++ [lowI (zs.getD j 0) 1000] := by
  rw [List.take_succ_eq_append_getElem (by rw [lows_len]; exact h)]
  congr 2
  simp only [lowsI, List.getElem_map]
  rw [List.getD_eq_getElem?_getD, List.getElem?_eq_getElem h]
  rfl
end Go.Proofs.Ytmhookkfhknljaa
