/- The table of math/bits.TrailingZeros64: what the row lists, and a world that holds it. -/
import Derived.Test.YtnbiioighjdkjaaDoorRaW
import Derived.Test.YtnbiioighjdkjaaDoorRows
import Derived.SevenTiedAt
import Derived.LaidHandle
import Derived.Lib.LaidIn
import Derived.Lib.LaidTab
import Derived.ChangeMaps5
namespace Go.Proofs.YtnbiioighjdkjaaDoor
open Go.ChangeShapes Go.WideShapes Go.ChangeAt Go.RowKit
def dbZ : List Int := dbTab.map fun (n : Nat) => (n : Int)
theorem db_eq : (Rows.laid_math_bits_deBruijn64tab : DataW Unit) = Lib.tabData .u8 dbZ := by kernel_rfl
def laidTabs : List (String × DataW Unit) := [("math/bits.deBruijn64tab", Lib.tabData .u8 dbZ)]
theorem laid_eq : [("math/bits.deBruijn64tab", Rows.laid_math_bits_deBruijn64tab)] = laidTabs := by rw [db_eq]; rfl
noncomputable def laidWorld (os : Os) : World :=
  let w0 := World.holding Tryd.prog os ⟨#[], #[], []⟩
  let put (h : Array Obj) (g : Nat) (cs : Array Value) : Array Obj := h.modify g fun
    | .cells _ t frozen => .cells cs t frozen
    | o => o
  { w0 with heap := put w0.heap 0 (dbZ.map fun z => Value.int .u8 z).toArray }
theorem noHandle (w : World) : laidMetH Tryd.prog laidTabs w ↔ laidMet Tryd.prog laidTabs w := by
  have e : (laidTabs.filter fun x => x.2.handleName?.isSome) = [] := by kernel_rfl
  unfold laidMetH
  rw [e]
theorem laid_met (os : Os) (args : Array Value) : laidMetH Tryd.prog [("math/bits.deBruijn64tab", Rows.laid_math_bits_deBruijn64tab)] ((laidWorld os).forCall (fun _ _ => 0) ⟨#[], args, []⟩).memory := by
  rw [laid_eq, noHandle]
  exact (LaidIn.of_run (l := laidTabs) [0] 8 (by kernel_rfl) (by kernel_rfl) (by kernel_rfl) (by kernel_rfl)).met
theorem tabs_of {W : World} (h : laidMetH Tryd.prog [("math/bits.deBruijn64tab", Rows.laid_math_bits_deBruijn64tab)] W) : DbTab W := by
  rw [laid_eq, noHandle] at h
  have ht := Lib.tabIs_of_head (rest := []) (g := 0) (t := 61) (e := 5) (n := 64) (by kernel_rfl) (by kernel_rfl) Tryd.underlying61 Tryd.underlying5 (by kernel_rfl) (by kernel_rfl) h
  intro k z hk
  have hl := (List.getElem?_eq_some_iff.1 hk).1
  have := ht.cell (g := 0) (by kernel_rfl) k (by simpa [dbZ] using hl)
  have e : dbZ.getD k 0 = (z : Int) := by
    unfold dbZ
    rw [List.getD_eq_getElem?_getD, List.getElem?_map, hk]
    rfl
  rw [e] at this
  exact this
end Go.Proofs.YtnbiioighjdkjaaDoor
