/- tag.Read: what a raw page reads as, by contracts. -/
import Derived.Test.YtmnfikfncbppfaaTagC
import Derived.Test.YtmnfikfncbppfaaApp
import Derived.Test.YtmnfikfncbppfaaLendB
import Derived.Test.YtmnfikfncbppfaaSl2
import Derived.Deep.RegionHeld3
import Derived.Deep.DrawnRows
import Derived.Deep.DeepCutAuto
namespace Go.Proofs.Ytmnfikfncbppfaa
open Go.ChangeShapes Go.WideShapes Go.ChangeAt Go.RowKit
attribute [local go_sem ↓] Go.wp_at_zero Go.wp_at_succ
set_option linter.unusedSimpArgs false
set_option linter.unusedVariables false

theorem sl_sub {w : World} {B b o : Nat} {vs : List Value} (h : Sl w B (some ⟨b, o, none⟩) vs) (i n : Nat) : Sl w B (some ⟨b, o + i, none⟩) ((vs.drop i).take n) := by
  rcases h with h | ⟨b', off, e, hlt, hc⟩
  · exact Or.inl (by rw [h]; simp)
  · cases e
    refine Or.inr ⟨b, o + i, rfl, hlt, fun k v hv => ?_⟩
    rw [List.getElem?_take] at hv
    split at hv
    · rw [List.getElem?_drop] at hv
      have := hc (i + k) v hv
      rwa [← Nat.add_assoc] at this
    · cases hv
theorem held_of {w w' : World} (h : Below w.heap.size w w') : Below w.heap.size w w' ∧ w.heap.size ≤ w'.heap.size ∧ ∀ (k o : Nat), k < w.heap.size → w'.cell? ⟨k, o, none⟩ = w.cell? ⟨k, o, none⟩ := ⟨h, h.size, fun k o hk => h.cell (p := ⟨k, o, none⟩) hk⟩
theorem number_n (bs : List Nat) (n : Nat) (hn : bs.length = n) (A : Option Addr) (c : Nat) (w : World) (h1 : Sl w w.heap.size A (bs.map byteV)) (h8 : Bytes8 bs) (n1 : n ≤ 4) :
    Calls Try.prog 23 #[.slice A n c] w fun e w' => e = .returned (.int .i64 (numB bs)) ∧ w = w' := by
  subst hn
  exact number_any bs A c w h1 h8 n1
def part (tl : List Nat) (i n : Nat) : List Nat := (tl.drop i).take n
theorem part_len {tl : List Nat} {i n : Nat} (h : i + n ≤ tl.length) : (part tl i n).length = n := by simp [part]; omega
theorem part_8 {tl : List Nat} (h : Bytes8 tl) (i n : Nat) : Bytes8 (part tl i n) := fun b hb => h b (List.mem_of_mem_drop (List.mem_of_mem_take hb))
theorem part_map (tl : List Nat) (i n : Nat) : (part tl i n).map byteV = ((tl.map byteV).drop i).take n := by simp [part, List.map_take, List.map_drop]
/-- The numbers of a tag that stands in sixteen bytes. -/
def tK (tl : List Nat) : Nat := tl.getD 1 0
def tP (tl : List Nat) : Nat := numB (part tl 2 2)
def tS (tl : List Nat) : Nat := numB (part tl 4 4)
def tE (tl : List Nat) : Nat := numB (part tl 8 3)

/-- Are the mark, the sum and the last byte as they must be? n: how many bytes of data there are. -/
def soundB (bs : List Nat) (n : Nat) : Bool := (bs.getD n 0 == 74) && ((bs.getD (n + 15) 0 == 0) && (numB (part bs (n + 11) 4) == crcMore 0 (bs.take (n + 11))))
theorem eqNat (a b : Nat) : ((a : Int) == (b : Int)) = (a == b) := by
  rw [Bool.eq_iff_iff]
  simp only [beq_iff_eq]
  omega

end Go.Proofs.Ytmnfikfncbppfaa
