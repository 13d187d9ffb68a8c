/- Ints, and what looks whether they are the same. -/
import Derived.Test.YtfefjjebjjfkdaaSl
import Derived.Test.YtfefjjebjjfkdaaApp
import Derived.Lib.Hide
import Derived.Deep.QuietTactic
import Derived.BigQuiet
import Derived.Deep.DeepCutAuto
import Derived.Deep.RegionHeld3
import Derived.Deep.DrawnRows
namespace Go.Proofs.Ytfefjjebjjfkdaa
open Go.ChangeShapes Go.WideShapes Go.ChangeAt Go.RowKit
set_option maxRecDepth 100000 in
set_option maxHeartbeats 4000000 in
theorem sameI_any (xs ys : List Int) (A B : Option Addr) (c d : Nat) (w : World) (h1 : Sl w w.heap.size A (xs.map (Value.int .i64))) (h2 : Sl w w.heap.size B (ys.map (Value.int .i64))) (n1 : xs.length ≤ 1000000) (n2 : ys.length ≤ 1000000) :
    Calls Try.prog 21 #[.slice A xs.length c, .slice B ys.length d] w fun e w' => e = .returned (.bool (decide (xs = ys))) ∧ Below w.heap.size w w' := by
  go_enter Try.func21, Try.ntmps21
  by_cases hl : xs.length = ys.length
  · go_wp2
    go_loopw [5] (fun i wr => ∃ k : Nat, k ≤ xs.length ∧ i = .int .i64 k ∧ Hid (xs.take k = ys.take k) ∧ Below w.heap.size w wr) (fun i _ => xs.length - (intOf i).toNat)
    case atStart => exact ⟨0, Nat.zero_le _, rfl, Lib.hid rfl, Below.refl _ _⟩
    case round =>
      obtain ⟨k, hk, rfl, hd, hB⟩ := hrel
      by_cases hlt : k < xs.length
      · obtain ⟨b1, o1, rfl, l1, q1⟩ := h1.at_ (by simpa using (by omega : 0 < xs.length))
        obtain ⟨b2, o2, rfl, l2, q2⟩ := h2.at_ (by simpa using (by omega : 0 < ys.length))
        obtain ⟨x, hx⟩ : ∃ x, xs[k]? = some x := ⟨_, List.getElem?_eq_getElem hlt⟩
        obtain ⟨y, hy⟩ : ∃ y, ys[k]? = some y := ⟨_, List.getElem?_eq_getElem (by omega)⟩
        have cx : wr.cell? ⟨b1, o1 + k, none⟩ = some (.int .i64 x) := (hB.cell (p := ⟨b1, o1 + k, none⟩) l1).trans (q1 k _ (by rw [List.getElem?_map, hx]; rfl))
        have cy : wr.cell? ⟨b2, o2 + k, none⟩ = some (.int .i64 y) := (hB.cell (p := ⟨b2, o2 + k, none⟩) l2).trans (q2 k _ (by rw [List.getElem?_map, hy]; rfl))
        have Hx := Lib.hid hx
        have Hy := Lib.hid hy
        clear hx hy q1 q2
        have i1 : (0 : Int) ≤ (k : Int) := by omega
        have i2 : (k : Int) < (xs.length : Int) := by omega
        have i3 : (k : Int) < (ys.length : Int) := by omega
        by_cases hxy : x = y
        · subst hxy
          go_wp2
          go_quiet (fail)
          go_wp2
          refine ⟨⟨k + 1, by omega, by go_num, ?_, below_dn hB _⟩, by simp [intOf]; omega⟩
          show xs.take (k + 1) = ys.take (k + 1)
          rw [List.take_add_one, List.take_add_one, hd.out, Hx.out, Hy.out]
        · have hb : (x != y) = true := by
            simp only [bne_iff_ne, ne_eq]
            exact hxy
          have hne : xs ≠ ys := by
            intro h
            subst h
            exact hxy (Option.some.inj (Hx.out.symm.trans Hy.out))
          have Hne := Lib.hid hne
          clear hne hxy
          go_wp2
          go_quiet (fail)
          go_wp2
          go_ret
          exact ⟨by rw [decide_eq_false Hne.out]; rfl, below_dn hB _⟩
      · have : k = xs.length := by omega
        subst this
        have he : xs = ys := by
          have := hd.out
          rw [List.take_length, hl, List.take_length] at this
          exact this
        clear hd
        go_wp2
        go_ret
        exact ⟨by rw [decide_eq_true he]; rfl, hB⟩
  · have hne : xs ≠ ys := fun h => hl (by rw [h])
    go_wp2
    go_ret
    exact ⟨by rw [decide_eq_false hne]; rfl, Below.refl _ _⟩

theorem sameI_b (B : Bool) (xs ys : List Int) (n m : Nat) (hn : xs.length = n) (hm : ys.length = m) (hb : decide (xs = ys) = B) (A1 A2 : Option Addr) (c d : Nat) (w : World) (h1 : Sl w w.heap.size A1 (xs.map (Value.int .i64))) (h2 : Sl w w.heap.size A2 (ys.map (Value.int .i64))) (n1 : n ≤ 1000000) (n2 : m ≤ 1000000) :
    Calls Try.prog 21 #[.slice A1 n c, .slice A2 m d] w fun e w' => e = .returned (.bool B) ∧ Below w.heap.size w w' := by
  subst hn hm hb
  exact sameI_any xs ys A1 A2 c d w h1 h2 n1 n2
end Go.Proofs.Ytfefjjebjjfkdaa
