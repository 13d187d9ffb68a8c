/- tag: awake. -/
import Derived.Test.YtmnfikfncbppfaaTagL
import Derived.Test.YtmnfikfncbppfaaApp
import Derived.Test.YtmnfikfncbppfaaLendB
import Derived.Test.YtmnfikfncbppfaaSl2
import Derived.Deep.RegionHeld3
import Derived.Deep.DrawnRows
import Derived.Deep.DeepCutAuto
namespace Go.Proofs.Ytmnfikfncbppfaa
open Go.ChangeShapes Go.WideShapes Go.ChangeAt Go.RowKit
attribute [local go_sem ↓] Go.wp_at_zero Go.wp_at_succ
set_option linter.unusedSimpArgs false
set_option linter.unusedVariables false

section
variable {P : Program} (w : World)
theorem wp_make {o : Oper} {a : Act} {K : Act → World → Prop} {Q : Exit → Act → World → Prop} (l c : Operand) (t : TypeId) (hop : o.op = Op.makeSlice t l c)
    (base : Nat) (e : TypeId) (i : TypeInfo) (z : Value) (size : Nat) (h1 : P.underlying t = some (.slice e)) (h2 : P.info? e = some i) (h3 : i.zero = some z) (h4 : i.size = size)
    (kl kc : IntKind) (L C : Int) (n : Nat) (hl : a.eval l = .int kl L) (hc : a.eval c = .int kc C) (hL : L = (n : Int)) (hC : C = (n : Int)) (b2 : i.bytes * n ≤ 281474976710656) (b3 : n ≤ maxLen) (b4 : base ≤ w.heap.size)
    (hK : ∀ w', w'.ownsRow base e size (.slice (some ⟨w.heap.size, 0, none⟩) n n) n (madeCells z.cells (n * size)).toList → w.grownBy w' none → K (a.put o.dst (.slice (some ⟨w.heap.size, 0, none⟩) n n)) w') :
    o.wp P a w K Q := by
  obtain ⟨w', hrun, r1, r2⟩ := run_make_full (P := P) w base t e i z size h1 h2 h3 h4 kl kc n b2 b3 b4
  subst hL
  subst hC
  unfold Oper.wp
  simp [execOp, hop, hl, hc, hrun, Result.andThen]
  exact hK w' r1 r2
theorem step_make {ops : Array Oper} {o : Oper} {a : Act} {K : Act → World → Prop} {Q : Exit → Act → World → Prop} {E : Prop} (hgd : o.guard = none) (l c : Operand) (t : TypeId) (hop : o.op = Op.makeSlice t l c)
    (base : Nat) (e : TypeId) (i : TypeInfo) (z : Value) (size : Nat) (h1 : P.underlying t = some (.slice e)) (h2 : P.info? e = some i) (h3 : i.zero = some z) (h4 : i.size = size)
    (kl kc : IntKind) (L C : Int) (n : Nat) (hl : a.eval l = .int kl L) (hc : a.eval c = .int kc C) (hL : L = (n : Int)) (hC : C = (n : Int)) (b2 : i.bytes * n ≤ 281474976710656) (b3 : n ≤ maxLen) (b4 : base ≤ w.heap.size)
    (hK : ∀ w', w'.ownsRow base e size (.slice (some ⟨w.heap.size, 0, none⟩) n n) n (madeCells z.cells (n * size)).toList → w.grownBy w' none → K (a.put o.dst (.slice (some ⟨w.heap.size, 0, none⟩) n n)) w') :
    if Region.wanted o (yielded ops a.tmps) = true then Oper.wp P o a w K Q else E := by
  have hw : Region.wanted o (yielded ops a.tmps) = true := by simp [Region.wanted, hgd]
  rw [if_pos hw]
  exact wp_make w l c t hop base e i z size h1 h2 h3 h4 kl kc L C n hl hc hL hC b2 b3 b4 hK
end

theorem kept1 {w W w' w'' : World} {m : Nat} (h : Below w.heap.size w w' ∧ m ≤ w'.heap.size ∧ ∀ (k o : Nat), k < W.heap.size → w'.cell? ⟨k, o, none⟩ = W.cell? ⟨k, o, none⟩) (hm : W.heap.size ≤ m) (hb : Below w'.heap.size w' w'') : Below w.heap.size w w'' ∧ m ≤ w''.heap.size ∧ ∀ (k o : Nat), k < W.heap.size → w''.cell? ⟨k, o, none⟩ = W.cell? ⟨k, o, none⟩ :=
  ⟨btr h.1 h.1.size hb, Nat.le_trans h.2.1 hb.size, fun k o hk => (hb.cell (p := ⟨k, o, none⟩) (Nat.lt_of_lt_of_le (Nat.lt_of_lt_of_le hk hm) h.2.1)).trans (h.2.2 k o hk)⟩
def zeros : List Nat := List.replicate 24 0
theorem zeros_ok : LayOk zeros 1 3 5 2 := by
  refine ⟨by decide, by decide, by omega, by omega, by omega, by omega, by omega, by omega, ?_⟩
  intro b hb
  simp [zeros] at hb
  omega
theorem zeros_len : zeros.length = 24 := by simp [zeros]
theorem toList_madeCells_one' : (madeCells (Value.int .u8 0).cells (24 * 1)).toList = zeros.map byteV := (toList_madeCells_one (.int .u8 0) 24).trans (by simp [zeros, byteV])
theorem none_st : readSt [] = 2 := by unfold readSt; simp

end Go.Proofs.Ytmnfikfncbppfaa
