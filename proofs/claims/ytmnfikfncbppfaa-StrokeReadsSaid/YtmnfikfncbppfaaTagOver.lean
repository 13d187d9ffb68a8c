/- OverBytes: it writes over a row of the call's own alone. -/
import Derived.Test.YtmnfikfncbppfaaTagOp
import Derived.Test.YtmnfikfncbppfaaApp
import Derived.Test.YtmnfikfncbppfaaLendB
import Derived.Test.YtmnfikfncbppfaaSl2
import Derived.Deep.RegionHeld3
import Derived.Deep.DrawnRows
import Derived.Deep.DeepCutAuto
namespace Go.Proofs.Ytmnfikfncbppfaa
open Go.ChangeShapes Go.WideShapes Go.ChangeAt Go.RowKit
attribute [local go_sem ↓] Go.wp_at_zero Go.wp_at_succ
set_option linter.unusedSimpArgs false
set_option linter.unusedVariables false

set_option maxRecDepth 100000 in
set_option maxHeartbeats 4000000 in
theorem over_any (n g cap : Nat) (xs : List Value) (base : Nat) (w : World) (ho : w.ownsRow base 5 1 (.slice (some ⟨g, 0, none⟩) n cap) n xs) (hb : base ≤ w.heap.size) (hn : n ≤ 1000) :
    Calls Try.prog 9 #[.slice (some ⟨g, 0, none⟩) n cap] w fun e w' => (∃ v, e = .returned v) ∧ Below base w w' := by
  obtain ⟨i0, hi, hz0, hz1, hz2⟩ := info_parts infoByte
  go_enter Try.func9, Try.ntmps9
  go_wp2
  go_loopw [2] (fun i wr => ∃ (k : Nat) (ys : List Value), k ≤ n ∧ i = .int .i64 k ∧ wr.ownsRow base 5 1 (.slice (some ⟨g, 0, none⟩) n cap) n ys ∧ Below base w wr) (fun i _ => n - (intOf i).toNat)
  case atStart => exact ⟨0, xs, Nat.zero_le _, rfl, ho, Below.refl _ _⟩
  case round =>
    obtain ⟨k, ys, hk, rfl, hr, hB⟩ := hrel
    by_cases hlt : k < n
    · have hyl : ys.length = n := by have := hr.1; omega
      have c1 : wr.cell? ⟨g, k, none⟩ = some (ys.getD k (.bool false)) := by
        rw [hr.cellAt k (by omega)]
        simp [show k < ys.length by omega]
      have f1 : wr.frozen? ⟨g, k, none⟩ = false := hr.frozenAt k
      have i0' : (0 : Int) ≤ (k : Int) := by omega
      have i1 : (k : Int) < (n : Int) := by omega
      have hst := hr.stored k (.int .u8 238)
      have hgl := (hr.lt g rfl).1
      clear hyl
      go_wp2
      go_roundw
      case rel => exact ⟨k + 1, ys.set k (.int .u8 238), by omega, by go_num, hst.1, hB.setCell hgl _⟩
      case measure => simp [intOf]; omega
    · go_wp2_with (at_builtin; refine wpList_app _ rfl (.tmp 12) (.tmp 13) _ rfl base 5 i0 _ 1 1 Try.underlying22 hi hz0 hz1 hz2 rfl (by decide) _ _ _ rfl (hr.alloc _) _ 1 _ [.int .u8 238] rfl (Rd.one (by simp)) (by simp [Value.oneCell']) (by unfold maxLen; omega) (by omega) (by simp; have := hB.size; omega) ?_; intro s2 w2 ho2 hg2 hv2)
      have HF : Below base w w2 := (hB.alloc (by have := hB.size; omega) _).trans (below_app (Nat.le_refl _) (by simp; have := hB.size; omega) (hr.alloc _) hg2)
      exact bodyPost_end (v := .tuple #[]) (by simp [results, Try.results9, go_sem]) rfl ⟨⟨_, rfl⟩, HF⟩
end Go.Proofs.Ytmnfikfncbppfaa
