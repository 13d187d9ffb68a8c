/- Whatever comes in, StrokeReads returns true and changes none of it. No condition. -/
import Derived.Test.YtmnfikfncbppfaaStrokeReads
import Derived.Test.YtmnfikfncbppfaaOpenS2
import Derived.Test.YtmnfikfncbppfaaOpen
namespace Go.Proofs.Ytmnfikfncbppfaa
open Go.ChangeShapes Go.WideShapes Go.ChangeAt Go.RowKit Go.Deep

set_option linter.unusedVariables false
set_option maxRecDepth 100000 in
theorem StrokeReads_lifted (os : Os) (started : os.Started) (H : Type) (enc : TypeId × Value → H) :
    ReturnsInHanded {} Try.checked os 3 .any (Rows.strokeReadsSpec.pre6 enc Try.prog Try.f3 Rows.strokeReadsRow.domain false) (Rows.strokeReadsSpec.post enc Try.prog Try.f3 false true false false) := by
  refine returnsInHanded_of_change_sized (C := Try.checked) Try.own started (by kernel_rfl) Try.func3
    (ChangeSpec.witness6 (enc := enc) (C := Try.checked) false ⟨#[], #[.slice none 0 0], []⟩ 8 (by kernel_rfl) (by kernel_rfl) (by kernel_rfl) (by kernel_rfl)) ?_
  intro W base args ds gs before hval0 hW _ hsz0 _
  have hval : ∀ (j : Nat) t v, Try.f3.params[j]? = some t → args[j]? = some v → Value.okWide Try.prog W .any base t v := hval0
  have hW' : DataW.Whole enc Try.prog Try.f3.params.toList Rows.strokeReadsSpec.vars false W args.toList ds gs before := hW
  obtain ⟨p, q, hA0, hV, rfl, hfz, hnd⟩ := hW
  have hA : DataW.TrodAll enc Try.prog W 0 (fun _ => true) true Try.f3.params.toList args.toList ds p := hA0
  rw [Try.params3] at hA hval
  have hlt : ∀ x ∈ p, x.block < W.heap.size := fun x hx => hW'.lt x (by simp [hx])
  obtain ⟨v0, vs0, d0, ds0, p0, q0, hargs, rfl, rfl, h0, r0⟩ := trodAll_cons hA
  obtain ⟨rfl, rfl, rfl⟩ := trodAll_nil r0
  obtain rfl : args = #[v0] := by cases args; simp_all
  obtain ⟨A0, n0, c0, bs0, rfl, hs0, hb0⟩ := nats_value (k := .u8) rfl Try.underlying22 Try.underlying5 (by kernel_rfl) (hval 0 _ v0 rfl rfl) h0
  refine (sreads_walk A0 n0 c0 bs0 W hs0 hb0).mono fun e W' ⟨he, hb⟩ => ⟨_, he, ?_⟩
  exact post_of_walk (s := Rows.strokeReadsSpec) ⟨rfl, fun H ds h => by match ds, h with | [_], _ => exact ⟨rfl, rfl, rfl⟩⟩ (tb := 4) rfl Try.underlying4 (by kernel_rfl) hW' hb

theorem StrokeReads_holds : Rows.StrokeReadsSaid :=
  OpenClaim.holds_of_wide 3 Try.f3 rfl rfl rfl rfl rfl rfl rfl ⟨rfl, rfl, rfl, rfl, rfl⟩ rfl rfl rfl rfl rfl (by kernel_rfl) Try.func3 (by kernel_rfl)
    (of_decide_eq_true (by kernel_rfl)) (by unfold Func.isWrapper; first | (rw [if_pos (by decide +kernel)]; kernel_rfl) | (rw [if_neg (by decide +kernel)]; exact ⟨rfl, rfl⟩))
    (fun os started H enc _ => StrokeReads_lifted os started H enc)
#print axioms StrokeReads_holds
end Go.Proofs.Ytmnfikfncbppfaa
