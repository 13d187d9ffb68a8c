/- Whatever comes in, FlashAsks returns true and changes none of it. No condition. -/
import Derived.Test.YtkpcohfdcilfcaaGreatFq7
import Derived.Test.YtkpcohfdcilfcaaGreatFq1
set_option linter.unusedSimpArgs false
set_option linter.unusedVariables false
set_option maxRecDepth 100000
set_option maxHeartbeats 16000000
namespace Go.Proofs.YtkpcohfdcilfcaaGreat
open Go.ChangeShapes Go.WideShapes Go.ChangeAt Go.RowKit Go.Deep
theorem FlashAsks_lifted (os : Os) (started : os.Started) (H : Type) (enc : TypeId × Value → H) :
    ReturnsInHanded {} Tryz.checked os 6 .any (Rows.flashAsksSpec.pre6 enc Tryz.prog Tryz.f6 Rows.flashAsksRow.domain false) (Rows.flashAsksSpec.post enc Tryz.prog Tryz.f6 false true false false) := by
  refine returnsInHanded_of_change_sized (C := Tryz.checked) Tryz.own started (by kernel_rfl) Tryz.func6
    (ChangeSpec.witness6 (enc := enc) (C := Tryz.checked) false ⟨#[], #[.agg #[.int .i64 0, .int .i64 0, .int .i64 0, .int .i64 0, .int .i64 0], .int .i64 0, .slice none 0 0], []⟩ 8 (by kernel_rfl) (by kernel_rfl) (by kernel_rfl) (by kernel_rfl)) ?_
  intro W base args ds gs before hval0 hW _ hsz0 _
  have hval : ∀ (j : Nat) t v, Tryz.f6.params[j]? = some t → args[j]? = some v → Value.okWide Tryz.prog W .any base t v := hval0
  have hW' : DataW.Whole enc Tryz.prog Tryz.f6.params.toList Rows.flashAsksSpec.vars false W args.toList ds gs before := hW
  obtain ⟨p, q, hA0, hV, rfl, hfz, hnd⟩ := hW
  have hA : DataW.TrodAll enc Tryz.prog W 0 (fun _ => true) true Tryz.f6.params.toList args.toList ds p := hA0
  rw [Tryz.params6] at hA hval
  have hlt : ∀ x ∈ p, x.block < W.heap.size := fun x hx => hW'.lt x (by simp [hx])
  obtain ⟨v0, vs0, d0, ds0, p0, q0, hargs, rfl, rfl, h0, r0⟩ := trodAll_cons hA
  obtain ⟨v1, vs1, d1, ds1, p1, q1, rfl, rfl, rfl, h1, r1⟩ := trodAll_cons r0
  obtain ⟨v2, vs2, d2, ds2, p2, q2, rfl, rfl, rfl, h2, r2⟩ := trodAll_cons r1
  obtain ⟨rfl, rfl, rfl⟩ := trodAll_nil r2
  obtain rfl : args = #[v0, v1, v2] := by cases args; simp_all
  obtain ⟨ga0, gb0, gc0, gd0, ge0, rfl, wg0⟩ := agg5_value Tryz.underlying23 (by kernel_rfl) (by kernel_rfl) Tryz.underlying3 rfl (by kernel_rfl) (hval 0 _ v0 rfl rfl) h0
  obtain ⟨z1, rfl, wz1⟩ := int_value Tryz.underlying3 (hval 1 _ v1 rfl rfl) h1
  obtain ⟨A2, n2, c2, bs2, rfl, hs2, hb2⟩ := nats_value (k := .u8) rfl Tryz.underlying37 Tryz.underlying5 (by kernel_rfl) (hval 2 _ v2 rfl rfl) h2
  refine (asks_walk ga0 gb0 gc0 gd0 ge0 z1 A2 n2 c2 bs2 W wg0 wz1 hs2 hb2).mono fun e W' ⟨he, hb⟩ => ⟨_, he, ?_⟩
  exact post_of_walk (s := Rows.flashAsksSpec) ⟨rfl, fun H ds h => by match ds, h with | [_, _, _], _ => exact ⟨rfl, rfl, rfl⟩⟩ (tb := 4) rfl Tryz.underlying4 (by kernel_rfl) hW' hb
theorem FlashAsks_holds : Rows.FlashAsksSaid :=
  OpenClaim.holds_of_wide 6 Tryz.f6 rfl rfl rfl rfl rfl rfl rfl ⟨rfl, rfl, rfl, rfl, rfl⟩ rfl rfl rfl rfl rfl (by kernel_rfl) Tryz.func6 (by kernel_rfl)
    (of_decide_eq_true (by kernel_rfl)) (by unfold Func.isWrapper; first | (rw [if_pos (by decide +kernel)]; kernel_rfl) | (rw [if_neg (by decide +kernel)]; exact ⟨rfl, rfl⟩))
    (fun os started H enc _ => FlashAsks_lifted os started H enc)
#print axioms FlashAsks_holds
end Go.Proofs.YtkpcohfdcilfcaaGreat
