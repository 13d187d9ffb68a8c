/- Whatever comes in, RankNone returns true and changes none of it. No condition. -/
import Derived.Test.YtofeijlejljbdaaRankNone
import Derived.Test.YtofeijlejljbdaaOpen
import Derived.Test.YtofeijlejljbdaaFlat
namespace Go.Proofs.Ytofeijlejljbdaa
open Go.ChangeShapes Go.WideShapes Go.ChangeAt Go.RowKit Go.Deep

set_option linter.unusedVariables false
set_option maxRecDepth 100000 in
theorem RankNone_lifted (os : Os) (started : os.Started) (H : Type) (enc : TypeId × Value → H) :
    ReturnsInHanded {} Try.checked os 6 .any (Rows.rankNoneSpec.pre6 enc Try.prog Try.f6 Rows.rankNoneRow.domain false) (Rows.rankNoneSpec.post enc Try.prog Try.f6 false true false false) := by
  refine returnsInHanded_of_change_sized (C := Try.checked) Try.own started (by kernel_rfl) Try.func6
    (ChangeSpec.witness6 (enc := enc) (C := Try.checked) false ⟨#[], #[.slice none 0 0], []⟩ 8 (by kernel_rfl) (by kernel_rfl) (by kernel_rfl) (by kernel_rfl)) ?_
  intro W base args ds gs before hval0 hW _ hsz0 _
  have hval : ∀ (j : Nat) t v, Try.f6.params[j]? = some t → args[j]? = some v → Value.okWide Try.prog W .any base t v := hval0
  have hW' : DataW.Whole enc Try.prog Try.f6.params.toList Rows.rankNoneSpec.vars false W args.toList ds gs before := hW
  obtain ⟨p, q, hA0, hV, rfl, hfz, hnd⟩ := hW
  have hA : DataW.TrodAll enc Try.prog W 0 (fun _ => true) true Try.f6.params.toList args.toList ds p := hA0
  rw [Try.params6] at hA hval
  have hlt : ∀ x ∈ p, x.block < W.heap.size := fun x hx => hW'.lt x (by simp [hx])
  obtain ⟨v0, vs0, d0, ds0, p0, q0, hargs, rfl, rfl, h0, r0⟩ := trodAll_cons hA
  obtain ⟨rfl, rfl, rfl⟩ := trodAll_nil r0
  obtain rfl : args = #[v0] := by cases args; simp_all
  obtain ⟨A0, n0, c0, es0, rfl, hn0, hc0, hm0, hs0, hw0⟩ := flats_value (ls := [some .i64, some .i64, some .i64, some .i64, some .i64, some .i64]) (n := 4) Try.underlying22 (e := 30) (by kernel_rfl) (by kernel_rfl) (by decide) (hval 0 _ v0 rfl rfl) h0
  refine (rankNone_walk A0 n0 c0 es0 W ⟨hn0, hc0, hm0, hs0, hw0⟩).mono fun e W' ⟨he, hb⟩ => ⟨_, he, ?_⟩
  exact post_of_walk (s := Rows.rankNoneSpec) ⟨rfl, fun H ds h => by match ds, h with | [_], _ => exact ⟨rfl, rfl, rfl⟩⟩ (tb := 4) rfl Try.underlying4 (by kernel_rfl) hW' hb

theorem RankNone_holds : Rows.RankNoneSaid :=
  OpenClaim.holds_of_wide 6 Try.f6 rfl rfl rfl rfl rfl rfl rfl ⟨rfl, rfl, rfl, rfl, rfl⟩ rfl rfl rfl rfl rfl (by kernel_rfl) Try.func6 (by kernel_rfl)
    (of_decide_eq_true (by kernel_rfl)) (by unfold Func.isWrapper; first | (rw [if_pos (by decide +kernel)]; kernel_rfl) | (rw [if_neg (by decide +kernel)]; exact ⟨rfl, rfl⟩))
    (fun os started H enc _ => RankNone_lifted os started H enc)
#print axioms RankNone_holds
end Go.Proofs.Ytofeijlejljbdaa
