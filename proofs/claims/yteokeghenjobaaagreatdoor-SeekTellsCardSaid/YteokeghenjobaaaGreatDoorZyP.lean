/- Whatever comes in, SeekTells returns true and changes none of it, where the two tables of unicode/utf8 hold what the program's text lays; the card ties that. No other condition. -/
import Derived.Test.YteokeghenjobaaaGreatDoorZy8
import Derived.Test.YteokeghenjobaaaGreatDoorZy1
import Derived.Test.YteokeghenjobaaaGreatDoorCards
import Derived.Test.YteokeghenjobaaaGreatDoorTie
set_option linter.unusedSimpArgs false
set_option linter.unusedVariables false
set_option maxRecDepth 100000
set_option maxHeartbeats 16000000
namespace Go.Proofs.YteokeghenjobaaaGreatDoor
open Go.ChangeShapes Go.WideShapes Go.ChangeAt Go.RowKit Go.Deep
theorem SeekTells_lifted (os : Os) (started : os.Started) (H : Type) (enc : TypeId × Value → H) :
    ReturnsInHanded {} Tryz.checked os 3 .any (fun w args => (Rows.seekTellsSpec.pre enc Tryz.prog Tryz.f3 [] false w args ∧ laidMetH Tryz.prog Rows.seekTellsRow.laid w) ∧ sizedMet enc Tryz.prog Tryz.f3 (OpenSpec.ofChange Rows.seekTellsSpec) false w args) (Rows.seekTellsSpec.post enc Tryz.prog Tryz.f3 false true false false) := by
  refine returnsInHanded_of_change_and (C := Tryz.checked) (X := fun w _ => laidMetH Tryz.prog Rows.seekTellsRow.laid w) (fun _ _ _ hh h => h.of_heap hh) Tryz.own started (by kernel_rfl) Tryz.func3
    (ChangeSpec.witness_at (enc := enc) (C := Tryz.checked) (os := os) (X := fun w _ => laidMetH Tryz.prog Rows.seekTellsRow.laid w) false (laidWorld os) #[.agg #[.int .i64 0, .int .i64 0, .int .i64 0, .slice none 0 0, .slice none 0 0], .string ByteArray.empty, .string ByteArray.empty, .int .i64 0] 8 rfl (by kernel_rfl) (by kernel_rfl) (by kernel_rfl) (by kernel_rfl) (by kernel_rfl) (laid_met os _)) ?_
  intro W base args ds gs before hval0 hW _ hsz0 hL _
  have hval : ∀ (j : Nat) t v, Tryz.f3.params[j]? = some t → args[j]? = some v → Value.okWide Tryz.prog W .any base t v := hval0
  have hW' : DataW.Whole enc Tryz.prog Tryz.f3.params.toList Rows.seekTellsSpec.vars false W args.toList ds gs before := hW
  obtain ⟨p, q, hA0, hV, rfl, hfz, hnd⟩ := hW
  have hA : DataW.TrodAll enc Tryz.prog W 0 (fun _ => true) true Tryz.f3.params.toList args.toList ds p := hA0
  rw [Tryz.params3] at hA hval
  have hlt : ∀ x ∈ p, x.block < W.heap.size := fun x hx => hW'.lt x (by simp [hx])
  obtain ⟨v0, vs0, d0, ds0, p0, q0, hargs, rfl, rfl, h0, r0⟩ := trodAll_cons hA
  obtain ⟨v1, vs1, d1, ds1, p1, q1, rfl, rfl, rfl, h1, r1⟩ := trodAll_cons r0
  obtain ⟨v2, vs2, d2, ds2, p2, q2, rfl, rfl, rfl, h2, r2⟩ := trodAll_cons r1
  obtain ⟨v3, vs3, d3, ds3, p3, q3, rfl, rfl, rfl, h3, r3⟩ := trodAll_cons r2
  obtain ⟨rfl, rfl, rfl⟩ := trodAll_nil r3
  obtain rfl : args = #[v0, v1, v2, v3] := by cases args; simp_all
  obtain ⟨cs0, rfl, hcs0⟩ := okT_agg 5 Tryz.underlying25 (hval 0 _ v0 rfl rfl) h0
  obtain ⟨sf0, hS0, hO0⟩ := shelf_ok (n := 0) hcs0
  obtain ⟨s1, rfl, ws1⟩ := string_value Tryz.underlying9 (hval 1 _ v1 rfl rfl) h1
  obtain ⟨s2, rfl, ws2⟩ := string_value Tryz.underlying9 (hval 2 _ v2 rfl rfl) h2
  obtain ⟨z3, rfl, wz3⟩ := int_value Tryz.underlying3 (hval 3 _ v3 rfl rfl) h3
  refine (tells_walk sf0 _ s1 s2 z3 W hS0 wz3 (tabs_of hL)).mono fun e W' ⟨he, hb⟩ => ⟨_, he, ?_⟩
  exact post_of_walk (s := Rows.seekTellsSpec) ⟨rfl, fun H ds h => by match ds, h with | [_, _, _, _], _ => exact ⟨rfl, rfl, rfl⟩⟩ (tb := 4) rfl Tryz.underlying4 (by kernel_rfl) hW' hb
theorem SeekTells_row : Rows.SeekTellsSaid :=
  OpenClaim.holds_of_wide 3 Tryz.f3 rfl rfl rfl rfl rfl rfl rfl ⟨rfl, rfl, rfl, rfl, rfl⟩ rfl rfl rfl rfl rfl (by kernel_rfl) Tryz.func3 (by kernel_rfl)
    (of_decide_eq_true (by kernel_rfl)) (by unfold Func.isWrapper; first | (rw [if_pos (by decide +kernel)]; kernel_rfl) | (rw [if_neg (by decide +kernel)]; exact ⟨rfl, rfl⟩))
    (fun os started H enc _ => SeekTells_lifted os started H enc)
theorem SeekTells_holds : Rows.SeekTellsCardSaid :=
  Claim7.holds_tied_plain_at .later [] [.data, .pinned] true (true, Rows.seekTellsCard.stood.harness.2) false
    SeekTells_row (fun _ h => by cases h) (by kernel_rfl) (fun _ h => by cases h) seekTells_row_tie rfl ⟨rfl, rfl⟩ (by kernel_rfl) rfl
    (fun f fn hf hfn => by
      obtain rfl : f = 3 := Option.some.inj ((show Tryz.prog.funcNamed "jotter/jotterlaw26.SeekTells" = some 3 by kernel_rfl).symm.trans hf) |>.symm
      obtain rfl : fn = Tryz.f3 := (Option.some.inj (Tryz.func3.symm.trans hfn)).symm
      exact ⟨by kernel_rfl, fun j t ht => by
        rw [Tryz.params3] at ht
        have hm : t ∈ Tryz.f3.params.toList := by
          rw [Tryz.params3]
          exact List.mem_of_getElem? (by simpa using ht)
        have hall : (Tryz.f3.params.toList.all fun t => !Tryz.prog.wantsStandIn t) = true := by kernel_rfl
        have hx := List.all_eq_true.1 hall t hm
        exact (show Tryz.prog.wantsStandIn t = false by simpa using hx)⟩)
    (by kernel_rfl)
#print axioms SeekTells_holds
end Go.Proofs.YteokeghenjobaaaGreatDoor
