/- Count. -/
import Derived.Test.YtnbiioighjdkjaaDoorRaP
namespace Go.Proofs.YtnbiioighjdkjaaDoor
open Go.ChangeShapes Go.WideShapes Go.ChangeAt Go.RowKit
set_option linter.unusedSimpArgs false
set_option linter.unusedVariables false

set_option maxRecDepth 100000 in
set_option maxHeartbeats 4000000 in
theorem count_any (f : Nat → Nat) (H gr : Nat) (S : Nat) (w : World) (hH : H ≤ 64) (hR : RowT w gr 29 (rowsV f H)) (hf : Hid (∀ y, f y < 18446744073709551616)) (hS : Hid (sumN (fun y => popN (f y)) H = S)) : Calls Tryd.prog 11 #[.slice (some ⟨gr, 0, none⟩) H H] w fun e' w' => e' = .returned (.int .i64 (S : Int)) ∧ w = w' := by
  have HR := Lib.hid hR
  clear hR
  go_enter Tryd.func11, Tryd.ntmps11
  go_wp2
  go_loopw [3, 8] (fun s3 s8 wr => ∃ (i m : Nat), i ≤ H ∧ s8 = .int .i64 (i : Int) ∧ s3 = .int .i64 (m : Int) ∧ Hid (sumN (fun y => popN (f y)) i = m) ∧ wr = w) (fun _ s8 _ => H - (intOf s8).toNat)
  case atStart => exact ⟨0, 0, by omega, rfl, rfl, Lib.hid rfl, (by first | rfl | trivial)⟩
  case round =>
    obtain ⟨i, m, hi, rfl, rfl, hm, rfl⟩ := hrel
    by_cases hlt : i < H
    · have c0 : wr.cell? ⟨gr, i, none⟩ = some (.int .u64 ((f i : Nat) : Int)) := HR.out.cell_ (rowsV_at f H i hlt)
      have i0 : (0 : Int) ≤ (i : Int) := by omega
      have i1 : (i : Int) < (H : Int) := by omega
      obtain ⟨p, hp⟩ : ∃ p, popN (f i) = p := ⟨_, rfl⟩
      have hp64 : p ≤ 64 := by rw [← hp]; exact popN_le _
      have hm64 : m ≤ 4096 := by
        have := sumN_bd (fun y => popN (f y)) 64 i (fun y => popN_le _)
        rw [hm.out] at this
        omega
      have HM : Hid (sumN (fun y => popN (f y)) (i + 1) = m + p) := Lib.hid (by rw [← hm.out, ← hp]; rfl)
      have HP := Lib.hid hp
      clear hp hm
      go_wp2_with (go_at_call 23; refine (ones_any (f i) _ (hf.out i)).mono ?_; rw [HP.out]; rintro e' wN ⟨rfl, rfl⟩)
      go_roundw
      case rel => exact ⟨i + 1, m + p, by omega, by go_num, (by first | rfl | go_num | simp), HM, (by first | rfl | trivial)⟩
      case measure => simp [intOf]; omega
    · obtain rfl : i = H := by omega
      obtain rfl : m = S := by rw [← hm.out, ← hS.out]
      go_wp2
      go_ret
      exact ⟨rfl, rfl⟩
end Go.Proofs.YtnbiioighjdkjaaDoor
