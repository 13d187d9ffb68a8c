/- awake of stage 7; ChipNone. -/
import Derived.Test.YtplniojeaodjiaaChL
namespace Go.Proofs.Ytplniojeaodjiaa
open Go.ChangeShapes Go.WideShapes Go.ChangeAt Go.RowKit
set_option linter.unusedSimpArgs false
set_option linter.unusedVariables false

def aS1 : ChS := { ChS.new 1536 8 with armed := true, turn := (ChS.new 1536 8).ops + 1, cop := 1, cby := 3, fill := 0 }
def aS2 : ChS := aS1.progCut 0 0 48 ((bytesL 7 48).take 3)
def aS3 : ChS := aS2.boot
theorem bnd_all {s : ChS} {n : Int} (h0 : 0 ≤ s.ops) (h1 : s.ops ≤ n) (h2 : 0 ≤ s.cuts) (h3 : s.cuts ≤ n) (h4 : ∀ x ∈ s.K, 0 ≤ x ∧ x ≤ n) : s.Bnd n := by
  have hg : ∀ i, 0 ≤ s.K.getD i 0 ∧ s.K.getD i 0 ≤ n := by
    intro i
    rw [List.getD_eq_getElem?_getD]
    cases hq : s.K[i]? with
    | none => exact ⟨Int.le_refl _, Int.le_trans h0 h1⟩
    | some v => exact h4 v (List.mem_of_getElem? hq)
  exact ⟨h0, h1, h2, h3, fun i => (hg i).1, fun i => (hg i).2⟩
theorem aw_b0 : (ChS.new 1536 8).Bnd 0 := bnd_all (by decide) (by decide) (by decide) (by decide) (by decide +kernel)
theorem aw_b1 : aS1.Bnd 0 := bnd_all (by decide) (by decide) (by decide) (by decide) (by decide +kernel)
theorem aw_b3 : aS3.Bnd 10 := bnd_all (by decide +kernel) (by decide +kernel) (by decide +kernel) (by decide +kernel) (by decide +kernel)
theorem aw_n : Hid (numberI 8 4 ((0 : Nat) : Int) ((0 : Nat) : Int) = ((0 : Nat) : Int)) := Lib.hid (by decide)
theorem aw_on : aS3.on = true := by decide +kernel
theorem aw_c : aS3.cutB = false := by decide +kernel
theorem aw_bc : aS2.bootC = 0 := by decide +kernel
theorem aw_2 : ((aS3.pageOf 0 48).map byteV)[2]? = some (byteV 21) := by rw [List.getElem?_map, show (aS3.pageOf 0 48)[2]? = some 21 by decide +kernel]; rfl
theorem aw_3 : ((aS3.pageOf 0 48).map byteV)[3]? = some (byteV 255) := by rw [List.getElem?_map, show (aS3.pageOf 0 48)[3]? = some 255 by decide +kernel]; rfl
theorem aw_ops : aS3.tick.ops = 2 := by decide +kernel
theorem aw_cuts : aS3.tick.cuts = 1 := by decide +kernel
theorem aw_used : aS3.tick.ask 8 0 0 = 1 := by decide +kernel
theorem row_read {w : World} {g : Nat} {t : TypeId} {xs : List Value} (h : RowT w g t xs) : ∀ j u, xs[j]? = some u → w.cell? ⟨g, 0 + j, none⟩ = some u := by
  intro j u hu
  rw [Nat.zero_add]
  exact h.cell_ hu
theorem hm8 : Hid (mayB 8 4 32 0 2 = true) := Lib.hid (by decide)
theorem hm0 : Hid (mayB 0 0 0 0 0 = false) := Lib.hid (by decide)
theorem arm_aw (m gx gb : Nat) (w : World) (hC : ChipW w m gx gb none 0 0 8 4 32 0 2 [] (ChS.new 1536 8)) : Calls Try.prog 24 #[.pointer (some ⟨m, 0, none⟩), .agg #[.int .i64 1, .int .i64 3, .int .u8 0]] w fun e' w' => e' = .returned (.int .i64 0) ∧ ChipW w' m gx gb none 0 0 8 4 32 0 2 [] aS1 ∧ Tch (chB m gx gb) w w' :=
  arm_yes m gx gb none 0 0 8 4 32 0 2 [] 1 3 0 0 w _ hC aw_b0 (by omega) rfl (by omega) (by omega) (by omega) (by omega)
theorem prog_aw (m gx gb gA : Nat) (w : World) (hC : ChipW w m gx gb none 0 0 8 4 32 0 2 [] aS1) (hR : RowT w gA 5 ((bytesL 7 48).map byteV)) (hn : ¬ chB m gx gb gA) : Calls Try.prog 17 #[.pointer (some ⟨m, 0, none⟩), .agg #[.int .i64 0, .int .i64 0], .slice (some ⟨gA, 0, none⟩) 48 48] w fun e' w' => e' = .returned (.int .i64 9) ∧ ChipW w' m gx gb none 0 0 8 4 32 0 2 [] aS2 ∧ Tch (chB m gx gb) w w' :=
  prog_cut m gx gb none 0 0 8 4 32 0 2 [] 0 0 0 48 0 (bytesL 7 48) gA 0 48 w _ hC aw_b1 (by omega) rfl (by decide) (by decide) aw_n (Lib.hid (by decide)) (Lib.hid (by decide +kernel)) (by omega) (by omega) (by omega) (row_read hR) hR.lt hn (by simp [bytesL]) (Lib.hid (by decide +kernel)) (by decide +kernel) 3 (by decide) (by decide) (by omega) (by unfold maxLen; omega)
theorem boot_aw (m gx gb : Nat) (w : World) (hC : ChipW w m gx gb none 0 0 8 4 32 0 2 [] aS2) : Calls Try.prog 27 #[.pointer (some ⟨m, 0, none⟩)] w fun e' w' => e' = .returned (.int .i64 0) ∧ ChipW w' m gx gb none 0 0 8 4 32 0 2 [] aS3 ∧ Tch (chB m gx gb) w w' := by
  have := boot_any m gx gb none 0 0 8 4 32 0 2 [] w _ hC
  rwa [aw_bc] at this
theorem read_aw (m gx gb : Nat) (w : World) (hC : ChipW w m gx gb none 0 0 8 4 32 0 2 [] aS3) : Calls Try.prog 19 #[.pointer (some ⟨m, 0, none⟩), .agg #[.int .i64 0, .int .i64 0]] w fun e' w' => (∃ g' c', e' = .returned (.tuple #[.slice (some ⟨g', 0, none⟩) 48 c', .int .i64 0]) ∧ RowT w' g' 5 ((aS3.pageOf 0 48).map byteV) ∧ w.heap.size ≤ g') ∧ ChipW w' m gx gb none 0 0 8 4 32 0 2 [] aS3.tick ∧ Tch (chB m gx gb) w w' :=
  read_ok m gx gb none 0 0 8 4 32 0 2 [] 0 0 0 48 10 w _ hC aw_b3 (by omega) aw_on (Lib.hid aw_c) (by decide) (by decide) aw_n (by decide) (by decide +kernel) (by omega) (by omega) (by omega)
theorem ops_aw (m gx gb : Nat) (w : World) (hC : ChipW w m gx gb none 0 0 8 4 32 0 2 [] aS3.tick) : Calls Try.prog 26 #[.pointer (some ⟨m, 0, none⟩)] w fun e' w' => e' = .returned (.int .i64 2) ∧ w = w' := by
  have := ops_any m gx gb none 0 0 8 4 32 0 2 [] w _ hC
  rwa [aw_ops] at this
theorem cuts_aw (m gx gb : Nat) (w : World) (hC : ChipW w m gx gb none 0 0 8 4 32 0 2 [] aS3.tick) : Calls Try.prog 28 #[.pointer (some ⟨m, 0, none⟩)] w fun e' w' => e' = .returned (.int .i64 1) ∧ w = w' := by
  have := cuts_any m gx gb none 0 0 8 4 32 0 2 [] w _ hC
  rwa [aw_cuts] at this
theorem used_aw (m gx gb : Nat) (w : World) (hC : ChipW w m gx gb none 0 0 8 4 32 0 2 [] aS3.tick) : Calls Try.prog 21 #[.pointer (some ⟨m, 0, none⟩), .int .i64 0] w fun e' w' => e' = .returned (.int .i64 1) ∧ w = w' := by
  have := used_any m gx gb none 0 0 8 4 32 0 2 [] 0 w _ hC
  rwa [aw_used] at this
theorem bytes_aw (w : World) : Calls Try.prog 18 #[.int .u8 7, .int .i64 48] w fun e' w' => (∃ g, e' = .returned (.slice (some ⟨g, 0, none⟩) 48 48) ∧ RowT w' g 5 ((bytesL 7 48).map byteV) ∧ w.heap.size ≤ g) ∧ Below w.heap.size w w' :=
  bytes_any 7 48 w (by omega) (by omega) (by omega)
set_option maxRecDepth 100000 in
set_option maxHeartbeats 4000000 in
theorem awake_any (w : World) : Calls Try.prog 10 #[] w fun e w' => e = .returned (.bool true) ∧ Below w.heap.size w w' := by
  go_enter Try.func10, Try.ntmps10
  go_wp2_with (first
    | (go_at_call 32; ((with_reducible refine (small_any _).mono ?_); rintro e' wN ⟨rfl, hb0⟩; skip))
    | (go_at_call 11; ((with_reducible refine (new0_yes 8 4 32 0 2 1536 8 _ hm8 (by decide) (by decide) (by omega) (by omega) (by omega)).mono ?_); rintro e' wN ⟨⟨m, gx, gb, rfl, hC, h1, h2, h3⟩, hb⟩; have HB0 := btr hb0 hb0.size hb; have hz := hb0.size; have HT : Tch (chB m gx gb) wN wN := Tch.refl _))
    | (go_at_call 24; ((with_reducible refine (arm_aw _ _ _ _ hC).mono ?_); rintro e' wN ⟨rfl, hC2, hT⟩; replace HT := HT.trans hT; replace hC := hC2; clear hC2 hT))
    | (go_at_call 18; ((with_reducible refine (bytes_aw _).mono ?_); rintro e' wN ⟨⟨gA, rfl, hRA, hgA⟩, hb⟩; have hnA : ¬ chB m gx gb gA := (by have := hC.lt; unfold chB; omega); replace hC := hC.below hb; replace HT := HT.then hb; clear hb))
    | (go_at_call 17; ((with_reducible refine (prog_aw _ _ _ _ _ hC hRA hnA).mono ?_); rintro e' wN ⟨rfl, hC2, hT⟩; replace HT := HT.trans hT; replace hC := hC2; clear hC2 hT hRA))
    | (go_at_call 27; ((with_reducible refine (boot_aw _ _ _ _ hC).mono ?_); rintro e' wN ⟨rfl, hC2, hT⟩; replace HT := HT.trans hT; replace hC := hC2; clear hC2 hT))
    | (go_at_call 19; ((with_reducible refine (read_aw _ _ _ _ hC).mono ?_); rintro e' wN ⟨⟨g9, c9, rfl, hR9, -⟩, hC2, hT⟩; replace HT := HT.trans hT; replace hC := hC2; clear hC2 hT; have c2 := hR9.cell_ (i := 2) aw_2; have c3 := hR9.cell_ (i := 3) aw_3; unfold byteV at c2 c3))
    | (go_at_call 26; ((with_reducible refine (ops_aw _ _ _ _ hC).mono ?_); rintro e' wN ⟨rfl, rfl⟩; skip))
    | (go_at_call 28; ((with_reducible refine (cuts_aw _ _ _ _ hC).mono ?_); rintro e' wN ⟨rfl, rfl⟩; skip))
    | (go_at_call 21; ((with_reducible refine (used_aw _ _ _ _ hC).mono ?_); rintro e' wN ⟨rfl, rfl⟩; skip))
    | (go_at_call 11; ((with_reducible refine (new0_no 0 0 0 0 0 _ hm0).mono ?_); rintro e' wN ⟨rfl, hb⟩; replace HT := HT.then hb)))
  go_ret
  exact ⟨rfl, HB0.trans (HT.below HB0.size (fun g hg => by unfold chB at hg; omega))⟩
end Go.Proofs.Ytplniojeaodjiaa
