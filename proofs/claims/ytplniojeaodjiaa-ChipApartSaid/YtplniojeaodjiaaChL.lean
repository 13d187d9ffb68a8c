/- The laws' own bytes, small; calls of no chip. -/
import Derived.Test.YtplniojeaodjiaaChK
namespace Go.Proofs.Ytplniojeaodjiaa
open Go.ChangeShapes Go.WideShapes Go.ChangeAt Go.RowKit
set_option linter.unusedSimpArgs false
set_option linter.unusedVariables false

theorem small_any (w : World) : Calls Try.prog 32 #[] w fun e w' => e = .returned (.agg #[.int .i64 8, .int .i64 4, .int .i64 32, .int .i64 0, .int .i64 2]) ∧ Below w.heap.size w w' := by
  go_enter Try.func32, Try.ntmps32
  go_wp2
  refine bodyPost_ret (v := .agg #[.int .i64 8, .int .i64 4, .int .i64 32, .int .i64 0, .int .i64 2]) (by simp [results, Try.results32, go_sem]) rfl ⟨rfl, ?_⟩
  exact (Below.refl _ _).alloc (Nat.le_refl _) _
theorem read_nil (x y : Int) (w : World) : Calls Try.prog 19 #[.pointer none, .agg #[.int .i64 x, .int .i64 y]] w fun e' w' => e' = .returned (.tuple #[.slice none 0 0, .int .i64 1]) ∧ Below w.heap.size w w' := by
  go_enter Try.func19, Try.ntmps19
  go_wp2
  go_ret2
  exact ⟨rfl, (Below.refl _ _).alloc (Nat.le_refl _) _⟩
theorem program_nil (x y : Int) (A : Option Addr) (n c : Nat) (w : World) : Calls Try.prog 17 #[.pointer none, .agg #[.int .i64 x, .int .i64 y], .slice A n c] w fun e' w' => e' = .returned (.int .i64 1) ∧ Below w.heap.size w w' := by
  go_enter Try.func17, Try.ntmps17
  go_wp2
  go_ret
  exact ⟨rfl, (Below.refl _ _).alloc (Nat.le_refl _) _⟩
theorem erase_nil (x : Int) (w : World) : Calls Try.prog 22 #[.pointer none, .int .i64 x] w fun e' w' => e' = .returned (.int .i64 1) ∧ w = w' := by
  go_enter Try.func22, Try.ntmps22
  go_wp2
  go_ret
  exact ⟨rfl, rfl⟩
theorem arm_nil (x y : Int) (z : Int) (w : World) : Calls Try.prog 24 #[.pointer none, .agg #[.int .i64 x, .int .i64 y, .int .u8 z]] w fun e' w' => e' = .returned (.int .i64 1) ∧ Below w.heap.size w w' := by
  go_enter Try.func24, Try.ntmps24
  go_wp2
  go_ret
  exact ⟨rfl, (Below.refl _ _).alloc (Nat.le_refl _) _⟩
theorem boot_nil  (w : World) : Calls Try.prog 27 #[.pointer none] w fun e' w' => e' = .returned (.int .i64 1) ∧ w = w' := by
  go_enter Try.func27, Try.ntmps27
  go_wp2
  go_ret
  exact ⟨rfl, rfl⟩
theorem on_nil  (w : World) : Calls Try.prog 25 #[.pointer none] w fun e' w' => e' = .returned (.bool false) ∧ w = w' := by
  go_enter Try.func25, Try.ntmps25
  go_wp2
  go_ret
  exact ⟨rfl, rfl⟩
theorem ops_nil  (w : World) : Calls Try.prog 26 #[.pointer none] w fun e' w' => e' = .returned (.int .i64 0) ∧ w = w' := by
  go_enter Try.func26, Try.ntmps26
  go_wp2
  go_ret
  exact ⟨rfl, rfl⟩
theorem wear_nil (x : Int) (w : World) : Calls Try.prog 23 #[.pointer none, .int .i64 x] w fun e' w' => e' = .returned (.int .i64 0) ∧ w = w' := by
  go_enter Try.func23, Try.ntmps23
  go_wp2
  go_ret
  exact ⟨rfl, rfl⟩
theorem used_nil (x : Int) (w : World) : Calls Try.prog 21 #[.pointer none, .int .i64 x] w fun e' w' => e' = .returned (.int .i64 0) ∧ w = w' := by
  go_enter Try.func21, Try.ntmps21
  go_wp2
  go_ret
  exact ⟨rfl, rfl⟩
theorem failed_nil (x : Int) (w : World) : Calls Try.prog 29 #[.pointer none, .int .i64 x] w fun e' w' => e' = .returned (.bool false) ∧ w = w' := by
  go_enter Try.func29, Try.ntmps29
  go_wp2
  go_ret
  exact ⟨rfl, rfl⟩
theorem bad_nil (x : Int) (w : World) : Calls Try.prog 30 #[.pointer none, .int .i64 x] w fun e' w' => e' = .returned (.bool false) ∧ w = w' := by
  go_enter Try.func30, Try.ntmps30
  go_wp2
  go_ret
  exact ⟨rfl, rfl⟩
theorem cuts_nil  (w : World) : Calls Try.prog 28 #[.pointer none] w fun e' w' => e' = .returned (.int .i64 0) ∧ w = w' := by
  go_enter Try.func28, Try.ntmps28
  go_wp2
  go_ret
  exact ⟨rfl, rfl⟩
theorem geometry_nil (w : World) : Calls Try.prog 31 #[.pointer none] w fun e' w' => e' = .returned (.agg #[.int .i64 0, .int .i64 0, .int .i64 0, .int .i64 0, .int .i64 0]) ∧ Below w.heap.size w w' := by
  go_enter Try.func31, Try.ntmps31
  go_wp2
  refine bodyPost_ret (v := .agg #[.int .i64 0, .int .i64 0, .int .i64 0, .int .i64 0, .int .i64 0]) (by simp [results, Try.results31, go_sem]) rfl ⟨rfl, ?_⟩
  exact (Below.refl _ _).alloc (Nat.le_refl _) _
def bytesL (n : Nat) (Q : Nat) : List Nat := (List.range Q).map fun i => (n + i * 7) % 256
theorem bytesL_len (n Q : Nat) : (bytesL n Q).length = Q := by simp [bytesL]
def bytesP (n Q k : Nat) : List Value := (bytesL n k).map byteV ++ List.replicate (Q - k) (byteV 0)
theorem bytesP_step (n Q k : Nat) (h : k < Q) : (bytesP n Q k).set k (byteV ((n + k * 7) % 256)) = bytesP n Q (k + 1) := by
  unfold bytesP
  have h1 : Q - k = (Q - (k + 1)) + 1 := by omega
  rw [h1, List.replicate_succ, List.set_append_right _ _ (by simp [bytesL])]
  simp only [List.length_map, bytesL_len, Nat.sub_self, List.set_cons_zero]
  unfold bytesL
  rw [List.range_succ, List.map_append, List.map_append, List.append_assoc]
  rfl
theorem bytesP_full (n Q : Nat) : bytesP n Q Q = (bytesL n Q).map byteV := by simp [bytesP]
theorem bytesP_zero (n Q : Nat) : bytesP n Q 0 = List.replicate Q (byteV 0) := by simp [bytesP, bytesL]
theorem bytesP_len (n Q k : Nat) (h : k ≤ Q) : (bytesP n Q k).length = Q := by simp [bytesP, bytesL_len]; omega
theorem bytesP_at (n Q k : Nat) (h : k < Q) : (bytesP n Q k)[k]? = some (byteV 0) := by
  unfold bytesP
  rw [List.getElem?_append_right (by simp [bytesL]), List.getElem?_replicate]
  simp [bytesL]
  omega
set_option maxHeartbeats 4000000 in
theorem bytes_any (n Q : Nat) (w : World) (hn : n < 256) (hQ : Q ≤ 200) (hQ1 : 1 ≤ Q) : Calls Try.prog 18 #[.int .u8 (n : Int), .int .i64 (Q : Int)] w fun e' w' => (∃ g, e' = .returned (.slice (some ⟨g, 0, none⟩) Q Q) ∧ RowT w' g 5 ((bytesL n Q).map byteV) ∧ w.heap.size ≤ g) ∧ Below w.heap.size w w' := by
  have i0 : (0 : Int) ≤ (Q : Int) := by omega
  have i1 : (Q : Int) ≤ 200 := by omega
  have m1 : max (Q : Int) 0 = (Q : Int) := by omega
  have m2 : (if (Q : Int) < 0 then (0 : Int) else (Q : Int)) = (Q : Int) := by rw [if_neg (by omega)]
  have m3 : (if (200 : Int) < (Q : Int) then (200 : Int) else (Q : Int)) = (Q : Int) := by rw [if_neg (by omega)]
  go_enter Try.func18, Try.ntmps18
  go_wp2_with (at_make; obtain ⟨ti0, hi, hz0, hz1, hz2⟩ := info_parts infoByte; refine wpList_make_full _ rfl _ _ 48 rfl w.heap.size 5 ti0 (.int .u8 0) 1 Try.underlying48 hi hz0 hz1 _ _ _ _ Q rfl rfl rfl rfl (by rw [hz2]; omega) (by unfold maxLen; omega) (Nat.le_refl _) ?_; intro w1 hown1 hgrow1; clear hi hz0 hz1 hz2)
  have hB1 : Below w.heap.size w w1 := (Below.refl _ _).grown hgrow1 (Nat.le_refl _) (fun j hj => by cases hj)
  rw [show (madeCells (Value.int .u8 0).cells (Q * 1)).toList = List.replicate (Q * 1) (Value.int .u8 0) from toList_madeCells_one _ _, Nat.mul_one] at hown1
  have hR1 : RowT w1 w.heap.size 5 (bytesP n Q 0) := by rw [bytesP_zero]; exact own_rowS hown1
  clear hown1 hgrow1
  go_loopw [6] (fun s6 wr => ∃ k : Nat, k ≤ Q ∧ s6 = .int .i64 (k : Int) ∧ RowT wr w.heap.size 5 (bytesP n Q k) ∧ Below w.heap.size w wr) (fun s6 _ => Q - (intOf s6).toNat)
  case atStart => exact ⟨0, Nat.zero_le _, rfl, hR1, hB1⟩
  case round =>
    clear hR1 hB1
    obtain ⟨k, hk, rfl, hR, hB⟩ := hrel
    by_cases hlt : k < Q
    · have c0 := hR.cell_ (bytesP_at n Q k hlt)
      have f0 := hR.free k
      have k0 : (0 : Int) ≤ (k : Int) := by omega
      have k1 : (k : Int) < (Q : Int) := by omega
      have k2 : (k : Int) ≤ 200 := by omega
      have hs := hR.set_ (by rw [bytesP_len n Q k (by omega)]; exact hlt) (byteV ((n + k * 7) % 256))
      rw [bytesP_step n Q k hlt] at hs
      have HS := Lib.hid hs
      clear hs
      unfold byteV at c0
      go_wp2_with fail
      go_roundw
      case rel =>
        refine ⟨k + 1, by omega, by go_num, ?_, hB.setCell (Nat.le_refl _) _⟩
        have e1 : (((n + k * 7) % 256 : Nat) : Int) = ((n : Int) + (k : Int) * 7) % 256 := by omega
        rw [← e1]
        exact HS.out
      case measure => simp [intOf]; omega
    · have hkQ : k = Q := by omega
      subst hkQ
      rw [bytesP_full] at hR
      have HR := Lib.hid hR
      clear hR
      go_wp2_with fail
      go_ret
      exact ⟨⟨_, rfl, HR.out, Nat.le_refl _⟩, hB⟩
end Go.Proofs.Ytplniojeaodjiaa
