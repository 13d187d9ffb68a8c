/- In the tied seat: Len64. -/
import Derived.Test.YtnbiioighjdkjaaDoorRaU
namespace Go.Proofs.YtnbiioighjdkjaaDoor
open Go.ChangeShapes Go.WideShapes Go.ChangeAt Go.RowKit
set_option linter.unusedSimpArgs false
set_option linter.unusedVariables false

set_option maxRecDepth 100000
theorem len8_fin : ∀ x : Fin 256, ((ByteArray.mk #[0, 1, 2, 2, 3, 3, 3, 3, 4, 4, 4, 4, 4, 4, 4, 4, 5, 5, 5, 5, 5, 5, 5, 5, 5, 5, 5, 5, 5, 5, 5, 5, 6, 6, 6, 6, 6, 6, 6, 6, 6, 6, 6, 6, 6, 6, 6, 6, 6, 6, 6, 6, 6, 6, 6, 6, 6, 6, 6, 6, 6, 6, 6, 6, 7, 7, 7, 7, 7, 7, 7, 7, 7, 7, 7, 7, 7, 7, 7, 7, 7, 7, 7, 7, 7, 7, 7, 7, 7, 7, 7, 7, 7, 7, 7, 7, 7, 7, 7, 7, 7, 7, 7, 7, 7, 7, 7, 7, 7, 7, 7, 7, 7, 7, 7, 7, 7, 7, 7, 7, 7, 7, 7, 7, 7, 7, 7, 7, 8, 8, 8, 8, 8, 8, 8, 8, 8, 8, 8, 8, 8, 8, 8, 8, 8, 8, 8, 8, 8, 8, 8, 8, 8, 8, 8, 8, 8, 8, 8, 8, 8, 8, 8, 8, 8, 8, 8, 8, 8, 8, 8, 8, 8, 8, 8, 8, 8, 8, 8, 8, 8, 8, 8, 8, 8, 8, 8, 8, 8, 8, 8, 8, 8, 8, 8, 8, 8, 8, 8, 8, 8, 8, 8, 8, 8, 8, 8, 8, 8, 8, 8, 8, 8, 8, 8, 8, 8, 8, 8, 8, 8, 8, 8, 8, 8, 8, 8, 8, 8, 8, 8, 8, 8, 8, 8, 8, 8, 8, 8, 8, 8, 8, 8, 8, 8, 8, 8, 8, 8, 8, 8, 8, 8, 8, 8, 8])[x.val]'(Nat.lt_of_lt_of_eq x.isLt (by decide +kernel))).toNat = lenN x.val := by decide +kernel
theorem len8_le : ∀ x : Fin 256, lenN x.val ≤ 8 := by decide +kernel
theorem len8_at (x : Nat) (hx : x < 256) (h : x < (ByteArray.mk #[0, 1, 2, 2, 3, 3, 3, 3, 4, 4, 4, 4, 4, 4, 4, 4, 5, 5, 5, 5, 5, 5, 5, 5, 5, 5, 5, 5, 5, 5, 5, 5, 6, 6, 6, 6, 6, 6, 6, 6, 6, 6, 6, 6, 6, 6, 6, 6, 6, 6, 6, 6, 6, 6, 6, 6, 6, 6, 6, 6, 6, 6, 6, 6, 7, 7, 7, 7, 7, 7, 7, 7, 7, 7, 7, 7, 7, 7, 7, 7, 7, 7, 7, 7, 7, 7, 7, 7, 7, 7, 7, 7, 7, 7, 7, 7, 7, 7, 7, 7, 7, 7, 7, 7, 7, 7, 7, 7, 7, 7, 7, 7, 7, 7, 7, 7, 7, 7, 7, 7, 7, 7, 7, 7, 7, 7, 7, 7, 8, 8, 8, 8, 8, 8, 8, 8, 8, 8, 8, 8, 8, 8, 8, 8, 8, 8, 8, 8, 8, 8, 8, 8, 8, 8, 8, 8, 8, 8, 8, 8, 8, 8, 8, 8, 8, 8, 8, 8, 8, 8, 8, 8, 8, 8, 8, 8, 8, 8, 8, 8, 8, 8, 8, 8, 8, 8, 8, 8, 8, 8, 8, 8, 8, 8, 8, 8, 8, 8, 8, 8, 8, 8, 8, 8, 8, 8, 8, 8, 8, 8, 8, 8, 8, 8, 8, 8, 8, 8, 8, 8, 8, 8, 8, 8, 8, 8, 8, 8, 8, 8, 8, 8, 8, 8, 8, 8, 8, 8, 8, 8, 8, 8, 8, 8, 8, 8, 8, 8, 8, 8, 8, 8, 8, 8, 8, 8]).size) : wrap64 (wrap64 (((ByteArray.mk #[0, 1, 2, 2, 3, 3, 3, 3, 4, 4, 4, 4, 4, 4, 4, 4, 5, 5, 5, 5, 5, 5, 5, 5, 5, 5, 5, 5, 5, 5, 5, 5, 6, 6, 6, 6, 6, 6, 6, 6, 6, 6, 6, 6, 6, 6, 6, 6, 6, 6, 6, 6, 6, 6, 6, 6, 6, 6, 6, 6, 6, 6, 6, 6, 7, 7, 7, 7, 7, 7, 7, 7, 7, 7, 7, 7, 7, 7, 7, 7, 7, 7, 7, 7, 7, 7, 7, 7, 7, 7, 7, 7, 7, 7, 7, 7, 7, 7, 7, 7, 7, 7, 7, 7, 7, 7, 7, 7, 7, 7, 7, 7, 7, 7, 7, 7, 7, 7, 7, 7, 7, 7, 7, 7, 7, 7, 7, 7, 8, 8, 8, 8, 8, 8, 8, 8, 8, 8, 8, 8, 8, 8, 8, 8, 8, 8, 8, 8, 8, 8, 8, 8, 8, 8, 8, 8, 8, 8, 8, 8, 8, 8, 8, 8, 8, 8, 8, 8, 8, 8, 8, 8, 8, 8, 8, 8, 8, 8, 8, 8, 8, 8, 8, 8, 8, 8, 8, 8, 8, 8, 8, 8, 8, 8, 8, 8, 8, 8, 8, 8, 8, 8, 8, 8, 8, 8, 8, 8, 8, 8, 8, 8, 8, 8, 8, 8, 8, 8, 8, 8, 8, 8, 8, 8, 8, 8, 8, 8, 8, 8, 8, 8, 8, 8, 8, 8, 8, 8, 8, 8, 8, 8, 8, 8, 8, 8, 8, 8, 8, 8, 8, 8, 8, 8, 8, 8])[x]'h).toNat : Int)) = ((lenN x : Nat) : Int) := by
  have e := len8_fin ⟨x, hx⟩
  have b := len8_le ⟨x, hx⟩
  dsimp only at e b
  rw [e]
  obtain ⟨l, hl⟩ : ∃ l, lenN x = l := ⟨_, rfl⟩
  rw [hl] at b ⊢
  clear e hl
  unfold wrap64
  omega
theorem len_high {x k : Nat} (h : HighB x k) : lenN x = k + 1 := by
  have h0 : x ≠ 0 := bit_ne h.1
  unfold lenN
  rw [if_neg h0]
  have g := high_log h0
  rcases Nat.lt_trichotomy x.log2 k with h1 | h1 | h1
  · have := h.1
    rw [g.2 _ h1] at this
    cases this
  · omega
  · have := h.2 _ h1
    rw [g.1] at this
    cases this
set_option maxHeartbeats 4000000 in
theorem len_low (x : Nat) (w : World) (hx : x < 256) : Calls Tryd.prog 20 #[.int .u64 (x : Int)] w fun e' w' => e' = .returned (.int .i64 ((lenN x : Nat) : Int)) ∧ w = w' := by
  have c1 : ¬ (4294967296 : Int) ≤ (x : Int) := by omega
  have c2 : ¬ (65536 : Int) ≤ (x : Int) := by omega
  have c3 : ¬ (256 : Int) ≤ (x : Int) := by omega
  have x0 : (0 : Int) ≤ (x : Int) := by omega
  have x1 : (x : Int) < 256 := by omega
  go_enter Tryd.func20, Tryd.ntmps20
  go_wp2
  go_ret
  exact ⟨congrArg (fun z => Ending.returned (Value.int .i64 z)) (len8_at x hx _), rfl⟩

theorem len8_at2 (x : Nat) (m : Int) (hx : x < 256) (h : x < (ByteArray.mk #[0, 1, 2, 2, 3, 3, 3, 3, 4, 4, 4, 4, 4, 4, 4, 4, 5, 5, 5, 5, 5, 5, 5, 5, 5, 5, 5, 5, 5, 5, 5, 5, 6, 6, 6, 6, 6, 6, 6, 6, 6, 6, 6, 6, 6, 6, 6, 6, 6, 6, 6, 6, 6, 6, 6, 6, 6, 6, 6, 6, 6, 6, 6, 6, 7, 7, 7, 7, 7, 7, 7, 7, 7, 7, 7, 7, 7, 7, 7, 7, 7, 7, 7, 7, 7, 7, 7, 7, 7, 7, 7, 7, 7, 7, 7, 7, 7, 7, 7, 7, 7, 7, 7, 7, 7, 7, 7, 7, 7, 7, 7, 7, 7, 7, 7, 7, 7, 7, 7, 7, 7, 7, 7, 7, 7, 7, 7, 7, 8, 8, 8, 8, 8, 8, 8, 8, 8, 8, 8, 8, 8, 8, 8, 8, 8, 8, 8, 8, 8, 8, 8, 8, 8, 8, 8, 8, 8, 8, 8, 8, 8, 8, 8, 8, 8, 8, 8, 8, 8, 8, 8, 8, 8, 8, 8, 8, 8, 8, 8, 8, 8, 8, 8, 8, 8, 8, 8, 8, 8, 8, 8, 8, 8, 8, 8, 8, 8, 8, 8, 8, 8, 8, 8, 8, 8, 8, 8, 8, 8, 8, 8, 8, 8, 8, 8, 8, 8, 8, 8, 8, 8, 8, 8, 8, 8, 8, 8, 8, 8, 8, 8, 8, 8, 8, 8, 8, 8, 8, 8, 8, 8, 8, 8, 8, 8, 8, 8, 8, 8, 8, 8, 8, 8, 8, 8, 8]).size) (hm : 0 ≤ m ∧ m ≤ 56) : wrap64 (m + wrap64 (((ByteArray.mk #[0, 1, 2, 2, 3, 3, 3, 3, 4, 4, 4, 4, 4, 4, 4, 4, 5, 5, 5, 5, 5, 5, 5, 5, 5, 5, 5, 5, 5, 5, 5, 5, 6, 6, 6, 6, 6, 6, 6, 6, 6, 6, 6, 6, 6, 6, 6, 6, 6, 6, 6, 6, 6, 6, 6, 6, 6, 6, 6, 6, 6, 6, 6, 6, 7, 7, 7, 7, 7, 7, 7, 7, 7, 7, 7, 7, 7, 7, 7, 7, 7, 7, 7, 7, 7, 7, 7, 7, 7, 7, 7, 7, 7, 7, 7, 7, 7, 7, 7, 7, 7, 7, 7, 7, 7, 7, 7, 7, 7, 7, 7, 7, 7, 7, 7, 7, 7, 7, 7, 7, 7, 7, 7, 7, 7, 7, 7, 7, 8, 8, 8, 8, 8, 8, 8, 8, 8, 8, 8, 8, 8, 8, 8, 8, 8, 8, 8, 8, 8, 8, 8, 8, 8, 8, 8, 8, 8, 8, 8, 8, 8, 8, 8, 8, 8, 8, 8, 8, 8, 8, 8, 8, 8, 8, 8, 8, 8, 8, 8, 8, 8, 8, 8, 8, 8, 8, 8, 8, 8, 8, 8, 8, 8, 8, 8, 8, 8, 8, 8, 8, 8, 8, 8, 8, 8, 8, 8, 8, 8, 8, 8, 8, 8, 8, 8, 8, 8, 8, 8, 8, 8, 8, 8, 8, 8, 8, 8, 8, 8, 8, 8, 8, 8, 8, 8, 8, 8, 8, 8, 8, 8, 8, 8, 8, 8, 8, 8, 8, 8, 8, 8, 8, 8, 8, 8, 8])[x]'h).toNat : Int)) = m + ((lenN x : Nat) : Int) := by
  have e := len8_fin ⟨x, hx⟩
  have b := len8_le ⟨x, hx⟩
  dsimp only at e b
  rw [e]
  obtain ⟨l, hl⟩ : ∃ l, lenN x = l := ⟨_, rfl⟩
  rw [hl] at b ⊢
  clear e hl
  unfold wrap64
  omega
set_option maxHeartbeats 4000000 in
theorem len_000 (x x1 x2 x3 : Nat) (w : World) (hx : x < 18446744073709551616)
    (h0 : x < 4294967296) (e0 : x1 = x)
    (h1 : x1 < 65536) (e1 : x2 = x1)
    (h2 : x2 < 256) (e2 : x3 = x2)
    : Calls Tryd.prog 20 #[.int .u64 (x : Int)] w fun e' w' => e' = .returned (.int .i64 ((lenN x : Nat) : Int)) ∧ w = w' := by
  have HL : Hid ((0 : Int) + ((lenN x3 : Nat) : Int) = ((lenN x : Nat) : Int)) := Lib.hid (by
    have k0 : lenN x = lenN x1 := by rw [e0]
    have k1 : lenN x1 = lenN x2 := by rw [e1]
    have k2 : lenN x2 = lenN x3 := by rw [e2]
    omega)
  have hx3 : x3 < 256 := by omega
  have c0 : ¬ (4294967296 : Int) ≤ (x : Int) := by omega
  have c1 : ¬ (65536 : Int) ≤ (x1 : Int) := by omega
  have c2 : ¬ (256 : Int) ≤ (x2 : Int) := by omega
  have y0 : (0 : Int) ≤ (x3 : Int) := by omega
  have y1 : (x3 : Int) < 256 := by omega
  subst e0
  subst e1
  subst e2
  go_enter Tryd.func20, Tryd.ntmps20
  go_wp2
  go_ret
  refine ⟨congrArg (fun z => Ending.returned (Value.int .i64 z)) ?_, rfl⟩
  first | exact len8_at _ hx3 _ | exact (len8_at2 _ _ hx3 _ (by decide)).trans HL.out
set_option maxHeartbeats 4000000 in
theorem len_001 (x x1 x2 x3 : Nat) (w : World) (hx : x < 18446744073709551616)
    (h0 : x < 4294967296) (e0 : x1 = x)
    (h1 : x1 < 65536) (e1 : x2 = x1)
    (h2 : 256 ≤ x2) (e2 : x2 / 256 = x3)
    : Calls Tryd.prog 20 #[.int .u64 (x : Int)] w fun e' w' => e' = .returned (.int .i64 ((lenN x : Nat) : Int)) ∧ w = w' := by
  have HL : Hid ((8 : Int) + ((lenN x3 : Nat) : Int) = ((lenN x : Nat) : Int)) := Lib.hid (by
    have k0 : lenN x = lenN x1 := by rw [e0]
    have k1 : lenN x1 = lenN x2 := by rw [e1]
    have k2 := len_shift x2 8 (by omega)
    rw [show (2 : Nat) ^ 8 = 256 by decide, e2] at k2
    omega)
  have hx3 : x3 < 256 := by omega
  have c0 : ¬ (4294967296 : Int) ≤ (x : Int) := by omega
  have c1 : ¬ (65536 : Int) ≤ (x1 : Int) := by omega
  have c2 : (256 : Int) ≤ (x2 : Int) := by omega
  have d2 : (x2 : Int) / 256 = (x3 : Int) := by omega
  have y0 : (0 : Int) ≤ (x3 : Int) := by omega
  have y1 : (x3 : Int) < 256 := by omega
  subst e0
  subst e1
  clear h2 e2
  go_enter Tryd.func20, Tryd.ntmps20
  go_wp2
  go_ret
  refine ⟨congrArg (fun z => Ending.returned (Value.int .i64 z)) ?_, rfl⟩
  first | exact len8_at _ hx3 _ | exact (len8_at2 _ _ hx3 _ (by decide)).trans HL.out
set_option maxHeartbeats 4000000 in
theorem len_010 (x x1 x2 x3 : Nat) (w : World) (hx : x < 18446744073709551616)
    (h0 : x < 4294967296) (e0 : x1 = x)
    (h1 : 65536 ≤ x1) (e1 : x1 / 65536 = x2)
    (h2 : x2 < 256) (e2 : x3 = x2)
    : Calls Tryd.prog 20 #[.int .u64 (x : Int)] w fun e' w' => e' = .returned (.int .i64 ((lenN x : Nat) : Int)) ∧ w = w' := by
  have HL : Hid ((16 : Int) + ((lenN x3 : Nat) : Int) = ((lenN x : Nat) : Int)) := Lib.hid (by
    have k0 : lenN x = lenN x1 := by rw [e0]
    have k1 := len_shift x1 16 (by omega)
    rw [show (2 : Nat) ^ 16 = 65536 by decide, e1] at k1
    have k2 : lenN x2 = lenN x3 := by rw [e2]
    omega)
  have hx3 : x3 < 256 := by omega
  have c0 : ¬ (4294967296 : Int) ≤ (x : Int) := by omega
  have c1 : (65536 : Int) ≤ (x1 : Int) := by omega
  have d1 : (x1 : Int) / 65536 = (x2 : Int) := by omega
  have c2 : ¬ (256 : Int) ≤ (x2 : Int) := by omega
  have y0 : (0 : Int) ≤ (x3 : Int) := by omega
  have y1 : (x3 : Int) < 256 := by omega
  subst e0
  clear h1 e1
  subst e2
  go_enter Tryd.func20, Tryd.ntmps20
  go_wp2
  go_ret
  refine ⟨congrArg (fun z => Ending.returned (Value.int .i64 z)) ?_, rfl⟩
  first | exact len8_at _ hx3 _ | exact (len8_at2 _ _ hx3 _ (by decide)).trans HL.out
set_option maxHeartbeats 4000000 in
theorem len_011 (x x1 x2 x3 : Nat) (w : World) (hx : x < 18446744073709551616)
    (h0 : x < 4294967296) (e0 : x1 = x)
    (h1 : 65536 ≤ x1) (e1 : x1 / 65536 = x2)
    (h2 : 256 ≤ x2) (e2 : x2 / 256 = x3)
    : Calls Tryd.prog 20 #[.int .u64 (x : Int)] w fun e' w' => e' = .returned (.int .i64 ((lenN x : Nat) : Int)) ∧ w = w' := by
  have HL : Hid ((24 : Int) + ((lenN x3 : Nat) : Int) = ((lenN x : Nat) : Int)) := Lib.hid (by
    have k0 : lenN x = lenN x1 := by rw [e0]
    have k1 := len_shift x1 16 (by omega)
    rw [show (2 : Nat) ^ 16 = 65536 by decide, e1] at k1
    have k2 := len_shift x2 8 (by omega)
    rw [show (2 : Nat) ^ 8 = 256 by decide, e2] at k2
    omega)
  have hx3 : x3 < 256 := by omega
  have c0 : ¬ (4294967296 : Int) ≤ (x : Int) := by omega
  have c1 : (65536 : Int) ≤ (x1 : Int) := by omega
  have d1 : (x1 : Int) / 65536 = (x2 : Int) := by omega
  have c2 : (256 : Int) ≤ (x2 : Int) := by omega
  have d2 : (x2 : Int) / 256 = (x3 : Int) := by omega
  have y0 : (0 : Int) ≤ (x3 : Int) := by omega
  have y1 : (x3 : Int) < 256 := by omega
  subst e0
  clear h1 e1
  clear h2 e2
  go_enter Tryd.func20, Tryd.ntmps20
  go_wp2
  go_ret
  refine ⟨congrArg (fun z => Ending.returned (Value.int .i64 z)) ?_, rfl⟩
  first | exact len8_at _ hx3 _ | exact (len8_at2 _ _ hx3 _ (by decide)).trans HL.out
set_option maxHeartbeats 4000000 in
theorem len_100 (x x1 x2 x3 : Nat) (w : World) (hx : x < 18446744073709551616)
    (h0 : 4294967296 ≤ x) (e0 : x / 4294967296 = x1)
    (h1 : x1 < 65536) (e1 : x2 = x1)
    (h2 : x2 < 256) (e2 : x3 = x2)
    : Calls Tryd.prog 20 #[.int .u64 (x : Int)] w fun e' w' => e' = .returned (.int .i64 ((lenN x : Nat) : Int)) ∧ w = w' := by
  have HL : Hid ((32 : Int) + ((lenN x3 : Nat) : Int) = ((lenN x : Nat) : Int)) := Lib.hid (by
    have k0 := len_shift x 32 (by omega)
    rw [show (2 : Nat) ^ 32 = 4294967296 by decide, e0] at k0
    have k1 : lenN x1 = lenN x2 := by rw [e1]
    have k2 : lenN x2 = lenN x3 := by rw [e2]
    omega)
  have hx3 : x3 < 256 := by omega
  have c0 : (4294967296 : Int) ≤ (x : Int) := by omega
  have d0 : (x : Int) / 4294967296 = (x1 : Int) := by omega
  have c1 : ¬ (65536 : Int) ≤ (x1 : Int) := by omega
  have c2 : ¬ (256 : Int) ≤ (x2 : Int) := by omega
  have y0 : (0 : Int) ≤ (x3 : Int) := by omega
  have y1 : (x3 : Int) < 256 := by omega
  clear h0 e0
  subst e1
  subst e2
  go_enter Tryd.func20, Tryd.ntmps20
  go_wp2
  go_ret
  refine ⟨congrArg (fun z => Ending.returned (Value.int .i64 z)) ?_, rfl⟩
  first | exact len8_at _ hx3 _ | exact (len8_at2 _ _ hx3 _ (by decide)).trans HL.out
set_option maxHeartbeats 4000000 in
theorem len_101 (x x1 x2 x3 : Nat) (w : World) (hx : x < 18446744073709551616)
    (h0 : 4294967296 ≤ x) (e0 : x / 4294967296 = x1)
    (h1 : x1 < 65536) (e1 : x2 = x1)
    (h2 : 256 ≤ x2) (e2 : x2 / 256 = x3)
    : Calls Tryd.prog 20 #[.int .u64 (x : Int)] w fun e' w' => e' = .returned (.int .i64 ((lenN x : Nat) : Int)) ∧ w = w' := by
  have HL : Hid ((40 : Int) + ((lenN x3 : Nat) : Int) = ((lenN x : Nat) : Int)) := Lib.hid (by
    have k0 := len_shift x 32 (by omega)
    rw [show (2 : Nat) ^ 32 = 4294967296 by decide, e0] at k0
    have k1 : lenN x1 = lenN x2 := by rw [e1]
    have k2 := len_shift x2 8 (by omega)
    rw [show (2 : Nat) ^ 8 = 256 by decide, e2] at k2
    omega)
  have hx3 : x3 < 256 := by omega
  have c0 : (4294967296 : Int) ≤ (x : Int) := by omega
  have d0 : (x : Int) / 4294967296 = (x1 : Int) := by omega
  have c1 : ¬ (65536 : Int) ≤ (x1 : Int) := by omega
  have c2 : (256 : Int) ≤ (x2 : Int) := by omega
  have d2 : (x2 : Int) / 256 = (x3 : Int) := by omega
  have y0 : (0 : Int) ≤ (x3 : Int) := by omega
  have y1 : (x3 : Int) < 256 := by omega
  clear h0 e0
  subst e1
  clear h2 e2
  go_enter Tryd.func20, Tryd.ntmps20
  go_wp2
  go_ret
  refine ⟨congrArg (fun z => Ending.returned (Value.int .i64 z)) ?_, rfl⟩
  first | exact len8_at _ hx3 _ | exact (len8_at2 _ _ hx3 _ (by decide)).trans HL.out
set_option maxHeartbeats 4000000 in
theorem len_110 (x x1 x2 x3 : Nat) (w : World) (hx : x < 18446744073709551616)
    (h0 : 4294967296 ≤ x) (e0 : x / 4294967296 = x1)
    (h1 : 65536 ≤ x1) (e1 : x1 / 65536 = x2)
    (h2 : x2 < 256) (e2 : x3 = x2)
    : Calls Tryd.prog 20 #[.int .u64 (x : Int)] w fun e' w' => e' = .returned (.int .i64 ((lenN x : Nat) : Int)) ∧ w = w' := by
  have HL : Hid ((48 : Int) + ((lenN x3 : Nat) : Int) = ((lenN x : Nat) : Int)) := Lib.hid (by
    have k0 := len_shift x 32 (by omega)
    rw [show (2 : Nat) ^ 32 = 4294967296 by decide, e0] at k0
    have k1 := len_shift x1 16 (by omega)
    rw [show (2 : Nat) ^ 16 = 65536 by decide, e1] at k1
    have k2 : lenN x2 = lenN x3 := by rw [e2]
    omega)
  have hx3 : x3 < 256 := by omega
  have c0 : (4294967296 : Int) ≤ (x : Int) := by omega
  have d0 : (x : Int) / 4294967296 = (x1 : Int) := by omega
  have c1 : (65536 : Int) ≤ (x1 : Int) := by omega
  have d1 : (x1 : Int) / 65536 = (x2 : Int) := by omega
  have c2 : ¬ (256 : Int) ≤ (x2 : Int) := by omega
  have y0 : (0 : Int) ≤ (x3 : Int) := by omega
  have y1 : (x3 : Int) < 256 := by omega
  clear h0 e0
  clear h1 e1
  subst e2
  go_enter Tryd.func20, Tryd.ntmps20
  go_wp2
  go_ret
  refine ⟨congrArg (fun z => Ending.returned (Value.int .i64 z)) ?_, rfl⟩
  first | exact len8_at _ hx3 _ | exact (len8_at2 _ _ hx3 _ (by decide)).trans HL.out
set_option maxHeartbeats 4000000 in
theorem len_111 (x x1 x2 x3 : Nat) (w : World) (hx : x < 18446744073709551616)
    (h0 : 4294967296 ≤ x) (e0 : x / 4294967296 = x1)
    (h1 : 65536 ≤ x1) (e1 : x1 / 65536 = x2)
    (h2 : 256 ≤ x2) (e2 : x2 / 256 = x3)
    : Calls Tryd.prog 20 #[.int .u64 (x : Int)] w fun e' w' => e' = .returned (.int .i64 ((lenN x : Nat) : Int)) ∧ w = w' := by
  have HL : Hid ((56 : Int) + ((lenN x3 : Nat) : Int) = ((lenN x : Nat) : Int)) := Lib.hid (by
    have k0 := len_shift x 32 (by omega)
    rw [show (2 : Nat) ^ 32 = 4294967296 by decide, e0] at k0
    have k1 := len_shift x1 16 (by omega)
    rw [show (2 : Nat) ^ 16 = 65536 by decide, e1] at k1
    have k2 := len_shift x2 8 (by omega)
    rw [show (2 : Nat) ^ 8 = 256 by decide, e2] at k2
    omega)
  have hx3 : x3 < 256 := by omega
  have c0 : (4294967296 : Int) ≤ (x : Int) := by omega
  have d0 : (x : Int) / 4294967296 = (x1 : Int) := by omega
  have c1 : (65536 : Int) ≤ (x1 : Int) := by omega
  have d1 : (x1 : Int) / 65536 = (x2 : Int) := by omega
  have c2 : (256 : Int) ≤ (x2 : Int) := by omega
  have d2 : (x2 : Int) / 256 = (x3 : Int) := by omega
  have y0 : (0 : Int) ≤ (x3 : Int) := by omega
  have y1 : (x3 : Int) < 256 := by omega
  clear h0 e0
  clear h1 e1
  clear h2 e2
  go_enter Tryd.func20, Tryd.ntmps20
  go_wp2
  go_ret
  refine ⟨congrArg (fun z => Ending.returned (Value.int .i64 z)) ?_, rfl⟩
  first | exact len8_at _ hx3 _ | exact (len8_at2 _ _ hx3 _ (by decide)).trans HL.out
theorem len_any (x : Nat) (w : World) (hx : x < 18446744073709551616) : Calls Tryd.prog 20 #[.int .u64 (x : Int)] w fun e' w' => e' = .returned (.int .i64 ((lenN x : Nat) : Int)) ∧ w = w' := by
  by_cases h0 : 4294967296 ≤ x
  · obtain ⟨x1, e0⟩ : ∃ x1, x / 4294967296 = x1 := ⟨_, rfl⟩
    by_cases h1 : 65536 ≤ x1
    · obtain ⟨x2, e1⟩ : ∃ x2, x1 / 65536 = x2 := ⟨_, rfl⟩
      by_cases h2 : 256 ≤ x2
      · exact len_111 x x1 x2 _ w hx h0 e0 h1 e1 h2 rfl
      · exact len_110 x x1 x2 _ w hx h0 e0 h1 e1 (by omega) rfl
    · obtain ⟨x2, e1⟩ : ∃ x2, x2 = x1 := ⟨_, rfl⟩
      by_cases h2 : 256 ≤ x2
      · exact len_101 x x1 x2 _ w hx h0 e0 (by omega) e1 h2 rfl
      · exact len_100 x x1 x2 _ w hx h0 e0 (by omega) e1 (by omega) rfl
  · obtain ⟨x1, e0⟩ : ∃ x1, x1 = x := ⟨_, rfl⟩
    by_cases h1 : 65536 ≤ x1
    · obtain ⟨x2, e1⟩ : ∃ x2, x1 / 65536 = x2 := ⟨_, rfl⟩
      by_cases h2 : 256 ≤ x2
      · exact len_011 x x1 x2 _ w hx (by omega) e0 h1 e1 h2 rfl
      · exact len_010 x x1 x2 _ w hx (by omega) e0 h1 e1 (by omega) rfl
    · obtain ⟨x2, e1⟩ : ∃ x2, x2 = x1 := ⟨_, rfl⟩
      by_cases h2 : 256 ≤ x2
      · exact len_001 x x1 x2 _ w hx (by omega) e0 (by omega) e1 h2 rfl
      · exact len_000 x x1 x2 _ w hx (by omega) e0 (by omega) e1 (by omega) rfl
end Go.Proofs.YtnbiioighjdkjaaDoor
