/- In the tied seat: TrailingZeros64, Len64. -/
import Derived.Test.YtnbiioighjdkjaaDoorRaU
namespace Go.Proofs.YtnbiioighjdkjaaDoor
open Go.ChangeShapes Go.WideShapes Go.ChangeAt Go.RowKit
set_option linter.unusedSimpArgs false
set_option linter.unusedVariables false

/-- The table, in its variable. -/
def DbTab (w : World) : Prop := ∀ k (z : Nat), dbTab[k]? = some z → w.cell? ⟨0, k, none⟩ = some (.int .u8 (z : Int))
theorem tz_key (x k : Nat) (h : LowB x k) (hx : x < 18446744073709551616) (hk : k < 64) :
    IntKind.u64.wrap (bits BinOp.and IntKind.u64 (x : Int) (IntKind.u64.wrap (-(x : Int))) * 285870213051353865) / 288230376151711744 = ((2 ^ k * 285870213051353865 % 18446744073709551616 / 288230376151711744 : Nat) : Int) := by
  have hx0 : x ≠ 0 := bit_ne h.1
  have e1 : IntKind.u64.wrap (-(x : Int)) = ((18446744073709551616 - x : Nat) : Int) := by rw [IntKind.wrap_u64]; omega
  rw [e1, u64_and_nat x _ hx (by omega), low_and h hx hk]
  obtain ⟨p, hp⟩ : ∃ p, 2 ^ k = p := ⟨_, rfl⟩
  rw [hp, IntKind.wrap_u64]
  omega
set_option maxRecDepth 100000 in
set_option maxHeartbeats 4000000 in
theorem tz_any (x k : Nat) (w : World) (hx : x < 18446744073709551616) (h : LowB x k) (hT : DbTab w) : Calls Tryd.prog 19 #[.int .u64 (x : Int)] w fun e' w' => e' = .returned (.int .i64 (k : Int)) ∧ w = w' := by
  have hk : k < 64 := bit_lt (W := 64) hx h.1
  have key := tz_key x k h hx hk
  obtain ⟨idx, hidx⟩ : ∃ i, 2 ^ k * 285870213051353865 % 18446744073709551616 / 288230376151711744 = i := ⟨_, rfl⟩
  have hdb := db_at k hk
  rw [hidx] at key hdb
  have hcell := hT idx k hdb
  have hx0 : ((x : Int) == 0) = false := by
    have := bit_ne h.1
    simp
    omega
  have hi : (idx : Int) < 64 := by
    have := (List.getElem?_eq_some_iff.1 hdb).1
    have e : dbTab.length = 64 := rfl
    omega
  have hi0 : (0 : Int) ≤ (idx : Int) := by omega
  have hk' : (k : Int) < 64 := by omega
  clear hT hdb hidx h
  go_enter Tryd.func19, Tryd.ntmps19
  go_wp2_with (simp only [key])
  go_ret
  exact ⟨rfl, rfl⟩
end Go.Proofs.YtnbiioighjdkjaaDoor
