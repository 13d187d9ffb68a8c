/- put and the answer's own sum. -/
import Derived.Test.YtjmochkhdapmiaaCrcM
import Derived.Test.YtjmochkhdapmiaaSl
namespace Go.Proofs.Ytjmochkhdapmiaa
open Go.ChangeShapes Go.WideShapes Go.ChangeAt Go.RowKit

def byteV (n : Nat) : Value := .int .u8 (n : Int)

theorem crcBit {r x : Nat} (hr : r < 4294967296) (hx : x < 4294967296) : (bits .and .u32 (bits .xor .u32 (r : Int) (x : Int)) 1 == 1) = decide ((r ^^^ x) &&& 1 = 1) := by
  have e := u32_xor_nat r x hr hx
  have e2 := u32_and_nat (r ^^^ x) 1 (Nat.xor_lt_two_pow (n := 32) (by omega) (by omega)) (by omega)
  have e3 : ((1 : Nat) : Int) = 1 := rfl
  rw [e3] at e2
  rw [e, e2]
  by_cases h : (r ^^^ x) &&& 1 = 1
  · simp [h]
  · simp only [h, decide_false]
    simp only [beq_eq_false_iff_ne, ne_eq]
    omega

theorem crcTurn {r : Nat} (hr : r < 4294967296) : bits .xor .u32 ((r : Int) / 2) 3988292384 = (((r / 2) ^^^ 3988292384 : Nat) : Int) := by
  have := u32_xor_nat (r / 2) 3988292384 (by omega) (by omega)
  simpa using this

theorem crcNot {r : Nat} (hr : r < 4294967296) : bits .xor .u32 IntKind.u32.max (r : Int) = ((4294967295 ^^^ r : Nat) : Int) := by
  have e : IntKind.u32.max = 4294967295 := rfl
  rw [e]
  have := u32_xor_nat 4294967295 r (by omega) hr
  simpa using this

theorem crcStep_off {r x : Nat} (h : ¬(r ^^^ x) &&& 1 = 1) : crcStep r x = r / 2 := if_neg h
theorem crcStep_on {r x : Nat} (h : (r ^^^ x) &&& 1 = 1) : crcStep r x = (r / 2) ^^^ 3988292384 := if_pos h
theorem crcPut_go {k r x s : Nat} (hk : k < 8) (h : crcPut (8 - k) r x = s) : crcPut (8 - (k + 1)) (crcStep r x) (x / 2) = s := by
  have e : 8 - k = (8 - (k + 1)) + 1 := by omega
  rw [e] at h
  exact h

set_option maxRecDepth 100000 in
set_option maxHeartbeats 4000000 in
theorem put_any (r x : Nat) (w : World) (hr : r < 4294967296) (hx : x < 256) :
    Calls Try.prog 37 #[.int .u32 (r : Int), .int .u8 (x : Int)] w fun e w' => e = .returned (.int .u32 (crcPut 8 r x : Nat)) ∧ w' = w := by
  go_enter Try.func37, Try.ntmps37
  go_wp2
  go_loopw [0, 1, 6] (fun rv xv i wr => ∃ k r1 x1 : Nat, k ≤ 8 ∧ i = .int .i64 k ∧ rv = .int .u32 (r1 : Int) ∧ xv = .int .u8 (x1 : Int) ∧ r1 < 4294967296 ∧ x1 < 256 ∧ crcPut (8 - k) r1 x1 = crcPut 8 r x ∧ wr = w) (fun _ _ i _ => 8 - (intOf i).toNat)
  case atStart => exact ⟨0, r, x, by omega, rfl, rfl, rfl, hr, hx, rfl, rfl⟩
  case round =>
    obtain ⟨k, r1, x1, hk, rfl, rfl, rfl, hr1, hx1, he, rfl⟩ := hrel
    have hs := crcStep_lt (x := x1) hr1
    by_cases hlt : k < 8
    · have hb := crcBit hr1 (x := x1) (by omega)
      by_cases ht : (r1 ^^^ x1) &&& 1 = 1
      · rw [decide_eq_true ht] at hb
        have Hgo := Lib.hid (crcPut_go hlt he)
        have Hon := Lib.hid (crcStep_on ht)
        clear he ht
        go_wp2
        refine ⟨⟨k + 1, crcStep r1 x1, x1 / 2, by omega, by go_num, ?_, by simp, hs, by omega, Hgo.out, trivial⟩, by simp [intOf]; omega⟩
        rw [crcTurn hr1, Hon.out]
      · rw [decide_eq_false ht] at hb
        have Hgo := Lib.hid (crcPut_go hlt he)
        have Hon := Lib.hid (crcStep_off ht)
        clear he ht
        go_wp2
        refine ⟨⟨k + 1, crcStep r1 x1, x1 / 2, by omega, by go_num, ?_, by simp, hs, by omega, Hgo.out, trivial⟩, by simp [intOf]; omega⟩
        rw [Hon.out]
        simp
    · have : k = 8 := by omega
      subst this
      have he' : r1 = crcPut 8 r x := he
      subst he'
      go_wp2
      go_ret
      exact ⟨rfl, rfl⟩
end Go.Proofs.Ytjmochkhdapmiaa
