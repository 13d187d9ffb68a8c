/- put and the answer's own sum. -/
import Derived.Test.YtmnfikfncbppfaaCrcM
import Derived.Test.YtmnfikfncbppfaaSl
namespace Go.Proofs.Ytmnfikfncbppfaa
open Go.ChangeShapes Go.WideShapes Go.ChangeAt Go.RowKit

def byteV (n : Nat) : Value := .int .u8 (n : Int)

theorem crcBit {r x : Nat} (hr : r < 4294967296) (hx : x < 4294967296) : (bits .and .u32 (bits .xor .u32 (r : Int) (x : Int)) 1 == 1) = decide ((r ^^^ x) &&& 1 = 1) := by
  have e := u32_xor_nat r x hr hx
  have e2 := u32_and_nat (r ^^^ x) 1 (Nat.xor_lt_two_pow (n := 32) (by omega) (by omega)) (by omega)
  have e3 : ((1 : Nat) : Int) = 1 := rfl
  rw [e3] at e2
  rw [e, e2]
  by_cases h : (r ^^^ x) &&& 1 = 1
  · simp [h]
  · simp only [h, decide_false]
    simp only [beq_eq_false_iff_ne, ne_eq]
    omega

theorem crcTurn {r : Nat} (hr : r < 4294967296) : bits .xor .u32 ((r : Int) / 2) 3988292384 = (((r / 2) ^^^ 3988292384 : Nat) : Int) := by
  have := u32_xor_nat (r / 2) 3988292384 (by omega) (by omega)
  simpa using this

theorem crcNot {r : Nat} (hr : r < 4294967296) : bits .xor .u32 IntKind.u32.max (r : Int) = ((4294967295 ^^^ r : Nat) : Int) := by
  have e : IntKind.u32.max = 4294967295 := rfl
  rw [e]
  have := u32_xor_nat 4294967295 r (by omega) hr
  simpa using this

theorem crcStep_off {r x : Nat} (h : ¬(r ^^^ x) &&& 1 = 1) : crcStep r x = r / 2 := if_neg h
theorem crcStep_on {r x : Nat} (h : (r ^^^ x) &&& 1 = 1) : crcStep r x = (r / 2) ^^^ 3988292384 := if_pos h
theorem crcPut_go {k r x s : Nat} (hk : k < 8) (h : crcPut (8 - k) r x = s) : crcPut (8 - (k + 1)) (crcStep r x) (x / 2) = s := by
  have e : 8 - k = (8 - (k + 1)) + 1 := by omega
  rw [e] at h
  exact h

end Go.Proofs.Ytmnfikfncbppfaa
