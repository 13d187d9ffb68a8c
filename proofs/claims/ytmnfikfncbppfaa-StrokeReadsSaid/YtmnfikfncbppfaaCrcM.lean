/- The sum, step by step, on natural numbers. -/
import Derived.Test.YtmnfikfncbppfaaChecked
import Derived.Laws.BitsAllLaws
import Derived.Laws.Shifts
namespace Go.Proofs.Ytmnfikfncbppfaa

/-- One step. -/
def crcStep (r x : Nat) : Nat := if (r ^^^ x) &&& 1 = 1 then (r / 2) ^^^ 3988292384 else r / 2
/-- k steps. -/
def crcPut : Nat → Nat → Nat → Nat
  | 0, r, _ => r
  | k + 1, r, x => crcPut k (crcStep r x) (x / 2)
/-- All bytes. -/
def crcReg (r : Nat) (bs : List Nat) : Nat := bs.foldl (fun r b => crcPut 8 r b) r
def crcMore (s : Nat) (bs : List Nat) : Nat := 4294967295 ^^^ crcReg (4294967295 ^^^ s) bs

theorem crcStep_lt {r x : Nat} (hr : r < 4294967296) : crcStep r x < 4294967296 := by
  unfold crcStep
  split
  · exact Nat.xor_lt_two_pow (n := 32) (by omega) (by omega)
  · omega
theorem crcPut_lt : ∀ {k r x : Nat}, r < 4294967296 → crcPut k r x < 4294967296
  | 0, _, _, h => h
  | k + 1, _, _, h => crcPut_lt (k := k) (crcStep_lt h)
theorem crcReg_lt : ∀ {bs : List Nat} {r : Nat}, r < 4294967296 → crcReg r bs < 4294967296
  | [], _, h => h
  | _ :: bs, _, h => crcReg_lt (bs := bs) (crcPut_lt h)
theorem not_lt {r : Nat} (hr : r < 4294967296) : 4294967295 ^^^ r < 4294967296 := Nat.xor_lt_two_pow (n := 32) (by omega) (by omega)
theorem crcMore_lt {bs : List Nat} {s : Nat} (h : s < 4294967296) : crcMore s bs < 4294967296 := not_lt (crcReg_lt (not_lt h))

theorem crcReg_append (r : Nat) (bs cs : List Nat) : crcReg r (bs ++ cs) = crcReg (crcReg r bs) cs := List.foldl_append
theorem crcMore_more (s : Nat) (bs cs : List Nat) : crcMore (crcMore s bs) cs = crcMore s (bs ++ cs) := by
  unfold crcMore
  rw [← Nat.xor_assoc, Nat.xor_self, Nat.zero_xor, crcReg_append]

theorem odd_test (a : Nat) : (a &&& 1 = 1) ↔ a.testBit 0 = true := by
  rw [Nat.testBit_zero, Nat.and_one_is_mod]
  simp

theorem crcStep_xor (r s x y : Nat) : crcStep (r ^^^ s) (x ^^^ y) = crcStep r x ^^^ crcStep s y := by
  have hd : (r ^^^ s) / 2 = (r / 2) ^^^ (s / 2) := by
    have := Nat.shiftRight_xor_distrib (a := r) (b := s) (i := 1)
    simpa [Nat.shiftRight_eq_div_pow] using this
  unfold crcStep
  simp only [odd_test, Nat.testBit_xor, hd]
  generalize r / 2 = r1
  generalize s / 2 = s1
  cases r.testBit 0 <;> cases s.testBit 0 <;> cases x.testBit 0 <;> cases y.testBit 0 <;> (simp only [Bool.xor_false, Bool.xor_true, Bool.not_true, Bool.not_false, if_true, if_false, Bool.false_eq_true] <;>
    (refine Nat.eq_of_testBit_eq fun i => ?_) <;> simp only [Nat.testBit_xor] <;>
    (cases (Nat.testBit r1 i) <;> cases (Nat.testBit s1 i) <;> cases (Nat.testBit 3988292384 i) <;> rfl))

theorem half_xor (x y : Nat) : (x ^^^ y) / 2 = (x / 2) ^^^ (y / 2) := by
  have := Nat.shiftRight_xor_distrib (a := x) (b := y) (i := 1)
  simpa [Nat.shiftRight_eq_div_pow] using this

theorem crcPut_xor : ∀ (k r s x y : Nat), crcPut k (r ^^^ s) (x ^^^ y) = crcPut k r x ^^^ crcPut k s y
  | 0, _, _, _, _ => rfl
  | k + 1, r, s, x, y => by
    show crcPut k (crcStep (r ^^^ s) (x ^^^ y)) ((x ^^^ y) / 2) = _
    rw [crcStep_xor, half_xor, crcPut_xor k]
    rfl

/-- Two lists, one by one. -/
def xorL : List Nat → List Nat → List Nat
  | x :: xs, y :: ys => (x ^^^ y) :: xorL xs ys
  | _, _ => []
theorem crcReg_xor : ∀ (bs cs : List Nat) (r s : Nat), bs.length = cs.length → crcReg (r ^^^ s) (xorL bs cs) = crcReg r bs ^^^ crcReg s cs
  | [], [], _, _, _ => rfl
  | x :: xs, y :: ys, r, s, h => by
    show crcReg (crcPut 8 (r ^^^ s) (x ^^^ y)) (xorL xs ys) = _
    rw [crcPut_xor, crcReg_xor xs ys _ _ (by simpa using h)]
    rfl
  | [], _ :: _, _, _, h => by simp at h
  | _ :: _, [], _, _, h => by simp at h

/-- A difference of registers does not go away. -/
theorem crcStep_keep {d : Nat} (h : d ≠ 0) (hd : d < 4294967296) : crcStep d 0 ≠ 0 := by
  unfold crcStep
  rw [Nat.xor_zero, Nat.and_one_is_mod]
  split
  · intro he
    have hl : d / 2 < 2147483648 := by omega
    have h2 : d / 2 = 3988292384 := by
      have := congrArg (· ^^^ 3988292384) he
      simpa [Nat.xor_assoc] using this
    omega
  · omega
theorem crcPut_keep : ∀ (k : Nat) {d : Nat}, d ≠ 0 → d < 4294967296 → crcPut k d 0 ≠ 0
  | 0, _, h, _ => h
  | k + 1, d, h, hd => by
    show crcPut k (crcStep d 0) (0 / 2) ≠ 0
    exact crcPut_keep k (crcStep_keep h hd) (crcStep_lt hd)
theorem crcReg_keep : ∀ (m : Nat) {d : Nat}, d ≠ 0 → d < 4294967296 → crcReg d (List.replicate m 0) ≠ 0
  | 0, _, h, _ => h
  | m + 1, d, h, hd => by
    show crcReg (crcPut 8 d 0) (List.replicate m 0) ≠ 0
    exact crcReg_keep m (crcPut_keep 8 h hd) (crcPut_lt hd)
end Go.Proofs.Ytmnfikfncbppfaa
