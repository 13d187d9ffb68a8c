/- One bit, or two next to one another: another sum. -/
import Derived.Test.YtmnfikfncbppfaaCrcM
namespace Go.Proofs.Ytmnfikfncbppfaa

theorem crcReg_cons (r b : Nat) (bs : List Nat) : crcReg r (b :: bs) = crcReg (crcPut 8 r b) bs := rfl
theorem xor_ne {a b : Nat} (h : a ≠ b) : a ^^^ b ≠ 0 := by
  intro he
  apply h
  have := congrArg (· ^^^ b) he
  simpa [Nat.xor_assoc] using this
theorem ne_of_xor {a b : Nat} (h : a ^^^ b ≠ 0) : a ≠ b := by
  rintro rfl
  exact h (Nat.xor_self a)
theorem xorL_self : ∀ (xs : List Nat), xorL xs xs = List.replicate xs.length 0
  | [] => rfl
  | x :: xs => by
    show (x ^^^ x) :: xorL xs xs = _
    rw [Nat.xor_self, xorL_self xs]
    rfl
/-- Other registers stay other ones. -/
theorem crcReg_other (cs : List Nat) {r s : Nat} (hr : r < 4294967296) (hs : s < 4294967296) (h : r ≠ s) : crcReg r cs ≠ crcReg s cs := by
  apply ne_of_xor
  rw [← crcReg_xor cs cs r s rfl, xorL_self]
  exact crcReg_keep _ (xor_ne h) (Nat.xor_lt_two_pow (n := 32) hr hs)

/-- A byte's own trace in the register. -/
theorem put_byte : ∀ e : Fin 256, e.val ≠ 0 → crcPut 8 0 e.val ≠ 0 := by decide +kernel
theorem put_two : crcPut 8 (crcPut 8 0 128) 1 ≠ 0 := by decide +kernel

theorem crcPut_other {r u v : Nat} (hu : u < 256) (hv : v < 256) (h : u ≠ v) : crcPut 8 r u ≠ crcPut 8 r v := by
  apply ne_of_xor
  rw [← crcPut_xor, Nat.xor_self]
  exact put_byte ⟨u ^^^ v, Nat.xor_lt_two_pow (n := 8) hu hv⟩ (xor_ne h)
theorem crcPut_two {r u u2 : Nat} : crcPut 8 (crcPut 8 r u) u2 ≠ crcPut 8 (crcPut 8 r (u ^^^ 128)) (u2 ^^^ 1) := by
  apply ne_of_xor
  have e1 : u ^^^ (u ^^^ 128) = 128 := by rw [← Nat.xor_assoc, Nat.xor_self, Nat.zero_xor]
  have e2 : u2 ^^^ (u2 ^^^ 1) = 1 := by rw [← Nat.xor_assoc, Nat.xor_self, Nat.zero_xor]
  rw [← crcPut_xor, ← crcPut_xor, Nat.xor_self, e1, e2]
  exact put_two

theorem more_other {bs cs : List Nat} (h : crcReg 4294967295 bs ≠ crcReg 4294967295 cs) : crcMore 0 bs ≠ crcMore 0 cs := by
  intro he
  apply h
  unfold crcMore at he
  rw [Nat.xor_zero] at he
  have := congrArg (4294967295 ^^^ ·) he
  simpa [← Nat.xor_assoc] using this

theorem bit_one (bs : List Nat) (h8 : ∀ b ∈ bs, b < 256) (i v : Nat) (hi : i < bs.length) (hv : v < 256) (hne : bs[i] ≠ v) : crcMore 0 (bs.set i v) ≠ crcMore 0 bs := by
  apply more_other
  have hs : bs.set i v = bs.take i ++ v :: bs.drop (i + 1) := by rw [List.set_eq_take_append_cons_drop, if_pos hi]
  have hb : bs = bs.take i ++ bs[i] :: bs.drop (i + 1) := by
    rw [← List.drop_eq_getElem_cons hi, List.take_append_drop]
  rw [hs]
  conv => rhs; rw [hb]
  rw [crcReg_append, crcReg_append, crcReg_cons, crcReg_cons]
  have hl := crcReg_lt (bs := bs.take i) (r := 4294967295) (by omega)
  generalize crcReg 4294967295 (bs.take i) = R at hl ⊢
  exact crcReg_other _ (crcPut_lt hl) (crcPut_lt hl) (Ne.symm (crcPut_other (h8 _ (List.getElem_mem hi)) hv hne))

theorem bit_two (bs : List Nat) (i : Nat) (hi : i + 1 < bs.length) : crcMore 0 ((bs.set i (bs.getD i 0 ^^^ 128)).set (i + 1) (bs.getD (i + 1) 0 ^^^ 1)) ≠ crcMore 0 bs := by
  apply more_other
  have g1 : bs.getD i 0 = bs[i] := by simp [show i < bs.length by omega]
  have g2 : bs.getD (i + 1) 0 = bs[i + 1] := by simp [hi]
  rw [g1, g2]
  have hb : bs = bs.take i ++ bs[i] :: bs[i + 1] :: bs.drop (i + 2) := by
    rw [← List.drop_eq_getElem_cons hi, ← List.drop_eq_getElem_cons (show i < bs.length by omega), List.take_append_drop]
  have hs : (bs.set i (bs[i] ^^^ 128)).set (i + 1) (bs[i + 1] ^^^ 1) = bs.take i ++ (bs[i] ^^^ 128) :: (bs[i + 1] ^^^ 1) :: bs.drop (i + 2) := by
    refine List.ext_getElem? fun k => ?_
    rcases Nat.lt_trichotomy k i with h | h | h
    · rw [List.getElem?_set_ne (by omega), List.getElem?_set_ne (by omega), List.getElem?_append_left (by simp; omega), List.getElem?_take_of_lt h]
    · subst h
      rw [List.getElem?_set_ne (by omega), List.getElem?_set_self (by omega), List.getElem?_append_right (by simp; omega)]
      simp [Nat.min_eq_left (show k ≤ bs.length by omega)]
    · rcases Nat.lt_or_ge k (i + 2) with h2 | h2
      · obtain rfl : k = i + 1 := by omega
        rw [List.getElem?_set_self (by simpa using hi), List.getElem?_append_right (by simp; omega)]
        simp [Nat.min_eq_left (show i ≤ bs.length by omega)]
      · rw [List.getElem?_set_ne (by omega), List.getElem?_set_ne (by omega), List.getElem?_append_right (by simp; omega)]
        obtain ⟨j, rfl⟩ : ∃ j, k = i + 2 + j := ⟨k - (i + 2), by omega⟩
        have e : i + 2 + j - (bs.take i).length = j + 1 + 1 := by simp; omega
        rw [e, List.getElem?_cons_succ, List.getElem?_cons_succ, List.getElem?_drop]
  rw [hs]
  conv => rhs; rw [hb]
  rw [crcReg_append, crcReg_append, crcReg_cons, crcReg_cons, crcReg_cons, crcReg_cons]
  have hl := crcReg_lt (bs := bs.take i) (r := 4294967295) (by omega)
  generalize crcReg 4294967295 (bs.take i) = R at hl ⊢
  exact crcReg_other _ (crcPut_lt (crcPut_lt hl)) (crcPut_lt (crcPut_lt hl)) (Ne.symm crcPut_two)
end Go.Proofs.Ytmnfikfncbppfaa
