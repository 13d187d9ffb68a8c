/- Chapter 8: numbers of bytes; which tags may be; pages of bytes 255. -/
import Derived.Test.YtmnfikfncbppfaaTagA
import Derived.Test.YtmnfikfncbppfaaApp
import Derived.Test.YtmnfikfncbppfaaLendB
import Derived.Test.YtmnfikfncbppfaaSl2
import Derived.Deep.RegionHeld3
import Derived.Deep.DrawnRows
import Derived.Deep.DeepCutAuto
namespace Go.Proofs.Ytmnfikfncbppfaa
open Go.ChangeShapes Go.WideShapes Go.ChangeAt Go.RowKit
attribute [local go_sem ↓] Go.wp_at_zero Go.wp_at_succ
set_option linter.unusedSimpArgs false
set_option linter.unusedVariables false

theorem ret_bool {a b : Bool} (h : a = b) : Ending.returned (.bool a) = Ending.returned (.bool b) := by rw [h]
theorem ret_nat {a b : Nat} (h : a = b) : Ending.returned (.int .i64 (a : Int)) = Ending.returned (.int .i64 (b : Int)) := by rw [h]

theorem numB_bd {bs : List Nat} (h8 : Bytes8 bs) (hl : bs.length ≤ 4) (k : Nat) (hk : k ≤ bs.length) : numB (bs.take k) < 4294967296 := by
  have h := numB_lt (k := k) h8 hk
  have : 256 ^ k ≤ 256 ^ 4 := Nat.pow_le_pow_right (by omega) (by omega)
  omega

theorem orByte (a b : Nat) (ha : a < 4294967296) (hb : b < 256) : bits .or .i64 ((a : Int) * 256) (b : Int) = ((a * 256 + b : Nat) : Int) := by
  have e : (a : Int) * 256 = ((a * 256 : Nat) : Int) := by omega
  have h : a * 256 ||| b = a * 256 + b := by
    have := Nat.shiftLeft_add_eq_or_of_lt (i := 8) (b := b) (by omega) a
    simp only [Nat.shiftLeft_eq, Nat.reducePow] at this
    exact this.symm
  rw [e]
  show IntKind.i64.wrap ((BitVec.ofInt 64 ((a * 256 : Nat) : Int) ||| BitVec.ofInt 64 (b : Int)).toNat : Int) = _
  rw [BitVec.toNat_or, BitVec.ofInt_natCast, BitVec.ofInt_natCast, BitVec.toNat_ofNat, BitVec.toNat_ofNat, Nat.mod_eq_of_lt (by omega), Nat.mod_eq_of_lt (by omega), h]
  exact IntWalk.i64_in _ (by omega)

set_option maxRecDepth 100000 in
set_option maxHeartbeats 4000000 in
theorem number_any (bs : List Nat) (A : Option Addr) (c : Nat) (w : World) (h1 : Sl w w.heap.size A (bs.map byteV)) (h8 : Bytes8 bs) (n1 : bs.length ≤ 4) :
    Calls Try.prog 23 #[.slice A bs.length c] w fun e w' => e = .returned (.int .i64 (numB bs)) ∧ w = w' := by
  go_enter Try.func23, Try.ntmps23
  go_wp2
  go_loop [3, 8] (fun v i => ∃ k : Nat, k ≤ bs.length ∧ i = .int .i64 k ∧ v = .int .i64 (numB (bs.take k))) (fun _ i => bs.length - (intOf i).toNat)
  case atStart => exact ⟨0, Nat.zero_le _, rfl, rfl⟩
  case round =>
    obtain ⟨k, hk, rfl, rfl⟩ := hrel
    by_cases hlt : k < bs.length
    · obtain ⟨b1, o1, rfl, l1, q1⟩ := h1.at_ (by simpa using (by omega : 0 < bs.length))
      have hb := h8 bs[k] (List.getElem_mem hlt)
      have hr := numB_next hlt
      have hnb := numB_bd h8 n1 k hk
      obtain ⟨x, hx⟩ : ∃ x, bs[k] = x := ⟨_, rfl⟩
      rw [hx] at hb hr
      have x1 : w.cell? ⟨b1, o1 + k, none⟩ = some (.int .u8 (x : Int)) := by rw [← hx]; exact q1 k _ (by simp [hlt, byteV])
      obtain ⟨N, hN⟩ : ∃ N, numB (bs.take k) = N := ⟨_, rfl⟩
      rw [hN] at hnb hr ⊢
      have HR := Lib.hid hr
      have ho := orByte N x hnb hb
      have s1 : (0 : Int) ≤ (N : Int) := by omega
      have s2 : (N : Int) < 4294967296 := by omega
      have s3 : (x : Int) < 256 := by omega
      have i0 : (0 : Int) ≤ (k : Int) := by omega
      have i1 : (k : Int) < (bs.length : Int) := by omega
      clear q1 hx hN hr
      go_wp2
      go_round
      case rel =>
        exact ⟨k + 1, by omega, by go_num, by rw [HR.out]; exact congrArg (Value.int .i64) (by omega)⟩
      case measure => simp [intOf]; omega
    · go_wp2
      have hkk : k = bs.length := by omega
      subst hkk
      go_ret
      exact ⟨ret_nat (by rw [List.take_length]), rfl⟩

def withinT (x hi : Int) : Bool := decide (0 ≤ x) && decide (x ≤ hi)
def mayDataB (n : Int) : Bool := decide (24 ≤ n) && decide (n ≤ 64)
/-- May it be a tag? -/
def tagB (k p s e : Int) : Bool := !decide (k < 1) && (!decide (3 < k) && (!((k == 3) && (p != 0)) && (withinT p 65535 && (withinT s 4294967295 && withinT e 16777215))))
theorem tagB_iff {k p s e : Int} : tagB k p s e = true ↔ 1 ≤ k ∧ k ≤ 3 ∧ (k = 3 → p = 0) ∧ 0 ≤ p ∧ p ≤ 65535 ∧ 0 ≤ s ∧ s ≤ 4294967295 ∧ 0 ≤ e ∧ e ≤ 16777215 := by
  unfold tagB withinT
  simp only [Bool.and_eq_true, Bool.not_eq_true', decide_eq_true_eq, decide_eq_false_iff_not, Bool.and_eq_false_iff, beq_eq_false_iff_ne, bne_eq_false_iff_eq, ne_eq]
  omega
theorem tagB_no {k p s e : Int} (h : ¬ (1 ≤ k ∧ k ≤ 3 ∧ (k = 3 → p = 0) ∧ 0 ≤ p ∧ p ≤ 65535 ∧ 0 ≤ s ∧ s ≤ 4294967295 ∧ 0 ≤ e ∧ e ≤ 16777215)) : tagB k p s e = false := by
  rw [← Bool.not_eq_true, tagB_iff]
  exact h

/-- Is every byte 255? -/
def blankB (bs : List Nat) : Bool := bs.all fun b => b == 255
theorem all_take {p : Nat → Bool} {bs : List Nat} {k : Nat} (hk : k < bs.length) : (bs.take (k + 1)).all p = ((bs.take k).all p && p bs[k]) := by
  rw [List.take_succ_eq_append_getElem hk, List.all_append, List.all_cons, List.all_nil, Bool.and_true]
end Go.Proofs.Ytmnfikfncbppfaa
