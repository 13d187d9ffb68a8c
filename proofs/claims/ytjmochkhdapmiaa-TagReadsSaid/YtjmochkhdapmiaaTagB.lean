/- Chapter 8: numbers of bytes; which tags may be; pages of bytes 255. -/
import Derived.Test.YtjmochkhdapmiaaTagA
import Derived.Test.YtjmochkhdapmiaaApp
import Derived.Test.YtjmochkhdapmiaaLendB
import Derived.Test.YtjmochkhdapmiaaSl2
import Derived.Deep.RegionHeld3
import Derived.Deep.DrawnRows
import Derived.Deep.DeepCutAuto
namespace Go.Proofs.Ytjmochkhdapmiaa
open Go.ChangeShapes Go.WideShapes Go.ChangeAt Go.RowKit
attribute [local go_sem ↓] Go.wp_at_zero Go.wp_at_succ
set_option linter.unusedSimpArgs false
set_option linter.unusedVariables false

theorem ret_bool {a b : Bool} (h : a = b) : Ending.returned (.bool a) = Ending.returned (.bool b) := by rw [h]
theorem ret_nat {a b : Nat} (h : a = b) : Ending.returned (.int .i64 (a : Int)) = Ending.returned (.int .i64 (b : Int)) := by rw [h]

set_option maxRecDepth 100000 in
set_option maxHeartbeats 4000000 in
theorem rnum_any (v : Nat) (n : Nat) (base : Nat) (sv : Value) (m : Nat) (xs : List Nat) (w : World) (hv : v < 4294967296) (hn1 : 1 ≤ n) (hn : n ≤ 4) (hown : w.ownsRow base 5 1 sv m (xs.map byteV)) (hbase : base ≤ w.heap.size) (hm : m ≤ 1000) :
    Calls Try.prog 26 #[sv, .int .i64 v, .int .i64 n] w fun e w' =>
      ∃ sv', e = .returned sv' ∧ w'.ownsRow base 5 1 sv' (m + n) ((xs ++ beB v n).map byteV) ∧ Below base w w' ∧ (sv'.ownBlock = sv.ownBlock ∨ ∃ g, sv'.ownBlock = some g ∧ w.heap.size ≤ g) := by
  obtain ⟨i0, hi, hz0, hz1, hz2⟩ := info_parts infoByte
  go_enter Try.func26, Try.ntmps26
  go_wp2
  go_loopw [0, 7] (fun s i wr => ∃ k : Nat, k ≤ n ∧ i = .int .i64 ((n : Int) - 1 - (k : Int)) ∧ wr.ownsRow base 5 1 s (m + k) ((xs ++ (beB v n).take k).map byteV) ∧ Below base w wr ∧ (s.ownBlock = sv.ownBlock ∨ ∃ g, s.ownBlock = some g ∧ w.heap.size ≤ g)) (fun _ i _ => ((intOf i) + 1).toNat)
  case atStart => exact ⟨0, Nat.zero_le _, by go_num, by simpa using hown, Below.refl _ _, Or.inl rfl⟩
  case round =>
    obtain ⟨k, hk, rfl, ho, hB, hblk⟩ := hrel
    by_cases hlt : k < n
    · obtain ⟨q, hq⟩ : ∃ q : Nat, n - 1 - k = q := ⟨_, rfl⟩
      have e1 : (n : Int) - 1 - (k : Int) = (q : Int) := by omega
      rw [e1]
      have hsn := beB_snoc v n k hlt
      rw [hq] at hsn
      have hq3 : q ≤ 3 := by omega
      have HQ := Lib.hid hq
      have HS := Lib.hid hsn
      have hbs := hB.size
      clear hq hsn e1
      have q0 : (0 : Int) ≤ (q : Int) := by omega
      have q1 : (q : Int) ≤ 3 := by omega
      go_wp2_with (at_builtin; refine wpList_app _ rfl (.tmp 14) (.tmp 20) _ rfl base 5 i0 _ 1 1 Try.underlying22 hi hz0 hz1 hz2 rfl (by decide) _ _ _ rfl (ho.alloc _) _ 1 _ [byteV (v / 2 ^ (8 * q) % 256)] rfl (Rd.one (by simp [byteV])) (by simp [byteV, Value.oneCell']) (by unfold maxLen; omega) (by omega) (by simp; omega) ?_; intro s2 w2 ho2 hg2 hv2)
      go_roundw
      case rel => exact ⟨k + 1, by omega, by have := HQ.out; congr 1; omega, by rw [HS.out]; simpa [Nat.add_assoc] using ho2, (hB.alloc (by omega) _).trans (below_app (Nat.le_refl _) (by simp; omega) (ho.alloc _) hg2), by
        rcases hv2 with h2 | h2
        · rw [h2]
          exact hblk
        · right
          exact ⟨_, h2, by simp; omega⟩⟩
      case measure => simp [intOf]
    · have hkn : k = n := by omega
      have e0 : (n : Int) - 1 - (k : Int) = -1 := by omega
      rw [e0]
      clear e0
      go_wp2
      go_ret
      exact ⟨_, rfl, by rw [hkn, List.take_of_length_le (by rw [beB_len]; omega)] at ho; exact ho, hB, hblk⟩

theorem numB_bd {bs : List Nat} (h8 : Bytes8 bs) (hl : bs.length ≤ 4) (k : Nat) (hk : k ≤ bs.length) : numB (bs.take k) < 4294967296 := by
  have h := numB_lt (k := k) h8 hk
  have : 256 ^ k ≤ 256 ^ 4 := Nat.pow_le_pow_right (by omega) (by omega)
  omega

theorem orByte (a b : Nat) (ha : a < 4294967296) (hb : b < 256) : bits .or .i64 ((a : Int) * 256) (b : Int) = ((a * 256 + b : Nat) : Int) := by
  have e : (a : Int) * 256 = ((a * 256 : Nat) : Int) := by omega
  have h : a * 256 ||| b = a * 256 + b := by
    have := Nat.shiftLeft_add_eq_or_of_lt (i := 8) (b := b) (by omega) a
    simp only [Nat.shiftLeft_eq, Nat.reducePow] at this
    exact this.symm
  rw [e]
  show IntKind.i64.wrap ((BitVec.ofInt 64 ((a * 256 : Nat) : Int) ||| BitVec.ofInt 64 (b : Int)).toNat : Int) = _
  rw [BitVec.toNat_or, BitVec.ofInt_natCast, BitVec.ofInt_natCast, BitVec.toNat_ofNat, BitVec.toNat_ofNat, Nat.mod_eq_of_lt (by omega), Nat.mod_eq_of_lt (by omega), h]
  exact IntWalk.i64_in _ (by omega)

set_option maxRecDepth 100000 in
set_option maxHeartbeats 4000000 in
theorem number_any (bs : List Nat) (A : Option Addr) (c : Nat) (w : World) (h1 : Sl w w.heap.size A (bs.map byteV)) (h8 : Bytes8 bs) (n1 : bs.length ≤ 4) :
    Calls Try.prog 36 #[.slice A bs.length c] w fun e w' => e = .returned (.int .i64 (numB bs)) ∧ w = w' := by
  go_enter Try.func36, Try.ntmps36
  go_wp2
  go_loop [3, 8] (fun v i => ∃ k : Nat, k ≤ bs.length ∧ i = .int .i64 k ∧ v = .int .i64 (numB (bs.take k))) (fun _ i => bs.length - (intOf i).toNat)
  case atStart => exact ⟨0, Nat.zero_le _, rfl, rfl⟩
  case round =>
    obtain ⟨k, hk, rfl, rfl⟩ := hrel
    by_cases hlt : k < bs.length
    · obtain ⟨b1, o1, rfl, l1, q1⟩ := h1.at_ (by simpa using (by omega : 0 < bs.length))
      have hb := h8 bs[k] (List.getElem_mem hlt)
      have hr := numB_next hlt
      have hnb := numB_bd h8 n1 k hk
      obtain ⟨x, hx⟩ : ∃ x, bs[k] = x := ⟨_, rfl⟩
      rw [hx] at hb hr
      have x1 : w.cell? ⟨b1, o1 + k, none⟩ = some (.int .u8 (x : Int)) := by rw [← hx]; exact q1 k _ (by simp [hlt, byteV])
      obtain ⟨N, hN⟩ : ∃ N, numB (bs.take k) = N := ⟨_, rfl⟩
      rw [hN] at hnb hr ⊢
      have HR := Lib.hid hr
      have ho := orByte N x hnb hb
      have s1 : (0 : Int) ≤ (N : Int) := by omega
      have s2 : (N : Int) < 4294967296 := by omega
      have s3 : (x : Int) < 256 := by omega
      have i0 : (0 : Int) ≤ (k : Int) := by omega
      have i1 : (k : Int) < (bs.length : Int) := by omega
      clear q1 hx hN hr
      go_wp2
      go_round
      case rel =>
        exact ⟨k + 1, by omega, by go_num, by rw [HR.out]; exact congrArg (Value.int .i64) (by omega)⟩
      case measure => simp [intOf]; omega
    · go_wp2
      have hkk : k = bs.length := by omega
      subst hkk
      go_ret
      exact ⟨ret_nat (by rw [List.take_length]), rfl⟩

set_option maxRecDepth 100000 in
set_option maxHeartbeats 4000000 in
theorem rget_any (bs : List Nat) (A : Option Addr) (c : Nat) (w : World) (h1 : Sl w w.heap.size A (bs.map byteV)) (h8 : Bytes8 bs) (n1 : bs.length ≤ 4) :
    Calls Try.prog 33 #[.slice A bs.length c] w fun e w' => e = .returned (.int .i64 (numB bs)) ∧ w = w' := by
  go_enter Try.func33, Try.ntmps33
  go_wp2
  go_loop [3, 4] (fun v i => ∃ k : Nat, k ≤ bs.length ∧ i = .int .i64 k ∧ v = .int .i64 (numB (bs.take k))) (fun _ i => bs.length - (intOf i).toNat)
  case atStart => exact ⟨0, Nat.zero_le _, rfl, rfl⟩
  case round =>
    obtain ⟨k, hk, rfl, rfl⟩ := hrel
    by_cases hlt : k < bs.length
    · obtain ⟨b1, o1, rfl, l1, q1⟩ := h1.at_ (by simpa using (by omega : 0 < bs.length))
      have hb := h8 bs[k] (List.getElem_mem hlt)
      have hr := numB_next hlt
      have hnb := numB_bd h8 n1 k hk
      obtain ⟨x, hx⟩ : ∃ x, bs[k] = x := ⟨_, rfl⟩
      rw [hx] at hb hr
      have x1 : w.cell? ⟨b1, o1 + k, none⟩ = some (.int .u8 (x : Int)) := by rw [← hx]; exact q1 k _ (by simp [hlt, byteV])
      obtain ⟨N, hN⟩ : ∃ N, numB (bs.take k) = N := ⟨_, rfl⟩
      rw [hN] at hnb hr ⊢
      have HR := Lib.hid hr
      have s1 : (0 : Int) ≤ (N : Int) := by omega
      have s2 : (N : Int) < 4294967296 := by omega
      have s3 : (x : Int) < 256 := by omega
      have i0 : (0 : Int) ≤ (k : Int) := by omega
      have i1 : (k : Int) < (bs.length : Int) := by omega
      clear q1 hx hN hr
      go_wp2
      go_round
      case rel =>
        exact ⟨k + 1, by omega, by go_num, by rw [HR.out]; exact congrArg (Value.int .i64) (by omega)⟩
      case measure => simp [intOf]; omega
    · go_wp2
      have hkk : k = bs.length := by omega
      subst hkk
      go_ret
      exact ⟨ret_nat (by rw [List.take_length]), rfl⟩

def withinT (x hi : Int) : Bool := decide (0 ≤ x) && decide (x ≤ hi)
theorem withint_any (x hi : Int) (w : World) :
    Calls Try.prog 28 #[.int .i64 x, .int .i64 hi] w fun e w' => e = .returned (.bool (withinT x hi)) ∧ w = w' := by
  unfold withinT
  by_cases h1 : 0 ≤ x <;> by_cases h2 : x ≤ hi
  all_goals
    go_enter Try.func28, Try.ntmps28
    go_wp2
    go_ret
    exact ⟨by simp [h1, h2], rfl⟩
def mayDataB (n : Int) : Bool := decide (24 ≤ n) && decide (n ≤ 64)
theorem mayData_any (x : Int) (w : World) :
    Calls Try.prog 23 #[.int .i64 x] w fun e w' => e = .returned (.bool (mayDataB x)) ∧ w = w' := by
  unfold mayDataB
  by_cases h1 : 24 ≤ x <;> by_cases h2 : x ≤ 64
  all_goals
    go_enter Try.func23, Try.ntmps23
    go_wp2
    go_ret
    exact ⟨by simp [h1, h2], rfl⟩

/-- May it be a tag? -/
def tagB (k p s e : Int) : Bool := !decide (k < 1) && (!decide (3 < k) && (!((k == 3) && (p != 0)) && (withinT p 65535 && (withinT s 4294967295 && withinT e 16777215))))
theorem tagB_iff {k p s e : Int} : tagB k p s e = true ↔ 1 ≤ k ∧ k ≤ 3 ∧ (k = 3 → p = 0) ∧ 0 ≤ p ∧ p ≤ 65535 ∧ 0 ≤ s ∧ s ≤ 4294967295 ∧ 0 ≤ e ∧ e ≤ 16777215 := by
  unfold tagB withinT
  simp only [Bool.and_eq_true, Bool.not_eq_true', decide_eq_true_eq, decide_eq_false_iff_not, Bool.and_eq_false_iff, beq_eq_false_iff_ne, bne_eq_false_iff_eq, ne_eq]
  omega
theorem tagB_no {k p s e : Int} (h : ¬ (1 ≤ k ∧ k ≤ 3 ∧ (k = 3 → p = 0) ∧ 0 ≤ p ∧ p ≤ 65535 ∧ 0 ≤ s ∧ s ≤ 4294967295 ∧ 0 ≤ e ∧ e ≤ 16777215)) : tagB k p s e = false := by
  rw [← Bool.not_eq_true, tagB_iff]
  exact h

set_option maxRecDepth 100000 in
set_option maxHeartbeats 8000000 in
theorem tmay_any (k p s e : Int) (w : World) :
    Calls Try.prog 15 #[.agg #[.int .i64 k, .int .i64 p, .int .i64 s, .int .i64 e]] w fun e' w' => e' = .returned (.bool (tagB k p s e)) ∧ Below w.heap.size w w' := by
  go_enter Try.func15, Try.ntmps15
  rcases (by cases hq : (decide (k < 1) : Bool) <;> simp : (decide (k < 1) : Bool) = true ∨ (decide (k < 1) : Bool) = false) with t1 | t1
  · have hr : tagB k p s e = false := by unfold tagB; rw [t1]; simp
    have HR := Lib.hid hr
    clear hr
    go_wp2_with (go_at_call 28; refine (withint_any _ _ _).mono ?_; rintro e' w' ⟨rfl, rfl⟩)
    go_ret
    exact ⟨ret_bool HR.out.symm, ((Below.refl _ _).alloc (Nat.le_refl _) _)⟩
  · rcases (by cases hq : (decide (3 < k) : Bool) <;> simp : (decide (3 < k) : Bool) = true ∨ (decide (3 < k) : Bool) = false) with t2 | t2
    · have hr : tagB k p s e = false := by unfold tagB; rw [t1, t2]; simp
      have HR := Lib.hid hr
      clear hr
      go_wp2_with (go_at_call 28; refine (withint_any _ _ _).mono ?_; rintro e' w' ⟨rfl, rfl⟩)
      go_ret
      exact ⟨ret_bool HR.out.symm, ((Below.refl _ _).alloc (Nat.le_refl _) _)⟩
    · rcases (by cases hq : (k == 3 : Bool) <;> simp : (k == 3) = true ∨ (k == 3) = false) with t3 | t3
      · rcases (by cases hq : (p != 0 : Bool) <;> simp : (p != 0 : Bool) = true ∨ (p != 0 : Bool) = false) with t4 | t4
        · have hr : tagB k p s e = false := by unfold tagB; rw [t1, t2, t3, t4]; simp
          have HR := Lib.hid hr
          clear hr
          go_wp2_with (go_at_call 28; refine (withint_any _ _ _).mono ?_; rintro e' w' ⟨rfl, rfl⟩)
          go_ret
          exact ⟨ret_bool HR.out.symm, ((Below.refl _ _).alloc (Nat.le_refl _) _)⟩
        · rcases (by cases hq : (withinT p 65535 : Bool) <;> simp : (withinT p 65535 : Bool) = false ∨ (withinT p 65535 : Bool) = true) with t5 | t5
          · have hr : tagB k p s e = false := by unfold tagB; rw [t1, t2, t3, t4, t5]; simp
            have HR := Lib.hid hr
            clear hr
            go_wp2_with (go_at_call 28; refine (withint_any _ _ _).mono ?_; rintro e' w' ⟨rfl, rfl⟩)
            go_ret
            exact ⟨ret_bool HR.out.symm, ((Below.refl _ _).alloc (Nat.le_refl _) _)⟩
          · rcases (by cases hq : (withinT s 4294967295 : Bool) <;> simp : (withinT s 4294967295 : Bool) = false ∨ (withinT s 4294967295 : Bool) = true) with t6 | t6
            · have hr : tagB k p s e = false := by unfold tagB; rw [t1, t2, t3, t4, t5, t6]; simp
              have HR := Lib.hid hr
              clear hr
              go_wp2_with (go_at_call 28; refine (withint_any _ _ _).mono ?_; rintro e' w' ⟨rfl, rfl⟩)
              go_ret
              exact ⟨ret_bool HR.out.symm, ((Below.refl _ _).alloc (Nat.le_refl _) _)⟩
            · rcases (by cases hq : (withinT e 16777215 : Bool) <;> simp : (withinT e 16777215 : Bool) = false ∨ (withinT e 16777215 : Bool) = true) with t7 | t7
              · have hr : tagB k p s e = false := by unfold tagB; rw [t1, t2, t3, t4, t5, t6, t7]; simp
                have HR := Lib.hid hr
                clear hr
                go_wp2_with (go_at_call 28; refine (withint_any _ _ _).mono ?_; rintro e' w' ⟨rfl, rfl⟩)
                go_ret
                exact ⟨ret_bool HR.out.symm, ((Below.refl _ _).alloc (Nat.le_refl _) _)⟩
              · have hr : tagB k p s e = true := by unfold tagB; rw [t1, t2, t3, t4, t5, t6, t7]; simp
                have HR := Lib.hid hr
                clear hr
                go_wp2_with (go_at_call 28; refine (withint_any _ _ _).mono ?_; rintro e' w' ⟨rfl, rfl⟩)
                go_ret
                exact ⟨ret_bool HR.out.symm, ((Below.refl _ _).alloc (Nat.le_refl _) _)⟩
      · rcases (by cases hq : (withinT p 65535 : Bool) <;> simp : (withinT p 65535 : Bool) = false ∨ (withinT p 65535 : Bool) = true) with t4 | t4
        · have hr : tagB k p s e = false := by unfold tagB; rw [t1, t2, t3, t4]; simp
          have HR := Lib.hid hr
          clear hr
          go_wp2_with (go_at_call 28; refine (withint_any _ _ _).mono ?_; rintro e' w' ⟨rfl, rfl⟩)
          go_ret
          exact ⟨ret_bool HR.out.symm, ((Below.refl _ _).alloc (Nat.le_refl _) _)⟩
        · rcases (by cases hq : (withinT s 4294967295 : Bool) <;> simp : (withinT s 4294967295 : Bool) = false ∨ (withinT s 4294967295 : Bool) = true) with t5 | t5
          · have hr : tagB k p s e = false := by unfold tagB; rw [t1, t2, t3, t4, t5]; simp
            have HR := Lib.hid hr
            clear hr
            go_wp2_with (go_at_call 28; refine (withint_any _ _ _).mono ?_; rintro e' w' ⟨rfl, rfl⟩)
            go_ret
            exact ⟨ret_bool HR.out.symm, ((Below.refl _ _).alloc (Nat.le_refl _) _)⟩
          · rcases (by cases hq : (withinT e 16777215 : Bool) <;> simp : (withinT e 16777215 : Bool) = false ∨ (withinT e 16777215 : Bool) = true) with t6 | t6
            · have hr : tagB k p s e = false := by unfold tagB; rw [t1, t2, t3, t4, t5, t6]; simp
              have HR := Lib.hid hr
              clear hr
              go_wp2_with (go_at_call 28; refine (withint_any _ _ _).mono ?_; rintro e' w' ⟨rfl, rfl⟩)
              go_ret
              exact ⟨ret_bool HR.out.symm, ((Below.refl _ _).alloc (Nat.le_refl _) _)⟩
            · have hr : tagB k p s e = true := by unfold tagB; rw [t1, t2, t3, t4, t5, t6]; simp
              have HR := Lib.hid hr
              clear hr
              go_wp2_with (go_at_call 28; refine (withint_any _ _ _).mono ?_; rintro e' w' ⟨rfl, rfl⟩)
              go_ret
              exact ⟨ret_bool HR.out.symm, ((Below.refl _ _).alloc (Nat.le_refl _) _)⟩

set_option maxRecDepth 100000 in
set_option maxHeartbeats 16000000 in
theorem rtmay_any (k p s e : Int) (w : World) :
    Calls Try.prog 16 #[.agg #[.int .i64 k, .int .i64 p, .int .i64 s, .int .i64 e]] w fun e' w' => e' = .returned (.bool (tagB k p s e)) ∧ Below w.heap.size w w' := by
  go_enter Try.func16, Try.ntmps16
  rcases (by cases hq : (decide (1 ≤ k) : Bool) <;> simp : (decide (1 ≤ k) : Bool) = false ∨ (decide (1 ≤ k) : Bool) = true) with t1 | t1
  · have hr : tagB k p s e = false := tagB_no (by
      simp only [decide_eq_true_eq, decide_eq_false_iff_not, beq_iff_eq, beq_eq_false_iff_ne, bne_iff_ne, bne_eq_false_iff_eq, ne_eq, Decidable.not_not] at t1
      omega)
    have HR := Lib.hid hr
    clear hr
    go_wp2
    go_ret
    exact ⟨ret_bool HR.out.symm, ((Below.refl _ _).alloc (Nat.le_refl _) _)⟩
  · rcases (by cases hq : (decide (k ≤ 3) : Bool) <;> simp : (decide (k ≤ 3) : Bool) = false ∨ (decide (k ≤ 3) : Bool) = true) with t2 | t2
    · have hr : tagB k p s e = false := tagB_no (by
        simp only [decide_eq_true_eq, decide_eq_false_iff_not, beq_iff_eq, beq_eq_false_iff_ne, bne_iff_ne, bne_eq_false_iff_eq, ne_eq, Decidable.not_not] at t1
        simp only [decide_eq_true_eq, decide_eq_false_iff_not, beq_iff_eq, beq_eq_false_iff_ne, bne_iff_ne, bne_eq_false_iff_eq, ne_eq, Decidable.not_not] at t2
        omega)
      have HR := Lib.hid hr
      clear hr
      go_wp2
      go_ret
      exact ⟨ret_bool HR.out.symm, ((Below.refl _ _).alloc (Nat.le_refl _) _)⟩
    · rcases (by cases hq : (decide (0 ≤ p) : Bool) <;> simp : (decide (0 ≤ p) : Bool) = false ∨ (decide (0 ≤ p) : Bool) = true) with t3 | t3
      · have hr : tagB k p s e = false := tagB_no (by
          simp only [decide_eq_true_eq, decide_eq_false_iff_not, beq_iff_eq, beq_eq_false_iff_ne, bne_iff_ne, bne_eq_false_iff_eq, ne_eq, Decidable.not_not] at t1
          simp only [decide_eq_true_eq, decide_eq_false_iff_not, beq_iff_eq, beq_eq_false_iff_ne, bne_iff_ne, bne_eq_false_iff_eq, ne_eq, Decidable.not_not] at t2
          simp only [decide_eq_true_eq, decide_eq_false_iff_not, beq_iff_eq, beq_eq_false_iff_ne, bne_iff_ne, bne_eq_false_iff_eq, ne_eq, Decidable.not_not] at t3
          omega)
        have HR := Lib.hid hr
        clear hr
        go_wp2
        go_ret
        exact ⟨ret_bool HR.out.symm, ((Below.refl _ _).alloc (Nat.le_refl _) _)⟩
      · rcases (by cases hq : (decide (p ≤ 65535) : Bool) <;> simp : (decide (p ≤ 65535) : Bool) = false ∨ (decide (p ≤ 65535) : Bool) = true) with t4 | t4
        · have hr : tagB k p s e = false := tagB_no (by
            simp only [decide_eq_true_eq, decide_eq_false_iff_not, beq_iff_eq, beq_eq_false_iff_ne, bne_iff_ne, bne_eq_false_iff_eq, ne_eq, Decidable.not_not] at t1
            simp only [decide_eq_true_eq, decide_eq_false_iff_not, beq_iff_eq, beq_eq_false_iff_ne, bne_iff_ne, bne_eq_false_iff_eq, ne_eq, Decidable.not_not] at t2
            simp only [decide_eq_true_eq, decide_eq_false_iff_not, beq_iff_eq, beq_eq_false_iff_ne, bne_iff_ne, bne_eq_false_iff_eq, ne_eq, Decidable.not_not] at t3
            simp only [decide_eq_true_eq, decide_eq_false_iff_not, beq_iff_eq, beq_eq_false_iff_ne, bne_iff_ne, bne_eq_false_iff_eq, ne_eq, Decidable.not_not] at t4
            omega)
          have HR := Lib.hid hr
          clear hr
          go_wp2
          go_ret
          exact ⟨ret_bool HR.out.symm, ((Below.refl _ _).alloc (Nat.le_refl _) _)⟩
        · rcases (by cases hq : (k != 3 : Bool) <;> simp : (k != 3) = true ∨ (k != 3) = false) with t5 | t5
          · rcases (by cases hq : (decide (0 ≤ s) : Bool) <;> simp : (decide (0 ≤ s) : Bool) = false ∨ (decide (0 ≤ s) : Bool) = true) with t6 | t6
            · have hr : tagB k p s e = false := tagB_no (by
                simp only [decide_eq_true_eq, decide_eq_false_iff_not, beq_iff_eq, beq_eq_false_iff_ne, bne_iff_ne, bne_eq_false_iff_eq, ne_eq, Decidable.not_not] at t1
                simp only [decide_eq_true_eq, decide_eq_false_iff_not, beq_iff_eq, beq_eq_false_iff_ne, bne_iff_ne, bne_eq_false_iff_eq, ne_eq, Decidable.not_not] at t2
                simp only [decide_eq_true_eq, decide_eq_false_iff_not, beq_iff_eq, beq_eq_false_iff_ne, bne_iff_ne, bne_eq_false_iff_eq, ne_eq, Decidable.not_not] at t3
                simp only [decide_eq_true_eq, decide_eq_false_iff_not, beq_iff_eq, beq_eq_false_iff_ne, bne_iff_ne, bne_eq_false_iff_eq, ne_eq, Decidable.not_not] at t4
                simp only [decide_eq_true_eq, decide_eq_false_iff_not, beq_iff_eq, beq_eq_false_iff_ne, bne_iff_ne, bne_eq_false_iff_eq, ne_eq, Decidable.not_not] at t5
                simp only [decide_eq_true_eq, decide_eq_false_iff_not, beq_iff_eq, beq_eq_false_iff_ne, bne_iff_ne, bne_eq_false_iff_eq, ne_eq, Decidable.not_not] at t6
                omega)
              have HR := Lib.hid hr
              clear hr
              go_wp2
              go_ret
              exact ⟨ret_bool HR.out.symm, ((Below.refl _ _).alloc (Nat.le_refl _) _)⟩
            · rcases (by cases hq : (decide (s ≤ 4294967295) : Bool) <;> simp : (decide (s ≤ 4294967295) : Bool) = false ∨ (decide (s ≤ 4294967295) : Bool) = true) with t7 | t7
              · have hr : tagB k p s e = false := tagB_no (by
                  simp only [decide_eq_true_eq, decide_eq_false_iff_not, beq_iff_eq, beq_eq_false_iff_ne, bne_iff_ne, bne_eq_false_iff_eq, ne_eq, Decidable.not_not] at t1
                  simp only [decide_eq_true_eq, decide_eq_false_iff_not, beq_iff_eq, beq_eq_false_iff_ne, bne_iff_ne, bne_eq_false_iff_eq, ne_eq, Decidable.not_not] at t2
                  simp only [decide_eq_true_eq, decide_eq_false_iff_not, beq_iff_eq, beq_eq_false_iff_ne, bne_iff_ne, bne_eq_false_iff_eq, ne_eq, Decidable.not_not] at t3
                  simp only [decide_eq_true_eq, decide_eq_false_iff_not, beq_iff_eq, beq_eq_false_iff_ne, bne_iff_ne, bne_eq_false_iff_eq, ne_eq, Decidable.not_not] at t4
                  simp only [decide_eq_true_eq, decide_eq_false_iff_not, beq_iff_eq, beq_eq_false_iff_ne, bne_iff_ne, bne_eq_false_iff_eq, ne_eq, Decidable.not_not] at t5
                  simp only [decide_eq_true_eq, decide_eq_false_iff_not, beq_iff_eq, beq_eq_false_iff_ne, bne_iff_ne, bne_eq_false_iff_eq, ne_eq, Decidable.not_not] at t6
                  simp only [decide_eq_true_eq, decide_eq_false_iff_not, beq_iff_eq, beq_eq_false_iff_ne, bne_iff_ne, bne_eq_false_iff_eq, ne_eq, Decidable.not_not] at t7
                  omega)
                have HR := Lib.hid hr
                clear hr
                go_wp2
                go_ret
                exact ⟨ret_bool HR.out.symm, ((Below.refl _ _).alloc (Nat.le_refl _) _)⟩
              · rcases (by cases hq : (decide (0 ≤ e) : Bool) <;> simp : (decide (0 ≤ e) : Bool) = false ∨ (decide (0 ≤ e) : Bool) = true) with t8 | t8
                · have hr : tagB k p s e = false := tagB_no (by
                    simp only [decide_eq_true_eq, decide_eq_false_iff_not, beq_iff_eq, beq_eq_false_iff_ne, bne_iff_ne, bne_eq_false_iff_eq, ne_eq, Decidable.not_not] at t1
                    simp only [decide_eq_true_eq, decide_eq_false_iff_not, beq_iff_eq, beq_eq_false_iff_ne, bne_iff_ne, bne_eq_false_iff_eq, ne_eq, Decidable.not_not] at t2
                    simp only [decide_eq_true_eq, decide_eq_false_iff_not, beq_iff_eq, beq_eq_false_iff_ne, bne_iff_ne, bne_eq_false_iff_eq, ne_eq, Decidable.not_not] at t3
                    simp only [decide_eq_true_eq, decide_eq_false_iff_not, beq_iff_eq, beq_eq_false_iff_ne, bne_iff_ne, bne_eq_false_iff_eq, ne_eq, Decidable.not_not] at t4
                    simp only [decide_eq_true_eq, decide_eq_false_iff_not, beq_iff_eq, beq_eq_false_iff_ne, bne_iff_ne, bne_eq_false_iff_eq, ne_eq, Decidable.not_not] at t5
                    simp only [decide_eq_true_eq, decide_eq_false_iff_not, beq_iff_eq, beq_eq_false_iff_ne, bne_iff_ne, bne_eq_false_iff_eq, ne_eq, Decidable.not_not] at t6
                    simp only [decide_eq_true_eq, decide_eq_false_iff_not, beq_iff_eq, beq_eq_false_iff_ne, bne_iff_ne, bne_eq_false_iff_eq, ne_eq, Decidable.not_not] at t7
                    simp only [decide_eq_true_eq, decide_eq_false_iff_not, beq_iff_eq, beq_eq_false_iff_ne, bne_iff_ne, bne_eq_false_iff_eq, ne_eq, Decidable.not_not] at t8
                    omega)
                  have HR := Lib.hid hr
                  clear hr
                  go_wp2
                  go_ret
                  exact ⟨ret_bool HR.out.symm, ((Below.refl _ _).alloc (Nat.le_refl _) _)⟩
                · rcases (by cases hq : (decide (e ≤ 16777215) : Bool) <;> simp : (decide (e ≤ 16777215) : Bool) = false ∨ (decide (e ≤ 16777215) : Bool) = true) with t9 | t9
                  · have hr : tagB k p s e = false := tagB_no (by
                      simp only [decide_eq_true_eq, decide_eq_false_iff_not, beq_iff_eq, beq_eq_false_iff_ne, bne_iff_ne, bne_eq_false_iff_eq, ne_eq, Decidable.not_not] at t1
                      simp only [decide_eq_true_eq, decide_eq_false_iff_not, beq_iff_eq, beq_eq_false_iff_ne, bne_iff_ne, bne_eq_false_iff_eq, ne_eq, Decidable.not_not] at t2
                      simp only [decide_eq_true_eq, decide_eq_false_iff_not, beq_iff_eq, beq_eq_false_iff_ne, bne_iff_ne, bne_eq_false_iff_eq, ne_eq, Decidable.not_not] at t3
                      simp only [decide_eq_true_eq, decide_eq_false_iff_not, beq_iff_eq, beq_eq_false_iff_ne, bne_iff_ne, bne_eq_false_iff_eq, ne_eq, Decidable.not_not] at t4
                      simp only [decide_eq_true_eq, decide_eq_false_iff_not, beq_iff_eq, beq_eq_false_iff_ne, bne_iff_ne, bne_eq_false_iff_eq, ne_eq, Decidable.not_not] at t5
                      simp only [decide_eq_true_eq, decide_eq_false_iff_not, beq_iff_eq, beq_eq_false_iff_ne, bne_iff_ne, bne_eq_false_iff_eq, ne_eq, Decidable.not_not] at t6
                      simp only [decide_eq_true_eq, decide_eq_false_iff_not, beq_iff_eq, beq_eq_false_iff_ne, bne_iff_ne, bne_eq_false_iff_eq, ne_eq, Decidable.not_not] at t7
                      simp only [decide_eq_true_eq, decide_eq_false_iff_not, beq_iff_eq, beq_eq_false_iff_ne, bne_iff_ne, bne_eq_false_iff_eq, ne_eq, Decidable.not_not] at t8
                      simp only [decide_eq_true_eq, decide_eq_false_iff_not, beq_iff_eq, beq_eq_false_iff_ne, bne_iff_ne, bne_eq_false_iff_eq, ne_eq, Decidable.not_not] at t9
                      omega)
                    have HR := Lib.hid hr
                    clear hr
                    go_wp2
                    go_ret
                    exact ⟨ret_bool HR.out.symm, ((Below.refl _ _).alloc (Nat.le_refl _) _)⟩
                  · have hr : tagB k p s e = true := tagB_iff.2 (by
                      simp only [decide_eq_true_eq, decide_eq_false_iff_not, beq_iff_eq, beq_eq_false_iff_ne, bne_iff_ne, bne_eq_false_iff_eq, ne_eq, Decidable.not_not] at t1
                      simp only [decide_eq_true_eq, decide_eq_false_iff_not, beq_iff_eq, beq_eq_false_iff_ne, bne_iff_ne, bne_eq_false_iff_eq, ne_eq, Decidable.not_not] at t2
                      simp only [decide_eq_true_eq, decide_eq_false_iff_not, beq_iff_eq, beq_eq_false_iff_ne, bne_iff_ne, bne_eq_false_iff_eq, ne_eq, Decidable.not_not] at t3
                      simp only [decide_eq_true_eq, decide_eq_false_iff_not, beq_iff_eq, beq_eq_false_iff_ne, bne_iff_ne, bne_eq_false_iff_eq, ne_eq, Decidable.not_not] at t4
                      simp only [decide_eq_true_eq, decide_eq_false_iff_not, beq_iff_eq, beq_eq_false_iff_ne, bne_iff_ne, bne_eq_false_iff_eq, ne_eq, Decidable.not_not] at t5
                      simp only [decide_eq_true_eq, decide_eq_false_iff_not, beq_iff_eq, beq_eq_false_iff_ne, bne_iff_ne, bne_eq_false_iff_eq, ne_eq, Decidable.not_not] at t6
                      simp only [decide_eq_true_eq, decide_eq_false_iff_not, beq_iff_eq, beq_eq_false_iff_ne, bne_iff_ne, bne_eq_false_iff_eq, ne_eq, Decidable.not_not] at t7
                      simp only [decide_eq_true_eq, decide_eq_false_iff_not, beq_iff_eq, beq_eq_false_iff_ne, bne_iff_ne, bne_eq_false_iff_eq, ne_eq, Decidable.not_not] at t8
                      simp only [decide_eq_true_eq, decide_eq_false_iff_not, beq_iff_eq, beq_eq_false_iff_ne, bne_iff_ne, bne_eq_false_iff_eq, ne_eq, Decidable.not_not] at t9
                      omega)
                    have HR := Lib.hid hr
                    clear hr
                    go_wp2
                    go_ret
                    exact ⟨ret_bool HR.out.symm, ((Below.refl _ _).alloc (Nat.le_refl _) _)⟩
          · rcases (by cases hq : (p == 0 : Bool) <;> simp : (p == 0 : Bool) = false ∨ (p == 0 : Bool) = true) with t6 | t6
            · have hr : tagB k p s e = false := tagB_no (by
                simp only [decide_eq_true_eq, decide_eq_false_iff_not, beq_iff_eq, beq_eq_false_iff_ne, bne_iff_ne, bne_eq_false_iff_eq, ne_eq, Decidable.not_not] at t1
                simp only [decide_eq_true_eq, decide_eq_false_iff_not, beq_iff_eq, beq_eq_false_iff_ne, bne_iff_ne, bne_eq_false_iff_eq, ne_eq, Decidable.not_not] at t2
                simp only [decide_eq_true_eq, decide_eq_false_iff_not, beq_iff_eq, beq_eq_false_iff_ne, bne_iff_ne, bne_eq_false_iff_eq, ne_eq, Decidable.not_not] at t3
                simp only [decide_eq_true_eq, decide_eq_false_iff_not, beq_iff_eq, beq_eq_false_iff_ne, bne_iff_ne, bne_eq_false_iff_eq, ne_eq, Decidable.not_not] at t4
                simp only [decide_eq_true_eq, decide_eq_false_iff_not, beq_iff_eq, beq_eq_false_iff_ne, bne_iff_ne, bne_eq_false_iff_eq, ne_eq, Decidable.not_not] at t5
                simp only [decide_eq_true_eq, decide_eq_false_iff_not, beq_iff_eq, beq_eq_false_iff_ne, bne_iff_ne, bne_eq_false_iff_eq, ne_eq, Decidable.not_not] at t6
                omega)
              have HR := Lib.hid hr
              clear hr
              go_wp2
              go_ret
              exact ⟨ret_bool HR.out.symm, ((Below.refl _ _).alloc (Nat.le_refl _) _)⟩
            · rcases (by cases hq : (decide (0 ≤ s) : Bool) <;> simp : (decide (0 ≤ s) : Bool) = false ∨ (decide (0 ≤ s) : Bool) = true) with t7 | t7
              · have hr : tagB k p s e = false := tagB_no (by
                  simp only [decide_eq_true_eq, decide_eq_false_iff_not, beq_iff_eq, beq_eq_false_iff_ne, bne_iff_ne, bne_eq_false_iff_eq, ne_eq, Decidable.not_not] at t1
                  simp only [decide_eq_true_eq, decide_eq_false_iff_not, beq_iff_eq, beq_eq_false_iff_ne, bne_iff_ne, bne_eq_false_iff_eq, ne_eq, Decidable.not_not] at t2
                  simp only [decide_eq_true_eq, decide_eq_false_iff_not, beq_iff_eq, beq_eq_false_iff_ne, bne_iff_ne, bne_eq_false_iff_eq, ne_eq, Decidable.not_not] at t3
                  simp only [decide_eq_true_eq, decide_eq_false_iff_not, beq_iff_eq, beq_eq_false_iff_ne, bne_iff_ne, bne_eq_false_iff_eq, ne_eq, Decidable.not_not] at t4
                  simp only [decide_eq_true_eq, decide_eq_false_iff_not, beq_iff_eq, beq_eq_false_iff_ne, bne_iff_ne, bne_eq_false_iff_eq, ne_eq, Decidable.not_not] at t5
                  simp only [decide_eq_true_eq, decide_eq_false_iff_not, beq_iff_eq, beq_eq_false_iff_ne, bne_iff_ne, bne_eq_false_iff_eq, ne_eq, Decidable.not_not] at t6
                  simp only [decide_eq_true_eq, decide_eq_false_iff_not, beq_iff_eq, beq_eq_false_iff_ne, bne_iff_ne, bne_eq_false_iff_eq, ne_eq, Decidable.not_not] at t7
                  omega)
                have HR := Lib.hid hr
                clear hr
                go_wp2
                go_ret
                exact ⟨ret_bool HR.out.symm, ((Below.refl _ _).alloc (Nat.le_refl _) _)⟩
              · rcases (by cases hq : (decide (s ≤ 4294967295) : Bool) <;> simp : (decide (s ≤ 4294967295) : Bool) = false ∨ (decide (s ≤ 4294967295) : Bool) = true) with t8 | t8
                · have hr : tagB k p s e = false := tagB_no (by
                    simp only [decide_eq_true_eq, decide_eq_false_iff_not, beq_iff_eq, beq_eq_false_iff_ne, bne_iff_ne, bne_eq_false_iff_eq, ne_eq, Decidable.not_not] at t1
                    simp only [decide_eq_true_eq, decide_eq_false_iff_not, beq_iff_eq, beq_eq_false_iff_ne, bne_iff_ne, bne_eq_false_iff_eq, ne_eq, Decidable.not_not] at t2
                    simp only [decide_eq_true_eq, decide_eq_false_iff_not, beq_iff_eq, beq_eq_false_iff_ne, bne_iff_ne, bne_eq_false_iff_eq, ne_eq, Decidable.not_not] at t3
                    simp only [decide_eq_true_eq, decide_eq_false_iff_not, beq_iff_eq, beq_eq_false_iff_ne, bne_iff_ne, bne_eq_false_iff_eq, ne_eq, Decidable.not_not] at t4
                    simp only [decide_eq_true_eq, decide_eq_false_iff_not, beq_iff_eq, beq_eq_false_iff_ne, bne_iff_ne, bne_eq_false_iff_eq, ne_eq, Decidable.not_not] at t5
                    simp only [decide_eq_true_eq, decide_eq_false_iff_not, beq_iff_eq, beq_eq_false_iff_ne, bne_iff_ne, bne_eq_false_iff_eq, ne_eq, Decidable.not_not] at t6
                    simp only [decide_eq_true_eq, decide_eq_false_iff_not, beq_iff_eq, beq_eq_false_iff_ne, bne_iff_ne, bne_eq_false_iff_eq, ne_eq, Decidable.not_not] at t7
                    simp only [decide_eq_true_eq, decide_eq_false_iff_not, beq_iff_eq, beq_eq_false_iff_ne, bne_iff_ne, bne_eq_false_iff_eq, ne_eq, Decidable.not_not] at t8
                    omega)
                  have HR := Lib.hid hr
                  clear hr
                  go_wp2
                  go_ret
                  exact ⟨ret_bool HR.out.symm, ((Below.refl _ _).alloc (Nat.le_refl _) _)⟩
                · rcases (by cases hq : (decide (0 ≤ e) : Bool) <;> simp : (decide (0 ≤ e) : Bool) = false ∨ (decide (0 ≤ e) : Bool) = true) with t9 | t9
                  · have hr : tagB k p s e = false := tagB_no (by
                      simp only [decide_eq_true_eq, decide_eq_false_iff_not, beq_iff_eq, beq_eq_false_iff_ne, bne_iff_ne, bne_eq_false_iff_eq, ne_eq, Decidable.not_not] at t1
                      simp only [decide_eq_true_eq, decide_eq_false_iff_not, beq_iff_eq, beq_eq_false_iff_ne, bne_iff_ne, bne_eq_false_iff_eq, ne_eq, Decidable.not_not] at t2
                      simp only [decide_eq_true_eq, decide_eq_false_iff_not, beq_iff_eq, beq_eq_false_iff_ne, bne_iff_ne, bne_eq_false_iff_eq, ne_eq, Decidable.not_not] at t3
                      simp only [decide_eq_true_eq, decide_eq_false_iff_not, beq_iff_eq, beq_eq_false_iff_ne, bne_iff_ne, bne_eq_false_iff_eq, ne_eq, Decidable.not_not] at t4
                      simp only [decide_eq_true_eq, decide_eq_false_iff_not, beq_iff_eq, beq_eq_false_iff_ne, bne_iff_ne, bne_eq_false_iff_eq, ne_eq, Decidable.not_not] at t5
                      simp only [decide_eq_true_eq, decide_eq_false_iff_not, beq_iff_eq, beq_eq_false_iff_ne, bne_iff_ne, bne_eq_false_iff_eq, ne_eq, Decidable.not_not] at t6
                      simp only [decide_eq_true_eq, decide_eq_false_iff_not, beq_iff_eq, beq_eq_false_iff_ne, bne_iff_ne, bne_eq_false_iff_eq, ne_eq, Decidable.not_not] at t7
                      simp only [decide_eq_true_eq, decide_eq_false_iff_not, beq_iff_eq, beq_eq_false_iff_ne, bne_iff_ne, bne_eq_false_iff_eq, ne_eq, Decidable.not_not] at t8
                      simp only [decide_eq_true_eq, decide_eq_false_iff_not, beq_iff_eq, beq_eq_false_iff_ne, bne_iff_ne, bne_eq_false_iff_eq, ne_eq, Decidable.not_not] at t9
                      omega)
                    have HR := Lib.hid hr
                    clear hr
                    go_wp2
                    go_ret
                    exact ⟨ret_bool HR.out.symm, ((Below.refl _ _).alloc (Nat.le_refl _) _)⟩
                  · rcases (by cases hq : (decide (e ≤ 16777215) : Bool) <;> simp : (decide (e ≤ 16777215) : Bool) = false ∨ (decide (e ≤ 16777215) : Bool) = true) with t10 | t10
                    · have hr : tagB k p s e = false := tagB_no (by
                        simp only [decide_eq_true_eq, decide_eq_false_iff_not, beq_iff_eq, beq_eq_false_iff_ne, bne_iff_ne, bne_eq_false_iff_eq, ne_eq, Decidable.not_not] at t1
                        simp only [decide_eq_true_eq, decide_eq_false_iff_not, beq_iff_eq, beq_eq_false_iff_ne, bne_iff_ne, bne_eq_false_iff_eq, ne_eq, Decidable.not_not] at t2
                        simp only [decide_eq_true_eq, decide_eq_false_iff_not, beq_iff_eq, beq_eq_false_iff_ne, bne_iff_ne, bne_eq_false_iff_eq, ne_eq, Decidable.not_not] at t3
                        simp only [decide_eq_true_eq, decide_eq_false_iff_not, beq_iff_eq, beq_eq_false_iff_ne, bne_iff_ne, bne_eq_false_iff_eq, ne_eq, Decidable.not_not] at t4
                        simp only [decide_eq_true_eq, decide_eq_false_iff_not, beq_iff_eq, beq_eq_false_iff_ne, bne_iff_ne, bne_eq_false_iff_eq, ne_eq, Decidable.not_not] at t5
                        simp only [decide_eq_true_eq, decide_eq_false_iff_not, beq_iff_eq, beq_eq_false_iff_ne, bne_iff_ne, bne_eq_false_iff_eq, ne_eq, Decidable.not_not] at t6
                        simp only [decide_eq_true_eq, decide_eq_false_iff_not, beq_iff_eq, beq_eq_false_iff_ne, bne_iff_ne, bne_eq_false_iff_eq, ne_eq, Decidable.not_not] at t7
                        simp only [decide_eq_true_eq, decide_eq_false_iff_not, beq_iff_eq, beq_eq_false_iff_ne, bne_iff_ne, bne_eq_false_iff_eq, ne_eq, Decidable.not_not] at t8
                        simp only [decide_eq_true_eq, decide_eq_false_iff_not, beq_iff_eq, beq_eq_false_iff_ne, bne_iff_ne, bne_eq_false_iff_eq, ne_eq, Decidable.not_not] at t9
                        simp only [decide_eq_true_eq, decide_eq_false_iff_not, beq_iff_eq, beq_eq_false_iff_ne, bne_iff_ne, bne_eq_false_iff_eq, ne_eq, Decidable.not_not] at t10
                        omega)
                      have HR := Lib.hid hr
                      clear hr
                      go_wp2
                      go_ret
                      exact ⟨ret_bool HR.out.symm, ((Below.refl _ _).alloc (Nat.le_refl _) _)⟩
                    · have hr : tagB k p s e = true := tagB_iff.2 (by
                        simp only [decide_eq_true_eq, decide_eq_false_iff_not, beq_iff_eq, beq_eq_false_iff_ne, bne_iff_ne, bne_eq_false_iff_eq, ne_eq, Decidable.not_not] at t1
                        simp only [decide_eq_true_eq, decide_eq_false_iff_not, beq_iff_eq, beq_eq_false_iff_ne, bne_iff_ne, bne_eq_false_iff_eq, ne_eq, Decidable.not_not] at t2
                        simp only [decide_eq_true_eq, decide_eq_false_iff_not, beq_iff_eq, beq_eq_false_iff_ne, bne_iff_ne, bne_eq_false_iff_eq, ne_eq, Decidable.not_not] at t3
                        simp only [decide_eq_true_eq, decide_eq_false_iff_not, beq_iff_eq, beq_eq_false_iff_ne, bne_iff_ne, bne_eq_false_iff_eq, ne_eq, Decidable.not_not] at t4
                        simp only [decide_eq_true_eq, decide_eq_false_iff_not, beq_iff_eq, beq_eq_false_iff_ne, bne_iff_ne, bne_eq_false_iff_eq, ne_eq, Decidable.not_not] at t5
                        simp only [decide_eq_true_eq, decide_eq_false_iff_not, beq_iff_eq, beq_eq_false_iff_ne, bne_iff_ne, bne_eq_false_iff_eq, ne_eq, Decidable.not_not] at t6
                        simp only [decide_eq_true_eq, decide_eq_false_iff_not, beq_iff_eq, beq_eq_false_iff_ne, bne_iff_ne, bne_eq_false_iff_eq, ne_eq, Decidable.not_not] at t7
                        simp only [decide_eq_true_eq, decide_eq_false_iff_not, beq_iff_eq, beq_eq_false_iff_ne, bne_iff_ne, bne_eq_false_iff_eq, ne_eq, Decidable.not_not] at t8
                        simp only [decide_eq_true_eq, decide_eq_false_iff_not, beq_iff_eq, beq_eq_false_iff_ne, bne_iff_ne, bne_eq_false_iff_eq, ne_eq, Decidable.not_not] at t9
                        simp only [decide_eq_true_eq, decide_eq_false_iff_not, beq_iff_eq, beq_eq_false_iff_ne, bne_iff_ne, bne_eq_false_iff_eq, ne_eq, Decidable.not_not] at t10
                        omega)
                      have HR := Lib.hid hr
                      clear hr
                      go_wp2
                      go_ret
                      exact ⟨ret_bool HR.out.symm, ((Below.refl _ _).alloc (Nat.le_refl _) _)⟩

/-- Is every byte 255? -/
def blankB (bs : List Nat) : Bool := bs.all fun b => b == 255
theorem all_take {p : Nat → Bool} {bs : List Nat} {k : Nat} (hk : k < bs.length) : (bs.take (k + 1)).all p = ((bs.take k).all p && p bs[k]) := by
  rw [List.take_succ_eq_append_getElem hk, List.all_append, List.all_cons, List.all_nil, Bool.and_true]
set_option maxRecDepth 100000 in
set_option maxHeartbeats 4000000 in
theorem erased_any (bs : List Nat) (A : Option Addr) (c : Nat) (w : World) (h1 : Sl w w.heap.size A (bs.map byteV)) (h8 : Bytes8 bs) (n1 : bs.length ≤ 1000000) :
    Calls Try.prog 29 #[.slice A bs.length c] w fun e w' => e = .returned (.bool (blankB bs)) ∧ w = w' := by
  go_enter Try.func29, Try.ntmps29
  go_wp2
  go_loop [7] (fun i => ∃ k : Nat, k ≤ bs.length ∧ i = .int .i64 k ∧ Hid ((bs.take k).all (fun b => b == 255) = true)) (fun i => bs.length - (intOf i).toNat)
  case atStart => exact ⟨0, Nat.zero_le _, rfl, Lib.hid (by simp)⟩
  case round =>
    obtain ⟨k, hk, rfl, H0⟩ := hrel
    by_cases hlt : k < bs.length
    · obtain ⟨b1, o1, rfl, l1, q1⟩ := h1.at_ (by simpa using (by omega : 0 < bs.length))
      have hr := all_take (p := fun b => b == 255) hlt
      have hm := List.getElem_mem hlt
      obtain ⟨x, hx⟩ : ∃ x, bs[k] = x := ⟨_, rfl⟩
      rw [hx] at hr hm
      have x1 : w.cell? ⟨b1, o1 + k, none⟩ = some (.int .u8 (x : Int)) := by rw [← hx]; exact q1 k _ (by simp [hlt, byteV])
      have HR := Lib.hid (hr.trans (by rw [H0.out, Bool.true_and]))
      have i0 : (0 : Int) ≤ (k : Int) := by omega
      have i1 : (k : Int) < (bs.length : Int) := by omega
      clear q1 hx hr
      by_cases he : x = 255
      · have t1 : ((x : Int) != 255) = false := by simp; omega
        have hn : (bs.take (k + 1)).all (fun b => b == 255) = true := HR.out.trans (by simpa using he)
        have HN := Lib.hid hn
        clear hn he
        go_wp2
        go_round
        case rel => exact ⟨k + 1, by omega, by go_num, HN⟩
        case measure => simp [intOf]; omega
      · have t1 : ((x : Int) != 255) = true := by simp; omega
        have hf : blankB bs = false := by
          unfold blankB
          rw [List.all_eq_false]
          exact ⟨x, hm, by simpa using he⟩
        have HF := Lib.hid hf
        clear hf he
        go_wp2
        go_ret
        exact ⟨ret_bool HF.out.symm, rfl⟩
    · go_wp2
      have hkk : k = bs.length := by omega
      subst hkk
      have hr : blankB bs = true := by have := H0.out; rwa [List.take_length] at this
      go_ret
      exact ⟨ret_bool hr.symm, rfl⟩
end Go.Proofs.Ytjmochkhdapmiaa
