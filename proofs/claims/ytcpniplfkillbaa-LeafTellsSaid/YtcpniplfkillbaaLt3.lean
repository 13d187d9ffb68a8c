/- Chapter 8: numbers of bytes; which tags may be; pages of bytes 255. -/
import Derived.Test.YtcpniplfkillbaaLt2
import Derived.Test.YtcpniplfkillbaaLt1
import Derived.Deep.RegionHeld3
import Derived.Deep.DrawnRows
import Derived.Deep.DeepCutAuto
import Derived.Deep.Slices
import Derived.Laws.BytesString
import Derived.Laws.BytesArg
import Derived.Laws.Cells
import Derived.Laws.Strings
import Derived.Maps.AppendAt
set_option linter.unusedSimpArgs false
set_option linter.unusedVariables false
set_option maxRecDepth 100000
set_option maxHeartbeats 16000000
namespace Go.Proofs.Ytcpniplfkillbaa
open Go.ChangeShapes Go.WideShapes Go.ChangeAt Go.RowKit
attribute [local go_sem ↓] Go.wp_at_zero Go.wp_at_succ
theorem ret_boolT {a b : Bool} (h : a = b) : Ending.returned (.bool a) = Ending.returned (.bool b) := by rw [h]
theorem ret_nat {a b : Nat} (h : a = b) : Ending.returned (.int .i64 (a : Int)) = Ending.returned (.int .i64 (b : Int)) := by rw [h]
theorem rnum_any (v : Nat) (n : Nat) (base : Nat) (sv : Value) (m : Nat) (xs : List Nat) (w : World) (hv : v < 4294967296) (hn1 : 1 ≤ n) (hn : n ≤ 4) (hown : w.ownsRow base 5 1 sv m (xs.map byteV)) (hbase : base ≤ w.heap.size) (hm : m ≤ 1000) :
    Calls Try.prog 53 #[sv, .int .i64 v, .int .i64 n] w fun e w' =>
      ∃ sv', e = .returned sv' ∧ w'.ownsRow base 5 1 sv' (m + n) ((xs ++ beB v n).map byteV) ∧ Below base w w' ∧ (sv'.ownBlock = sv.ownBlock ∨ ∃ g, sv'.ownBlock = some g ∧ w.heap.size ≤ g) := by
  obtain ⟨i0, hi, hz0, hz1, hz2⟩ := info_parts infoByte
  go_enter Try.func53, Try.ntmps53
  go_wp2
  go_loopw [0, 7] (fun s i wr => ∃ k : Nat, k ≤ n ∧ i = .int .i64 ((n : Int) - 1 - (k : Int)) ∧ wr.ownsRow base 5 1 s (m + k) ((xs ++ (beB v n).take k).map byteV) ∧ Below base w wr ∧ (s.ownBlock = sv.ownBlock ∨ ∃ g, s.ownBlock = some g ∧ w.heap.size ≤ g)) (fun _ i _ => ((intOf i) + 1).toNat)
  case atStart => exact ⟨0, Nat.zero_le _, by go_num, by simpa using hown, Below.refl _ _, Or.inl rfl⟩
  case round =>
    obtain ⟨k, hk, rfl, ho, hB, hblk⟩ := hrel
    by_cases hlt : k < n
    · obtain ⟨q, hq⟩ : ∃ q : Nat, n - 1 - k = q := ⟨_, rfl⟩
      have e1 : (n : Int) - 1 - (k : Int) = (q : Int) := by omega
      rw [e1]
      have hsn := beB_snoc v n k hlt
      rw [hq] at hsn
      have hq3 : q ≤ 3 := by omega
      have HQ := Lib.hid hq
      have HS := Lib.hid hsn
      have hbs := hB.size
      clear hq hsn e1
      have q0 : (0 : Int) ≤ (q : Int) := by omega
      have q1 : (q : Int) ≤ 3 := by omega
      go_wp2_with (at_builtin; refine wpList_app _ rfl (.tmp 14) (.tmp 20) _ rfl base 5 i0 _ 1 1 Try.underlying38 hi hz0 hz1 hz2 rfl (by decide) _ _ _ rfl (ho.alloc _) _ 1 _ [byteV (v / 2 ^ (8 * q) % 256)] rfl (Rd.one (by simp [byteV])) (by simp [byteV, Value.oneCell']) (by unfold maxLen; omega) (by omega) (by simp; omega) ?_; intro s2 w2 ho2 hg2 hv2)
      go_roundw
      case rel => exact ⟨k + 1, by omega, by have := HQ.out; congr 1; omega, by rw [HS.out]; simpa [Nat.add_assoc] using ho2, (hB.alloc (by omega) _).trans (below_app (Nat.le_refl _) (by simp; omega) (ho.alloc _) hg2), by
        rcases hv2 with h2 | h2
        · rw [h2]
          exact hblk
        · right
          exact ⟨_, h2, by simp; omega⟩⟩
      case measure => simp [intOf]
    · have hkn : k = n := by omega
      have e0 : (n : Int) - 1 - (k : Int) = -1 := by omega
      rw [e0]
      clear e0
      go_wp2
      go_ret
      exact ⟨_, rfl, by rw [hkn, List.take_of_length_le (by rw [beB_len]; omega)] at ho; exact ho, hB, hblk⟩
theorem numB_bd {bs : List Nat} (h8 : Bytes8 bs) (hl : bs.length ≤ 4) (k : Nat) (hk : k ≤ bs.length) : numB (bs.take k) < 4294967296 := by
  have h := numB_lt (k := k) h8 hk
  have : 256 ^ k ≤ 256 ^ 4 := Nat.pow_le_pow_right (by omega) (by omega)
  omega
theorem orByte (a b : Nat) (ha : a < 4294967296) (hb : b < 256) : bits .or .i64 ((a : Int) * 256) (b : Int) = ((a * 256 + b : Nat) : Int) := by
  have e : (a : Int) * 256 = ((a * 256 : Nat) : Int) := by omega
  have h : a * 256 ||| b = a * 256 + b := by
    have := Nat.shiftLeft_add_eq_or_of_lt (i := 8) (b := b) (by omega) a
    simp only [Nat.shiftLeft_eq, Nat.reducePow] at this
    exact this.symm
  rw [e]
  show IntKind.i64.wrap ((BitVec.ofInt 64 ((a * 256 : Nat) : Int) ||| BitVec.ofInt 64 (b : Int)).toNat : Int) = _
  rw [BitVec.toNat_or, BitVec.ofInt_natCast, BitVec.ofInt_natCast, BitVec.toNat_ofNat, BitVec.toNat_ofNat, Nat.mod_eq_of_lt (by omega), Nat.mod_eq_of_lt (by omega), h]
  exact IntWalk.i64_in _ (by omega)
theorem number_any (bs : List Nat) (A : Option Addr) (c : Nat) (w : World) (h1 : Sl w w.heap.size A (bs.map byteV)) (h8 : Bytes8 bs) (n1 : bs.length ≤ 4) :
    Calls Try.prog 89 #[.slice A bs.length c] w fun e w' => e = .returned (.int .i64 (numB bs)) ∧ w = w' := by
  go_enter Try.func89, Try.ntmps89
  go_wp2
  go_loop [3, 8] (fun v i => ∃ k : Nat, k ≤ bs.length ∧ i = .int .i64 k ∧ v = .int .i64 (numB (bs.take k))) (fun _ i => bs.length - (intOf i).toNat)
  case atStart => exact ⟨0, Nat.zero_le _, rfl, rfl⟩
  case round =>
    obtain ⟨k, hk, rfl, rfl⟩ := hrel
    by_cases hlt : k < bs.length
    · obtain ⟨b1, o1, rfl, l1, q1⟩ := h1.at_ (by simpa using (by omega : 0 < bs.length))
      have hb := h8 bs[k] (List.getElem_mem hlt)
      have hr := numB_next hlt
      have hnb := numB_bd h8 n1 k hk
      obtain ⟨x, hx⟩ : ∃ x, bs[k] = x := ⟨_, rfl⟩
      rw [hx] at hb hr
      have x1 : w.cell? ⟨b1, o1 + k, none⟩ = some (.int .u8 (x : Int)) := by rw [← hx]; exact q1 k _ (by simp [hlt, byteV])
      obtain ⟨N, hN⟩ : ∃ N, numB (bs.take k) = N := ⟨_, rfl⟩
      rw [hN] at hnb hr ⊢
      have HR := Lib.hid hr
      have ho := orByte N x hnb hb
      have s1 : (0 : Int) ≤ (N : Int) := by omega
      have s2 : (N : Int) < 4294967296 := by omega
      have s3 : (x : Int) < 256 := by omega
      have i0 : (0 : Int) ≤ (k : Int) := by omega
      have i1 : (k : Int) < (bs.length : Int) := by omega
      clear q1 hx hN hr
      go_wp2
      go_round
      case rel =>
        exact ⟨k + 1, by omega, by go_num, by rw [HR.out]; exact congrArg (Value.int .i64) (by omega)⟩
      case measure => simp [intOf]; omega
    · go_wp2
      have hkk : k = bs.length := by omega
      subst hkk
      go_ret
      exact ⟨ret_nat (by rw [List.take_length]), rfl⟩
theorem rget_any (bs : List Nat) (A : Option Addr) (c : Nat) (w : World) (h1 : Sl w w.heap.size A (bs.map byteV)) (h8 : Bytes8 bs) (n1 : bs.length ≤ 4) :
    Calls Try.prog 65 #[.slice A bs.length c] w fun e w' => e = .returned (.int .i64 (numB bs)) ∧ w = w' := by
  go_enter Try.func65, Try.ntmps65
  go_wp2
  go_loop [3, 4] (fun v i => ∃ k : Nat, k ≤ bs.length ∧ i = .int .i64 k ∧ v = .int .i64 (numB (bs.take k))) (fun _ i => bs.length - (intOf i).toNat)
  case atStart => exact ⟨0, Nat.zero_le _, rfl, rfl⟩
  case round =>
    obtain ⟨k, hk, rfl, rfl⟩ := hrel
    by_cases hlt : k < bs.length
    · obtain ⟨b1, o1, rfl, l1, q1⟩ := h1.at_ (by simpa using (by omega : 0 < bs.length))
      have hb := h8 bs[k] (List.getElem_mem hlt)
      have hr := numB_next hlt
      have hnb := numB_bd h8 n1 k hk
      obtain ⟨x, hx⟩ : ∃ x, bs[k] = x := ⟨_, rfl⟩
      rw [hx] at hb hr
      have x1 : w.cell? ⟨b1, o1 + k, none⟩ = some (.int .u8 (x : Int)) := by rw [← hx]; exact q1 k _ (by simp [hlt, byteV])
      obtain ⟨N, hN⟩ : ∃ N, numB (bs.take k) = N := ⟨_, rfl⟩
      rw [hN] at hnb hr ⊢
      have HR := Lib.hid hr
      have s1 : (0 : Int) ≤ (N : Int) := by omega
      have s2 : (N : Int) < 4294967296 := by omega
      have s3 : (x : Int) < 256 := by omega
      have i0 : (0 : Int) ≤ (k : Int) := by omega
      have i1 : (k : Int) < (bs.length : Int) := by omega
      clear q1 hx hN hr
      go_wp2
      go_round
      case rel =>
        exact ⟨k + 1, by omega, by go_num, by rw [HR.out]; exact congrArg (Value.int .i64) (by omega)⟩
      case measure => simp [intOf]; omega
    · go_wp2
      have hkk : k = bs.length := by omega
      subst hkk
      go_ret
      exact ⟨ret_nat (by rw [List.take_length]), rfl⟩
def withinT (x hi : Int) : Bool := decide (0 ≤ x) && decide (x ≤ hi)
theorem withint_any (x hi : Int) (w : World) :
    Calls Try.prog 90 #[.int .i64 x, .int .i64 hi] w fun e w' => e = .returned (.bool (withinT x hi)) ∧ w = w' := by
  unfold withinT
  by_cases h1 : 0 ≤ x <;> by_cases h2 : x ≤ hi
  all_goals
    go_enter Try.func90, Try.ntmps90
    go_wp2
    go_ret
    exact ⟨by simp [h1, h2], rfl⟩
def mayDataB (n : Int) : Bool := decide (24 ≤ n) && decide (n ≤ 64)
theorem mayData_any (x : Int) (w : World) :
    Calls Try.prog 79 #[.int .i64 x] w fun e w' => e = .returned (.bool (mayDataB x)) ∧ w = w' := by
  unfold mayDataB
  by_cases h1 : 24 ≤ x <;> by_cases h2 : x ≤ 64
  all_goals
    go_enter Try.func79, Try.ntmps79
    go_wp2
    go_ret
    exact ⟨by simp [h1, h2], rfl⟩
def tagB (k p s e : Int) : Bool := !decide (k < 1) && (!decide (3 < k) && (!((k == 3) && (p != 0)) && (withinT p 65535 && (withinT s 4294967295 && withinT e 16777215))))
theorem tagB_iff {k p s e : Int} : tagB k p s e = true ↔ 1 ≤ k ∧ k ≤ 3 ∧ (k = 3 → p = 0) ∧ 0 ≤ p ∧ p ≤ 65535 ∧ 0 ≤ s ∧ s ≤ 4294967295 ∧ 0 ≤ e ∧ e ≤ 16777215 := by
  unfold tagB withinT
  simp only [Bool.and_eq_true, Bool.not_eq_true', decide_eq_true_eq, decide_eq_false_iff_not, Bool.and_eq_false_iff, beq_eq_false_iff_ne, bne_eq_false_iff_eq, ne_eq]
  omega
theorem tagB_no {k p s e : Int} (h : ¬ (1 ≤ k ∧ k ≤ 3 ∧ (k = 3 → p = 0) ∧ 0 ≤ p ∧ p ≤ 65535 ∧ 0 ≤ s ∧ s ≤ 4294967295 ∧ 0 ≤ e ∧ e ≤ 16777215)) : tagB k p s e = false := by
  rw [← Bool.not_eq_true, tagB_iff]
  exact h
theorem tmay_any (k p s e : Int) (w : World) :
    Calls Try.prog 82 #[.agg #[.int .i64 k, .int .i64 p, .int .i64 s, .int .i64 e]] w fun e' w' => e' = .returned (.bool (tagB k p s e)) ∧ Below w.heap.size w w' := by
  go_enter Try.func82, Try.ntmps82
  rcases (by cases hq : (decide (k < 1) : Bool) <;> simp : (decide (k < 1) : Bool) = true ∨ (decide (k < 1) : Bool) = false) with t1 | t1
  · have hr : tagB k p s e = false := by unfold tagB; rw [t1]; simp
    have HR := Lib.hid hr
    clear hr
    go_wp2_with (go_at_call 90; refine (withint_any _ _ _).mono ?_; rintro e' w' ⟨rfl, rfl⟩)
    go_ret
    exact ⟨ret_boolT HR.out.symm, ((Below.refl _ _).alloc (Nat.le_refl _) _)⟩
  · rcases (by cases hq : (decide (3 < k) : Bool) <;> simp : (decide (3 < k) : Bool) = true ∨ (decide (3 < k) : Bool) = false) with t2 | t2
    · have hr : tagB k p s e = false := by unfold tagB; rw [t1, t2]; simp
      have HR := Lib.hid hr
      clear hr
      go_wp2_with (go_at_call 90; refine (withint_any _ _ _).mono ?_; rintro e' w' ⟨rfl, rfl⟩)
      go_ret
      exact ⟨ret_boolT HR.out.symm, ((Below.refl _ _).alloc (Nat.le_refl _) _)⟩
    · rcases (by cases hq : (k == 3 : Bool) <;> simp : (k == 3) = true ∨ (k == 3) = false) with t3 | t3
      · rcases (by cases hq : (p != 0 : Bool) <;> simp : (p != 0 : Bool) = true ∨ (p != 0 : Bool) = false) with t4 | t4
        · have hr : tagB k p s e = false := by unfold tagB; rw [t1, t2, t3, t4]; simp
          have HR := Lib.hid hr
          clear hr
          go_wp2_with (go_at_call 90; refine (withint_any _ _ _).mono ?_; rintro e' w' ⟨rfl, rfl⟩)
          go_ret
          exact ⟨ret_boolT HR.out.symm, ((Below.refl _ _).alloc (Nat.le_refl _) _)⟩
        · rcases (by cases hq : (withinT p 65535 : Bool) <;> simp : (withinT p 65535 : Bool) = false ∨ (withinT p 65535 : Bool) = true) with t5 | t5
          · have hr : tagB k p s e = false := by unfold tagB; rw [t1, t2, t3, t4, t5]; simp
            have HR := Lib.hid hr
            clear hr
            go_wp2_with (go_at_call 90; refine (withint_any _ _ _).mono ?_; rintro e' w' ⟨rfl, rfl⟩)
            go_ret
            exact ⟨ret_boolT HR.out.symm, ((Below.refl _ _).alloc (Nat.le_refl _) _)⟩
          · rcases (by cases hq : (withinT s 4294967295 : Bool) <;> simp : (withinT s 4294967295 : Bool) = false ∨ (withinT s 4294967295 : Bool) = true) with t6 | t6
            · have hr : tagB k p s e = false := by unfold tagB; rw [t1, t2, t3, t4, t5, t6]; simp
              have HR := Lib.hid hr
              clear hr
              go_wp2_with (go_at_call 90; refine (withint_any _ _ _).mono ?_; rintro e' w' ⟨rfl, rfl⟩)
              go_ret
              exact ⟨ret_boolT HR.out.symm, ((Below.refl _ _).alloc (Nat.le_refl _) _)⟩
            · rcases (by cases hq : (withinT e 16777215 : Bool) <;> simp : (withinT e 16777215 : Bool) = false ∨ (withinT e 16777215 : Bool) = true) with t7 | t7
              · have hr : tagB k p s e = false := by unfold tagB; rw [t1, t2, t3, t4, t5, t6, t7]; simp
                have HR := Lib.hid hr
                clear hr
                go_wp2_with (go_at_call 90; refine (withint_any _ _ _).mono ?_; rintro e' w' ⟨rfl, rfl⟩)
                go_ret
                exact ⟨ret_boolT HR.out.symm, ((Below.refl _ _).alloc (Nat.le_refl _) _)⟩
              · have hr : tagB k p s e = true := by unfold tagB; rw [t1, t2, t3, t4, t5, t6, t7]; simp
                have HR := Lib.hid hr
                clear hr
                go_wp2_with (go_at_call 90; refine (withint_any _ _ _).mono ?_; rintro e' w' ⟨rfl, rfl⟩)
                go_ret
                exact ⟨ret_boolT HR.out.symm, ((Below.refl _ _).alloc (Nat.le_refl _) _)⟩
      · rcases (by cases hq : (withinT p 65535 : Bool) <;> simp : (withinT p 65535 : Bool) = false ∨ (withinT p 65535 : Bool) = true) with t4 | t4
        · have hr : tagB k p s e = false := by unfold tagB; rw [t1, t2, t3, t4]; simp
          have HR := Lib.hid hr
          clear hr
          go_wp2_with (go_at_call 90; refine (withint_any _ _ _).mono ?_; rintro e' w' ⟨rfl, rfl⟩)
          go_ret
          exact ⟨ret_boolT HR.out.symm, ((Below.refl _ _).alloc (Nat.le_refl _) _)⟩
        · rcases (by cases hq : (withinT s 4294967295 : Bool) <;> simp : (withinT s 4294967295 : Bool) = false ∨ (withinT s 4294967295 : Bool) = true) with t5 | t5
          · have hr : tagB k p s e = false := by unfold tagB; rw [t1, t2, t3, t4, t5]; simp
            have HR := Lib.hid hr
            clear hr
            go_wp2_with (go_at_call 90; refine (withint_any _ _ _).mono ?_; rintro e' w' ⟨rfl, rfl⟩)
            go_ret
            exact ⟨ret_boolT HR.out.symm, ((Below.refl _ _).alloc (Nat.le_refl _) _)⟩
          · rcases (by cases hq : (withinT e 16777215 : Bool) <;> simp : (withinT e 16777215 : Bool) = false ∨ (withinT e 16777215 : Bool) = true) with t6 | t6
            · have hr : tagB k p s e = false := by unfold tagB; rw [t1, t2, t3, t4, t5, t6]; simp
              have HR := Lib.hid hr
              clear hr
              go_wp2_with (go_at_call 90; refine (withint_any _ _ _).mono ?_; rintro e' w' ⟨rfl, rfl⟩)
              go_ret
              exact ⟨ret_boolT HR.out.symm, ((Below.refl _ _).alloc (Nat.le_refl _) _)⟩
            · have hr : tagB k p s e = true := by unfold tagB; rw [t1, t2, t3, t4, t5, t6]; simp
              have HR := Lib.hid hr
              clear hr
              go_wp2_with (go_at_call 90; refine (withint_any _ _ _).mono ?_; rintro e' w' ⟨rfl, rfl⟩)
              go_ret
              exact ⟨ret_boolT HR.out.symm, ((Below.refl _ _).alloc (Nat.le_refl _) _)⟩
theorem rtmay_any (k p s e : Int) (w : World) :
    Calls Try.prog 52 #[.agg #[.int .i64 k, .int .i64 p, .int .i64 s, .int .i64 e]] w fun e' w' => e' = .returned (.bool (tagB k p s e)) ∧ Below w.heap.size w w' := by
  go_enter Try.func52, Try.ntmps52
  rcases (by cases hq : (decide (1 ≤ k) : Bool) <;> simp : (decide (1 ≤ k) : Bool) = false ∨ (decide (1 ≤ k) : Bool) = true) with t1 | t1
  · have hr : tagB k p s e = false := tagB_no (by
      simp only [decide_eq_true_eq, decide_eq_false_iff_not, beq_iff_eq, beq_eq_false_iff_ne, bne_iff_ne, bne_eq_false_iff_eq, ne_eq, Decidable.not_not] at t1
      omega)
    have HR := Lib.hid hr
    clear hr
    go_wp2
    go_ret
    exact ⟨ret_boolT HR.out.symm, ((Below.refl _ _).alloc (Nat.le_refl _) _)⟩
  · rcases (by cases hq : (decide (k ≤ 3) : Bool) <;> simp : (decide (k ≤ 3) : Bool) = false ∨ (decide (k ≤ 3) : Bool) = true) with t2 | t2
    · have hr : tagB k p s e = false := tagB_no (by
        simp only [decide_eq_true_eq, decide_eq_false_iff_not, beq_iff_eq, beq_eq_false_iff_ne, bne_iff_ne, bne_eq_false_iff_eq, ne_eq, Decidable.not_not] at t1
        simp only [decide_eq_true_eq, decide_eq_false_iff_not, beq_iff_eq, beq_eq_false_iff_ne, bne_iff_ne, bne_eq_false_iff_eq, ne_eq, Decidable.not_not] at t2
        omega)
      have HR := Lib.hid hr
      clear hr
      go_wp2
      go_ret
      exact ⟨ret_boolT HR.out.symm, ((Below.refl _ _).alloc (Nat.le_refl _) _)⟩
    · rcases (by cases hq : (decide (0 ≤ p) : Bool) <;> simp : (decide (0 ≤ p) : Bool) = false ∨ (decide (0 ≤ p) : Bool) = true) with t3 | t3
      · have hr : tagB k p s e = false := tagB_no (by
          simp only [decide_eq_true_eq, decide_eq_false_iff_not, beq_iff_eq, beq_eq_false_iff_ne, bne_iff_ne, bne_eq_false_iff_eq, ne_eq, Decidable.not_not] at t1
          simp only [decide_eq_true_eq, decide_eq_false_iff_not, beq_iff_eq, beq_eq_false_iff_ne, bne_iff_ne, bne_eq_false_iff_eq, ne_eq, Decidable.not_not] at t2
          simp only [decide_eq_true_eq, decide_eq_false_iff_not, beq_iff_eq, beq_eq_false_iff_ne, bne_iff_ne, bne_eq_false_iff_eq, ne_eq, Decidable.not_not] at t3
          omega)
        have HR := Lib.hid hr
        clear hr
        go_wp2
        go_ret
        exact ⟨ret_boolT HR.out.symm, ((Below.refl _ _).alloc (Nat.le_refl _) _)⟩
      · rcases (by cases hq : (decide (p ≤ 65535) : Bool) <;> simp : (decide (p ≤ 65535) : Bool) = false ∨ (decide (p ≤ 65535) : Bool) = true) with t4 | t4
        · have hr : tagB k p s e = false := tagB_no (by
            simp only [decide_eq_true_eq, decide_eq_false_iff_not, beq_iff_eq, beq_eq_false_iff_ne, bne_iff_ne, bne_eq_false_iff_eq, ne_eq, Decidable.not_not] at t1
            simp only [decide_eq_true_eq, decide_eq_false_iff_not, beq_iff_eq, beq_eq_false_iff_ne, bne_iff_ne, bne_eq_false_iff_eq, ne_eq, Decidable.not_not] at t2
            simp only [decide_eq_true_eq, decide_eq_false_iff_not, beq_iff_eq, beq_eq_false_iff_ne, bne_iff_ne, bne_eq_false_iff_eq, ne_eq, Decidable.not_not] at t3
            simp only [decide_eq_true_eq, decide_eq_false_iff_not, beq_iff_eq, beq_eq_false_iff_ne, bne_iff_ne, bne_eq_false_iff_eq, ne_eq, Decidable.not_not] at t4
            omega)
          have HR := Lib.hid hr
          clear hr
          go_wp2
          go_ret
          exact ⟨ret_boolT HR.out.symm, ((Below.refl _ _).alloc (Nat.le_refl _) _)⟩
        · rcases (by cases hq : (k != 3 : Bool) <;> simp : (k != 3) = true ∨ (k != 3) = false) with t5 | t5
          · rcases (by cases hq : (decide (0 ≤ s) : Bool) <;> simp : (decide (0 ≤ s) : Bool) = false ∨ (decide (0 ≤ s) : Bool) = true) with t6 | t6
            · have hr : tagB k p s e = false := tagB_no (by
                simp only [decide_eq_true_eq, decide_eq_false_iff_not, beq_iff_eq, beq_eq_false_iff_ne, bne_iff_ne, bne_eq_false_iff_eq, ne_eq, Decidable.not_not] at t1
                simp only [decide_eq_true_eq, decide_eq_false_iff_not, beq_iff_eq, beq_eq_false_iff_ne, bne_iff_ne, bne_eq_false_iff_eq, ne_eq, Decidable.not_not] at t2
                simp only [decide_eq_true_eq, decide_eq_false_iff_not, beq_iff_eq, beq_eq_false_iff_ne, bne_iff_ne, bne_eq_false_iff_eq, ne_eq, Decidable.not_not] at t3
                simp only [decide_eq_true_eq, decide_eq_false_iff_not, beq_iff_eq, beq_eq_false_iff_ne, bne_iff_ne, bne_eq_false_iff_eq, ne_eq, Decidable.not_not] at t4
                simp only [decide_eq_true_eq, decide_eq_false_iff_not, beq_iff_eq, beq_eq_false_iff_ne, bne_iff_ne, bne_eq_false_iff_eq, ne_eq, Decidable.not_not] at t5
                simp only [decide_eq_true_eq, decide_eq_false_iff_not, beq_iff_eq, beq_eq_false_iff_ne, bne_iff_ne, bne_eq_false_iff_eq, ne_eq, Decidable.not_not] at t6
                omega)
              have HR := Lib.hid hr
              clear hr
              go_wp2
              go_ret
              exact ⟨ret_boolT HR.out.symm, ((Below.refl _ _).alloc (Nat.le_refl _) _)⟩
            · rcases (by cases hq : (decide (s ≤ 4294967295) : Bool) <;> simp : (decide (s ≤ 4294967295) : Bool) = false ∨ (decide (s ≤ 4294967295) : Bool) = true) with t7 | t7
              · have hr : tagB k p s e = false := tagB_no (by
                  simp only [decide_eq_true_eq, decide_eq_false_iff_not, beq_iff_eq, beq_eq_false_iff_ne, bne_iff_ne, bne_eq_false_iff_eq, ne_eq, Decidable.not_not] at t1
                  simp only [decide_eq_true_eq, decide_eq_false_iff_not, beq_iff_eq, beq_eq_false_iff_ne, bne_iff_ne, bne_eq_false_iff_eq, ne_eq, Decidable.not_not] at t2
                  simp only [decide_eq_true_eq, decide_eq_false_iff_not, beq_iff_eq, beq_eq_false_iff_ne, bne_iff_ne, bne_eq_false_iff_eq, ne_eq, Decidable.not_not] at t3
                  simp only [decide_eq_true_eq, decide_eq_false_iff_not, beq_iff_eq, beq_eq_false_iff_ne, bne_iff_ne, bne_eq_false_iff_eq, ne_eq, Decidable.not_not] at t4
                  simp only [decide_eq_true_eq, decide_eq_false_iff_not, beq_iff_eq, beq_eq_false_iff_ne, bne_iff_ne, bne_eq_false_iff_eq, ne_eq, Decidable.not_not] at t5
                  simp only [decide_eq_true_eq, decide_eq_false_iff_not, beq_iff_eq, beq_eq_false_iff_ne, bne_iff_ne, bne_eq_false_iff_eq, ne_eq, Decidable.not_not] at t6
                  simp only [decide_eq_true_eq, decide_eq_false_iff_not, beq_iff_eq, beq_eq_false_iff_ne, bne_iff_ne, bne_eq_false_iff_eq, ne_eq, Decidable.not_not] at t7
                  omega)
                have HR := Lib.hid hr
                clear hr
                go_wp2
                go_ret
                exact ⟨ret_boolT HR.out.symm, ((Below.refl _ _).alloc (Nat.le_refl _) _)⟩
              · rcases (by cases hq : (decide (0 ≤ e) : Bool) <;> simp : (decide (0 ≤ e) : Bool) = false ∨ (decide (0 ≤ e) : Bool) = true) with t8 | t8
                · have hr : tagB k p s e = false := tagB_no (by
                    simp only [decide_eq_true_eq, decide_eq_false_iff_not, beq_iff_eq, beq_eq_false_iff_ne, bne_iff_ne, bne_eq_false_iff_eq, ne_eq, Decidable.not_not] at t1
                    simp only [decide_eq_true_eq, decide_eq_false_iff_not, beq_iff_eq, beq_eq_false_iff_ne, bne_iff_ne, bne_eq_false_iff_eq, ne_eq, Decidable.not_not] at t2
                    simp only [decide_eq_true_eq, decide_eq_false_iff_not, beq_iff_eq, beq_eq_false_iff_ne, bne_iff_ne, bne_eq_false_iff_eq, ne_eq, Decidable.not_not] at t3
                    simp only [decide_eq_true_eq, decide_eq_false_iff_not, beq_iff_eq, beq_eq_false_iff_ne, bne_iff_ne, bne_eq_false_iff_eq, ne_eq, Decidable.not_not] at t4
                    simp only [decide_eq_true_eq, decide_eq_false_iff_not, beq_iff_eq, beq_eq_false_iff_ne, bne_iff_ne, bne_eq_false_iff_eq, ne_eq, Decidable.not_not] at t5
                    simp only [decide_eq_true_eq, decide_eq_false_iff_not, beq_iff_eq, beq_eq_false_iff_ne, bne_iff_ne, bne_eq_false_iff_eq, ne_eq, Decidable.not_not] at t6
                    simp only [decide_eq_true_eq, decide_eq_false_iff_not, beq_iff_eq, beq_eq_false_iff_ne, bne_iff_ne, bne_eq_false_iff_eq, ne_eq, Decidable.not_not] at t7
                    simp only [decide_eq_true_eq, decide_eq_false_iff_not, beq_iff_eq, beq_eq_false_iff_ne, bne_iff_ne, bne_eq_false_iff_eq, ne_eq, Decidable.not_not] at t8
                    omega)
                  have HR := Lib.hid hr
                  clear hr
                  go_wp2
                  go_ret
                  exact ⟨ret_boolT HR.out.symm, ((Below.refl _ _).alloc (Nat.le_refl _) _)⟩
                · rcases (by cases hq : (decide (e ≤ 16777215) : Bool) <;> simp : (decide (e ≤ 16777215) : Bool) = false ∨ (decide (e ≤ 16777215) : Bool) = true) with t9 | t9
                  · have hr : tagB k p s e = false := tagB_no (by
                      simp only [decide_eq_true_eq, decide_eq_false_iff_not, beq_iff_eq, beq_eq_false_iff_ne, bne_iff_ne, bne_eq_false_iff_eq, ne_eq, Decidable.not_not] at t1
                      simp only [decide_eq_true_eq, decide_eq_false_iff_not, beq_iff_eq, beq_eq_false_iff_ne, bne_iff_ne, bne_eq_false_iff_eq, ne_eq, Decidable.not_not] at t2
                      simp only [decide_eq_true_eq, decide_eq_false_iff_not, beq_iff_eq, beq_eq_false_iff_ne, bne_iff_ne, bne_eq_false_iff_eq, ne_eq, Decidable.not_not] at t3
                      simp only [decide_eq_true_eq, decide_eq_false_iff_not, beq_iff_eq, beq_eq_false_iff_ne, bne_iff_ne, bne_eq_false_iff_eq, ne_eq, Decidable.not_not] at t4
                      simp only [decide_eq_true_eq, decide_eq_false_iff_not, beq_iff_eq, beq_eq_false_iff_ne, bne_iff_ne, bne_eq_false_iff_eq, ne_eq, Decidable.not_not] at t5
                      simp only [decide_eq_true_eq, decide_eq_false_iff_not, beq_iff_eq, beq_eq_false_iff_ne, bne_iff_ne, bne_eq_false_iff_eq, ne_eq, Decidable.not_not] at t6
                      simp only [decide_eq_true_eq, decide_eq_false_iff_not, beq_iff_eq, beq_eq_false_iff_ne, bne_iff_ne, bne_eq_false_iff_eq, ne_eq, Decidable.not_not] at t7
                      simp only [decide_eq_true_eq, decide_eq_false_iff_not, beq_iff_eq, beq_eq_false_iff_ne, bne_iff_ne, bne_eq_false_iff_eq, ne_eq, Decidable.not_not] at t8
                      simp only [decide_eq_true_eq, decide_eq_false_iff_not, beq_iff_eq, beq_eq_false_iff_ne, bne_iff_ne, bne_eq_false_iff_eq, ne_eq, Decidable.not_not] at t9
                      omega)
                    have HR := Lib.hid hr
                    clear hr
                    go_wp2
                    go_ret
                    exact ⟨ret_boolT HR.out.symm, ((Below.refl _ _).alloc (Nat.le_refl _) _)⟩
                  · have hr : tagB k p s e = true := tagB_iff.2 (by
                      simp only [decide_eq_true_eq, decide_eq_false_iff_not, beq_iff_eq, beq_eq_false_iff_ne, bne_iff_ne, bne_eq_false_iff_eq, ne_eq, Decidable.not_not] at t1
                      simp only [decide_eq_true_eq, decide_eq_false_iff_not, beq_iff_eq, beq_eq_false_iff_ne, bne_iff_ne, bne_eq_false_iff_eq, ne_eq, Decidable.not_not] at t2
                      simp only [decide_eq_true_eq, decide_eq_false_iff_not, beq_iff_eq, beq_eq_false_iff_ne, bne_iff_ne, bne_eq_false_iff_eq, ne_eq, Decidable.not_not] at t3
                      simp only [decide_eq_true_eq, decide_eq_false_iff_not, beq_iff_eq, beq_eq_false_iff_ne, bne_iff_ne, bne_eq_false_iff_eq, ne_eq, Decidable.not_not] at t4
                      simp only [decide_eq_true_eq, decide_eq_false_iff_not, beq_iff_eq, beq_eq_false_iff_ne, bne_iff_ne, bne_eq_false_iff_eq, ne_eq, Decidable.not_not] at t5
                      simp only [decide_eq_true_eq, decide_eq_false_iff_not, beq_iff_eq, beq_eq_false_iff_ne, bne_iff_ne, bne_eq_false_iff_eq, ne_eq, Decidable.not_not] at t6
                      simp only [decide_eq_true_eq, decide_eq_false_iff_not, beq_iff_eq, beq_eq_false_iff_ne, bne_iff_ne, bne_eq_false_iff_eq, ne_eq, Decidable.not_not] at t7
                      simp only [decide_eq_true_eq, decide_eq_false_iff_not, beq_iff_eq, beq_eq_false_iff_ne, bne_iff_ne, bne_eq_false_iff_eq, ne_eq, Decidable.not_not] at t8
                      simp only [decide_eq_true_eq, decide_eq_false_iff_not, beq_iff_eq, beq_eq_false_iff_ne, bne_iff_ne, bne_eq_false_iff_eq, ne_eq, Decidable.not_not] at t9
                      omega)
                    have HR := Lib.hid hr
                    clear hr
                    go_wp2
                    go_ret
                    exact ⟨ret_boolT HR.out.symm, ((Below.refl _ _).alloc (Nat.le_refl _) _)⟩
          · rcases (by cases hq : (p == 0 : Bool) <;> simp : (p == 0 : Bool) = false ∨ (p == 0 : Bool) = true) with t6 | t6
            · have hr : tagB k p s e = false := tagB_no (by
                simp only [decide_eq_true_eq, decide_eq_false_iff_not, beq_iff_eq, beq_eq_false_iff_ne, bne_iff_ne, bne_eq_false_iff_eq, ne_eq, Decidable.not_not] at t1
                simp only [decide_eq_true_eq, decide_eq_false_iff_not, beq_iff_eq, beq_eq_false_iff_ne, bne_iff_ne, bne_eq_false_iff_eq, ne_eq, Decidable.not_not] at t2
                simp only [decide_eq_true_eq, decide_eq_false_iff_not, beq_iff_eq, beq_eq_false_iff_ne, bne_iff_ne, bne_eq_false_iff_eq, ne_eq, Decidable.not_not] at t3
                simp only [decide_eq_true_eq, decide_eq_false_iff_not, beq_iff_eq, beq_eq_false_iff_ne, bne_iff_ne, bne_eq_false_iff_eq, ne_eq, Decidable.not_not] at t4
                simp only [decide_eq_true_eq, decide_eq_false_iff_not, beq_iff_eq, beq_eq_false_iff_ne, bne_iff_ne, bne_eq_false_iff_eq, ne_eq, Decidable.not_not] at t5
                simp only [decide_eq_true_eq, decide_eq_false_iff_not, beq_iff_eq, beq_eq_false_iff_ne, bne_iff_ne, bne_eq_false_iff_eq, ne_eq, Decidable.not_not] at t6
                omega)
              have HR := Lib.hid hr
              clear hr
              go_wp2
              go_ret
              exact ⟨ret_boolT HR.out.symm, ((Below.refl _ _).alloc (Nat.le_refl _) _)⟩
            · rcases (by cases hq : (decide (0 ≤ s) : Bool) <;> simp : (decide (0 ≤ s) : Bool) = false ∨ (decide (0 ≤ s) : Bool) = true) with t7 | t7
              · have hr : tagB k p s e = false := tagB_no (by
                  simp only [decide_eq_true_eq, decide_eq_false_iff_not, beq_iff_eq, beq_eq_false_iff_ne, bne_iff_ne, bne_eq_false_iff_eq, ne_eq, Decidable.not_not] at t1
                  simp only [decide_eq_true_eq, decide_eq_false_iff_not, beq_iff_eq, beq_eq_false_iff_ne, bne_iff_ne, bne_eq_false_iff_eq, ne_eq, Decidable.not_not] at t2
                  simp only [decide_eq_true_eq, decide_eq_false_iff_not, beq_iff_eq, beq_eq_false_iff_ne, bne_iff_ne, bne_eq_false_iff_eq, ne_eq, Decidable.not_not] at t3
                  simp only [decide_eq_true_eq, decide_eq_false_iff_not, beq_iff_eq, beq_eq_false_iff_ne, bne_iff_ne, bne_eq_false_iff_eq, ne_eq, Decidable.not_not] at t4
                  simp only [decide_eq_true_eq, decide_eq_false_iff_not, beq_iff_eq, beq_eq_false_iff_ne, bne_iff_ne, bne_eq_false_iff_eq, ne_eq, Decidable.not_not] at t5
                  simp only [decide_eq_true_eq, decide_eq_false_iff_not, beq_iff_eq, beq_eq_false_iff_ne, bne_iff_ne, bne_eq_false_iff_eq, ne_eq, Decidable.not_not] at t6
                  simp only [decide_eq_true_eq, decide_eq_false_iff_not, beq_iff_eq, beq_eq_false_iff_ne, bne_iff_ne, bne_eq_false_iff_eq, ne_eq, Decidable.not_not] at t7
                  omega)
                have HR := Lib.hid hr
                clear hr
                go_wp2
                go_ret
                exact ⟨ret_boolT HR.out.symm, ((Below.refl _ _).alloc (Nat.le_refl _) _)⟩
              · rcases (by cases hq : (decide (s ≤ 4294967295) : Bool) <;> simp : (decide (s ≤ 4294967295) : Bool) = false ∨ (decide (s ≤ 4294967295) : Bool) = true) with t8 | t8
                · have hr : tagB k p s e = false := tagB_no (by
                    simp only [decide_eq_true_eq, decide_eq_false_iff_not, beq_iff_eq, beq_eq_false_iff_ne, bne_iff_ne, bne_eq_false_iff_eq, ne_eq, Decidable.not_not] at t1
                    simp only [decide_eq_true_eq, decide_eq_false_iff_not, beq_iff_eq, beq_eq_false_iff_ne, bne_iff_ne, bne_eq_false_iff_eq, ne_eq, Decidable.not_not] at t2
                    simp only [decide_eq_true_eq, decide_eq_false_iff_not, beq_iff_eq, beq_eq_false_iff_ne, bne_iff_ne, bne_eq_false_iff_eq, ne_eq, Decidable.not_not] at t3
                    simp only [decide_eq_true_eq, decide_eq_false_iff_not, beq_iff_eq, beq_eq_false_iff_ne, bne_iff_ne, bne_eq_false_iff_eq, ne_eq, Decidable.not_not] at t4
                    simp only [decide_eq_true_eq, decide_eq_false_iff_not, beq_iff_eq, beq_eq_false_iff_ne, bne_iff_ne, bne_eq_false_iff_eq, ne_eq, Decidable.not_not] at t5
                    simp only [decide_eq_true_eq, decide_eq_false_iff_not, beq_iff_eq, beq_eq_false_iff_ne, bne_iff_ne, bne_eq_false_iff_eq, ne_eq, Decidable.not_not] at t6
                    simp only [decide_eq_true_eq, decide_eq_false_iff_not, beq_iff_eq, beq_eq_false_iff_ne, bne_iff_ne, bne_eq_false_iff_eq, ne_eq, Decidable.not_not] at t7
                    simp only [decide_eq_true_eq, decide_eq_false_iff_not, beq_iff_eq, beq_eq_false_iff_ne, bne_iff_ne, bne_eq_false_iff_eq, ne_eq, Decidable.not_not] at t8
                    omega)
                  have HR := Lib.hid hr
                  clear hr
                  go_wp2
                  go_ret
                  exact ⟨ret_boolT HR.out.symm, ((Below.refl _ _).alloc (Nat.le_refl _) _)⟩
                · rcases (by cases hq : (decide (0 ≤ e) : Bool) <;> simp : (decide (0 ≤ e) : Bool) = false ∨ (decide (0 ≤ e) : Bool) = true) with t9 | t9
                  · have hr : tagB k p s e = false := tagB_no (by
                      simp only [decide_eq_true_eq, decide_eq_false_iff_not, beq_iff_eq, beq_eq_false_iff_ne, bne_iff_ne, bne_eq_false_iff_eq, ne_eq, Decidable.not_not] at t1
                      simp only [decide_eq_true_eq, decide_eq_false_iff_not, beq_iff_eq, beq_eq_false_iff_ne, bne_iff_ne, bne_eq_false_iff_eq, ne_eq, Decidable.not_not] at t2
                      simp only [decide_eq_true_eq, decide_eq_false_iff_not, beq_iff_eq, beq_eq_false_iff_ne, bne_iff_ne, bne_eq_false_iff_eq, ne_eq, Decidable.not_not] at t3
                      simp only [decide_eq_true_eq, decide_eq_false_iff_not, beq_iff_eq, beq_eq_false_iff_ne, bne_iff_ne, bne_eq_false_iff_eq, ne_eq, Decidable.not_not] at t4
                      simp only [decide_eq_true_eq, decide_eq_false_iff_not, beq_iff_eq, beq_eq_false_iff_ne, bne_iff_ne, bne_eq_false_iff_eq, ne_eq, Decidable.not_not] at t5
                      simp only [decide_eq_true_eq, decide_eq_false_iff_not, beq_iff_eq, beq_eq_false_iff_ne, bne_iff_ne, bne_eq_false_iff_eq, ne_eq, Decidable.not_not] at t6
                      simp only [decide_eq_true_eq, decide_eq_false_iff_not, beq_iff_eq, beq_eq_false_iff_ne, bne_iff_ne, bne_eq_false_iff_eq, ne_eq, Decidable.not_not] at t7
                      simp only [decide_eq_true_eq, decide_eq_false_iff_not, beq_iff_eq, beq_eq_false_iff_ne, bne_iff_ne, bne_eq_false_iff_eq, ne_eq, Decidable.not_not] at t8
                      simp only [decide_eq_true_eq, decide_eq_false_iff_not, beq_iff_eq, beq_eq_false_iff_ne, bne_iff_ne, bne_eq_false_iff_eq, ne_eq, Decidable.not_not] at t9
                      omega)
                    have HR := Lib.hid hr
                    clear hr
                    go_wp2
                    go_ret
                    exact ⟨ret_boolT HR.out.symm, ((Below.refl _ _).alloc (Nat.le_refl _) _)⟩
                  · rcases (by cases hq : (decide (e ≤ 16777215) : Bool) <;> simp : (decide (e ≤ 16777215) : Bool) = false ∨ (decide (e ≤ 16777215) : Bool) = true) with t10 | t10
                    · have hr : tagB k p s e = false := tagB_no (by
                        simp only [decide_eq_true_eq, decide_eq_false_iff_not, beq_iff_eq, beq_eq_false_iff_ne, bne_iff_ne, bne_eq_false_iff_eq, ne_eq, Decidable.not_not] at t1
                        simp only [decide_eq_true_eq, decide_eq_false_iff_not, beq_iff_eq, beq_eq_false_iff_ne, bne_iff_ne, bne_eq_false_iff_eq, ne_eq, Decidable.not_not] at t2
                        simp only [decide_eq_true_eq, decide_eq_false_iff_not, beq_iff_eq, beq_eq_false_iff_ne, bne_iff_ne, bne_eq_false_iff_eq, ne_eq, Decidable.not_not] at t3
                        simp only [decide_eq_true_eq, decide_eq_false_iff_not, beq_iff_eq, beq_eq_false_iff_ne, bne_iff_ne, bne_eq_false_iff_eq, ne_eq, Decidable.not_not] at t4
                        simp only [decide_eq_true_eq, decide_eq_false_iff_not, beq_iff_eq, beq_eq_false_iff_ne, bne_iff_ne, bne_eq_false_iff_eq, ne_eq, Decidable.not_not] at t5
                        simp only [decide_eq_true_eq, decide_eq_false_iff_not, beq_iff_eq, beq_eq_false_iff_ne, bne_iff_ne, bne_eq_false_iff_eq, ne_eq, Decidable.not_not] at t6
                        simp only [decide_eq_true_eq, decide_eq_false_iff_not, beq_iff_eq, beq_eq_false_iff_ne, bne_iff_ne, bne_eq_false_iff_eq, ne_eq, Decidable.not_not] at t7
                        simp only [decide_eq_true_eq, decide_eq_false_iff_not, beq_iff_eq, beq_eq_false_iff_ne, bne_iff_ne, bne_eq_false_iff_eq, ne_eq, Decidable.not_not] at t8
                        simp only [decide_eq_true_eq, decide_eq_false_iff_not, beq_iff_eq, beq_eq_false_iff_ne, bne_iff_ne, bne_eq_false_iff_eq, ne_eq, Decidable.not_not] at t9
                        simp only [decide_eq_true_eq, decide_eq_false_iff_not, beq_iff_eq, beq_eq_false_iff_ne, bne_iff_ne, bne_eq_false_iff_eq, ne_eq, Decidable.not_not] at t10
                        omega)
                      have HR := Lib.hid hr
                      clear hr
                      go_wp2
                      go_ret
                      exact ⟨ret_boolT HR.out.symm, ((Below.refl _ _).alloc (Nat.le_refl _) _)⟩
                    · have hr : tagB k p s e = true := tagB_iff.2 (by
                        simp only [decide_eq_true_eq, decide_eq_false_iff_not, beq_iff_eq, beq_eq_false_iff_ne, bne_iff_ne, bne_eq_false_iff_eq, ne_eq, Decidable.not_not] at t1
                        simp only [decide_eq_true_eq, decide_eq_false_iff_not, beq_iff_eq, beq_eq_false_iff_ne, bne_iff_ne, bne_eq_false_iff_eq, ne_eq, Decidable.not_not] at t2
                        simp only [decide_eq_true_eq, decide_eq_false_iff_not, beq_iff_eq, beq_eq_false_iff_ne, bne_iff_ne, bne_eq_false_iff_eq, ne_eq, Decidable.not_not] at t3
                        simp only [decide_eq_true_eq, decide_eq_false_iff_not, beq_iff_eq, beq_eq_false_iff_ne, bne_iff_ne, bne_eq_false_iff_eq, ne_eq, Decidable.not_not] at t4
                        simp only [decide_eq_true_eq, decide_eq_false_iff_not, beq_iff_eq, beq_eq_false_iff_ne, bne_iff_ne, bne_eq_false_iff_eq, ne_eq, Decidable.not_not] at t5
                        simp only [decide_eq_true_eq, decide_eq_false_iff_not, beq_iff_eq, beq_eq_false_iff_ne, bne_iff_ne, bne_eq_false_iff_eq, ne_eq, Decidable.not_not] at t6
                        simp only [decide_eq_true_eq, decide_eq_false_iff_not, beq_iff_eq, beq_eq_false_iff_ne, bne_iff_ne, bne_eq_false_iff_eq, ne_eq, Decidable.not_not] at t7
                        simp only [decide_eq_true_eq, decide_eq_false_iff_not, beq_iff_eq, beq_eq_false_iff_ne, bne_iff_ne, bne_eq_false_iff_eq, ne_eq, Decidable.not_not] at t8
                        simp only [decide_eq_true_eq, decide_eq_false_iff_not, beq_iff_eq, beq_eq_false_iff_ne, bne_iff_ne, bne_eq_false_iff_eq, ne_eq, Decidable.not_not] at t9
                        simp only [decide_eq_true_eq, decide_eq_false_iff_not, beq_iff_eq, beq_eq_false_iff_ne, bne_iff_ne, bne_eq_false_iff_eq, ne_eq, Decidable.not_not] at t10
                        omega)
                      have HR := Lib.hid hr
                      clear hr
                      go_wp2
                      go_ret
                      exact ⟨ret_boolT HR.out.symm, ((Below.refl _ _).alloc (Nat.le_refl _) _)⟩
def blankB (bs : List Nat) : Bool := bs.all fun b => b == 255
theorem all_take {p : Nat → Bool} {bs : List Nat} {k : Nat} (hk : k < bs.length) : (bs.take (k + 1)).all p = ((bs.take k).all p && p bs[k]) := by
  rw [List.take_succ_eq_append_getElem hk, List.all_append, List.all_cons, List.all_nil, Bool.and_true]
theorem erased_any (bs : List Nat) (A : Option Addr) (c : Nat) (w : World) (h1 : Sl w w.heap.size A (bs.map byteV)) (h8 : Bytes8 bs) (n1 : bs.length ≤ 1000000) :
    Calls Try.prog 80 #[.slice A bs.length c] w fun e w' => e = .returned (.bool (blankB bs)) ∧ w = w' := by
  go_enter Try.func80, Try.ntmps80
  go_wp2
  go_loop [7] (fun i => ∃ k : Nat, k ≤ bs.length ∧ i = .int .i64 k ∧ Hid ((bs.take k).all (fun b => b == 255) = true)) (fun i => bs.length - (intOf i).toNat)
  case atStart => exact ⟨0, Nat.zero_le _, rfl, Lib.hid (by simp)⟩
  case round =>
    obtain ⟨k, hk, rfl, H0⟩ := hrel
    by_cases hlt : k < bs.length
    · obtain ⟨b1, o1, rfl, l1, q1⟩ := h1.at_ (by simpa using (by omega : 0 < bs.length))
      have hr := all_take (p := fun b => b == 255) hlt
      have hm := List.getElem_mem hlt
      obtain ⟨x, hx⟩ : ∃ x, bs[k] = x := ⟨_, rfl⟩
      rw [hx] at hr hm
      have x1 : w.cell? ⟨b1, o1 + k, none⟩ = some (.int .u8 (x : Int)) := by rw [← hx]; exact q1 k _ (by simp [hlt, byteV])
      have HR := Lib.hid (hr.trans (by rw [H0.out, Bool.true_and]))
      have i0 : (0 : Int) ≤ (k : Int) := by omega
      have i1 : (k : Int) < (bs.length : Int) := by omega
      clear q1 hx hr
      by_cases he : x = 255
      · have t1 : ((x : Int) != 255) = false := by simp; omega
        have hn : (bs.take (k + 1)).all (fun b => b == 255) = true := HR.out.trans (by simpa using he)
        have HN := Lib.hid hn
        clear hn he
        go_wp2
        go_round
        case rel => exact ⟨k + 1, by omega, by go_num, HN⟩
        case measure => simp [intOf]; omega
      · have t1 : ((x : Int) != 255) = true := by simp; omega
        have hf : blankB bs = false := by
          unfold blankB
          rw [List.all_eq_false]
          exact ⟨x, hm, by simpa using he⟩
        have HF := Lib.hid hf
        clear hf he
        go_wp2
        go_ret
        exact ⟨ret_boolT HF.out.symm, rfl⟩
    · go_wp2
      have hkk : k = bs.length := by omega
      subst hkk
      have hr : blankB bs = true := by have := H0.out; rwa [List.take_length] at this
      go_ret
      exact ⟨ret_boolT hr.symm, rfl⟩
end Go.Proofs.Ytcpniplfkillbaa
namespace Go.Proofs.Ytcpniplfkillbaa
open Go.ChangeShapes Go.WideShapes Go.ChangeAt Go.RowKit
attribute [local go_sem ↓] Go.wp_at_zero Go.wp_at_succ
def bodyB (data : List Nat) (k p s e : Nat) : List Nat := (((data ++ [74, k]) ++ beB p 2) ++ beB s 4) ++ beB e 3
def rawB (data : List Nat) (k p s e : Nat) : List Nat := (bodyB data k p s e ++ beB (crcMore 0 (bodyB data k p s e)) 4) ++ [0]
theorem bodyB_len (data : List Nat) (k p s e : Nat) : (bodyB data k p s e).length = data.length + 11 := by simp [bodyB, beB_len]
theorem rawB_len (data : List Nat) (k p s e : Nat) : (rawB data k p s e).length = data.length + 16 := by simp [rawB, bodyB_len, beB_len]
theorem bodyB_8 {data : List Nat} {k p s e : Nat} (hd : Bytes8 data) (hk : k < 256) : Bytes8 (bodyB data k p s e) := by
  intro b hb
  simp only [bodyB, List.mem_append, List.mem_cons, List.not_mem_nil, or_false] at hb
  rcases hb with (((h | h) | h) | h) | h
  · exact hd b h
  · omega
  · exact beB_8 _ _ b h
  · exact beB_8 _ _ b h
  · exact beB_8 _ _ b h
theorem rawB_8 {data : List Nat} {k p s e : Nat} (hd : Bytes8 data) (hk : k < 256) : Bytes8 (rawB data k p s e) := by
  intro b hb
  simp only [rawB, List.mem_append, List.mem_cons, List.not_mem_nil, or_false] at hb
  rcases hb with (h | h) | h
  · exact bodyB_8 hd hk b h
  · exact beB_8 _ _ b h
  · omega
theorem own_slice {w : World} {base : Nat} {e : TypeId} {v : Value} {n : Nat} {bs : List Nat} (h : w.ownsRow base e 1 v n (bs.map byteV)) : ∃ (A : Option Addr) (c : Nat), v = .slice A n c ∧ bs.length = n ∧ n ≤ c ∧ c ≤ maxLen ∧ (A = none → n = 0 ∧ c = 0) ∧ Sl w w.heap.size A (bs.map byteV) := by
  have hl : bs.length = n := by
    have := h.1
    simp at this
    omega
  rcases h.2 with ⟨hv, h0⟩ | ⟨g, cap, cur, hv, hbg, hh, hnc, hm, hsz, ht⟩
  · subst h0
    exact ⟨none, 0, hv, hl, Nat.le_refl _, by unfold maxLen; omega, fun _ => ⟨rfl, rfl⟩, Or.inl (by rw [List.eq_nil_of_length_eq_zero hl]; rfl)⟩
  · subst hv
    exact ⟨some ⟨g, 0, none⟩, cap, rfl, hl, hnc, hm, by simp, Sl.of_own h⟩
theorem own_mono {w : World} {base base' : Nat} {e : TypeId} {size n : Nat} {v : Value} {xs : List Value} (h : w.ownsRow base e size v n xs) (hb : base' ≤ base) : w.ownsRow base' e size v n xs := by
  obtain ⟨hl, h⟩ := h
  rcases h with h | ⟨g, cap, cur, hv, hbg, hr⟩
  · exact ⟨hl, Or.inl h⟩
  · exact ⟨hl, Or.inr ⟨g, cap, cur, hv, by omega, hr⟩⟩
theorem own_len {w : World} {base : Nat} {e : TypeId} {size n m : Nat} {v : Value} {xs : List Value} (h : n = m) (ho : w.ownsRow base e size v n xs) : w.ownsRow base e size v m xs := by rw [← h]; exact ho
theorem crcOf_len (bs : List Nat) (n : Nat) (hn : bs.length = n) (A : Option Addr) (c : Nat) (w : World) (h1 : Sl w w.heap.size A (bs.map byteV)) (h8 : Bytes8 bs) (n1 : bs.length ≤ 1000000000) :
    Calls Try.prog 91 #[.slice A n c] w fun e w' => e = .returned (.int .u32 (crcMore 0 bs)) ∧ w = w' := by
  subst hn
  exact (crcOf_any bs A c w h1 h8 n1).mono fun e w' h => ⟨h.1, h.2.symm⟩
theorem Rd.list {w : World} {g : Nat} {t : TypeId} {vs : List Value} (h : Blk w g t vs.toArray) {m : Nat} (hm : vs.length = m) : Rd w (some ⟨g, 0, none⟩) m 1 vs := by
  refine ⟨by omega, Or.inr ⟨g, 0, rfl, fun j u hj => ?_⟩⟩
  rw [Nat.zero_add, h.cell_ j]
  simpa using hj
theorem rnum_n (v : Nat) (n : Nat) (N : Int) (hN : (n : Int) = N) (base : Nat) (sv : Value) (m : Nat) (xs : List Nat) (w : World) (hv : v < 4294967296) (hn1 : 1 ≤ n) (hn : n ≤ 4) (hown : w.ownsRow base 5 1 sv m (xs.map byteV)) (hbase : base ≤ w.heap.size) (hm : m ≤ 1000) :
    Calls Try.prog 53 #[sv, .int .i64 v, .int .i64 N] w fun e w' =>
      ∃ sv', e = .returned sv' ∧ w'.ownsRow base 5 1 sv' (m + n) ((xs ++ beB v n).map byteV) ∧ Below base w w' ∧ (sv'.ownBlock = sv.ownBlock ∨ ∃ g, sv'.ownBlock = some g ∧ w.heap.size ≤ g) := by
  subst hN
  exact rnum_any v n base sv m xs w hv hn1 hn hown hbase hm
end Go.Proofs.Ytcpniplfkillbaa
namespace Go.Proofs.Ytcpniplfkillbaa
open Go.ChangeShapes Go.WideShapes Go.ChangeAt Go.RowKit
attribute [local go_sem ↓] Go.wp_at_zero Go.wp_at_succ
theorem sl_sub {w : World} {B b o : Nat} {vs : List Value} (h : Sl w B (some ⟨b, o, none⟩) vs) (i n : Nat) : Sl w B (some ⟨b, o + i, none⟩) ((vs.drop i).take n) := by
  rcases h with h | ⟨b', off, e, hlt, hc⟩
  · exact Or.inl (by rw [h]; simp)
  · cases e
    refine Or.inr ⟨b, o + i, rfl, hlt, fun k v hv => ?_⟩
    rw [List.getElem?_take] at hv
    split at hv
    · rw [List.getElem?_drop] at hv
      have := hc (i + k) v hv
      rwa [← Nat.add_assoc] at this
    · cases hv
theorem held_of {w w' : World} (h : Below w.heap.size w w') : Below w.heap.size w w' ∧ w.heap.size ≤ w'.heap.size ∧ ∀ (k o : Nat), k < w.heap.size → w'.cell? ⟨k, o, none⟩ = w.cell? ⟨k, o, none⟩ := ⟨h, h.size, fun k o hk => h.cell (p := ⟨k, o, none⟩) hk⟩
theorem number_n (bs : List Nat) (n : Nat) (hn : bs.length = n) (A : Option Addr) (c : Nat) (w : World) (h1 : Sl w w.heap.size A (bs.map byteV)) (h8 : Bytes8 bs) (n1 : n ≤ 4) :
    Calls Try.prog 89 #[.slice A n c] w fun e w' => e = .returned (.int .i64 (numB bs)) ∧ w = w' := by
  subst hn
  exact number_any bs A c w h1 h8 n1
theorem rget_n (bs : List Nat) (n : Nat) (hn : bs.length = n) (A : Option Addr) (c : Nat) (w : World) (h1 : Sl w w.heap.size A (bs.map byteV)) (h8 : Bytes8 bs) (n1 : n ≤ 4) :
    Calls Try.prog 65 #[.slice A n c] w fun e w' => e = .returned (.int .i64 (numB bs)) ∧ w = w' := by
  subst hn
  exact rget_any bs A c w h1 h8 n1
def part (tl : List Nat) (i n : Nat) : List Nat := (tl.drop i).take n
theorem part_len {tl : List Nat} {i n : Nat} (h : i + n ≤ tl.length) : (part tl i n).length = n := by simp [part]; omega
theorem part_8 {tl : List Nat} (h : Bytes8 tl) (i n : Nat) : Bytes8 (part tl i n) := fun b hb => h b (List.mem_of_mem_drop (List.mem_of_mem_take hb))
theorem part_map (tl : List Nat) (i n : Nat) : (part tl i n).map byteV = ((tl.map byteV).drop i).take n := by simp [part, List.map_take, List.map_drop]
def tK (tl : List Nat) : Nat := tl.getD 1 0
def tP (tl : List Nat) : Nat := numB (part tl 2 2)
def tS (tl : List Nat) : Nat := numB (part tl 4 4)
def tE (tl : List Nat) : Nat := numB (part tl 8 3)
theorem parse_any (tl : List Nat) (b o c : Nat) (w : World) (h1 : Sl w w.heap.size (some ⟨b, o, none⟩) (tl.map byteV)) (h8 : Bytes8 tl) (hl : tl.length = 16) (hc : 16 ≤ c) (hc2 : c ≤ maxLen) :
    Calls Try.prog 81 #[.slice (some ⟨b, o, none⟩) 16 c] w fun e' w' => e' = .returned (.agg #[.int .i64 (tK tl), .int .i64 (tP tl), .int .i64 (tS tl), .int .i64 (tE tl)]) ∧ Below w.heap.size w w' := by
  unfold maxLen at hc2
  obtain ⟨b', o', hA, lb, q⟩ := h1.at_ (by simp; omega)
  cases hA
  have c1 : w.cell? ⟨b, o + 1, none⟩ = some (.int .u8 (tK tl : Nat)) := q 1 _ (by simp [tK, byteV, show 1 < tl.length by omega])
  have hk8 : (tK tl) < 256 := Bytes8.at_ h8 1
  have k1 : ((tK tl : Nat) : Int) < 256 := by omega
  have k0 : (0 : Int) ≤ ((tK tl : Nat) : Int) := by omega
  have P1 : Sl w w.heap.size (some ⟨b, o + 2, none⟩) ((part tl 2 2).map byteV) := by rw [part_map]; exact sl_sub h1 2 2
  have P2 : Sl w w.heap.size (some ⟨b, o + 4, none⟩) ((part tl 4 4).map byteV) := by rw [part_map]; exact sl_sub h1 4 4
  have P3 : Sl w w.heap.size (some ⟨b, o + 8, none⟩) ((part tl 8 3).map byteV) := by rw [part_map]; exact sl_sub h1 8 3
  have L1 : Hid ((part tl 2 2).length = 2) := Lib.hid (part_len (by omega))
  have L2 : Hid ((part tl 4 4).length = 4) := Lib.hid (part_len (by omega))
  have L3 : Hid ((part tl 8 3).length = 3) := Lib.hid (part_len (by omega))
  have hcc : (16 : Int) ≤ (c : Int) := by omega
  have q4 : (4 : Int) ≤ (c : Int) := by omega
  have q8 : (8 : Int) ≤ (c : Int) := by omega
  have q11 : (11 : Int) ≤ (c : Int) := by omega
  have n2 : ¬ c = 2 := by omega
  have n4 : ¬ c = 4 := by omega
  have n8 : ¬ c = 8 := by omega
  have ww : IntKind.i64.wrap ((tK tl : Nat) : Int) = ((tK tl : Nat) : Int) := IntWalk.i64_in _ (by omega)
  have hw : ∀ (B : Nat) (wx : World), wx = w → True := fun _ _ _ => trivial
  clear hl q hw
  go_enter Try.func81, Try.ntmps81
  go_wp2_with fail
  refine wp_region_noPanic ?_
  refine wp_region_held_drew (S := (fun w' => Below w.heap.size w w' ∧ w.heap.size ≤ w'.heap.size ∧ ∀ (k o : Nat), k < w.heap.size → w'.cell? ⟨k, o, none⟩ = w.cell? ⟨k, o, none⟩)) (by kernel_rfl) ?_ (fun hHeld => ?_)
  · (first | assumption | exact held_of (((Below.refl w.heap.size w).alloc (Nat.le_refl _) _).drew) | exact held_of ((Below.refl w.heap.size w).alloc (Nat.le_refl _) _))
  refine tk 0 ⟨some 3, .move (.tmp 0), 38, "tag.go:81", #[], none⟩ ?_; try simp only [Act.put, pz1, pz2, pz3]
  refine tk 1 ⟨some 4, .indexAddr 38 (.tmp 3) (.const (.int .i64 1)), 0, "tag.go:81", #[⟨0, .data⟩], none⟩ ?_; try simp only [Act.put, pz1, pz2, pz3]
  refine tk 2 ⟨some 5, .load 5 (.tmp 4), 5, "tag.go:81", #[⟨1, .data⟩], none⟩ ?_; try simp only [Act.put, pz1, pz2, pz3]
  refine tk 3 ⟨some 6, .convert 5 3 (.tmp 5), 3, "tag.go:81", #[⟨2, .data⟩], none⟩ ?_; try simp only [Act.put, pz1, pz2, pz3]
  refine tk 4 ⟨some 7, .move (.tmp 0), 38, "tag.go:81", #[], none⟩ ?_; try simp only [Act.put, pz1, pz2, pz3]
  refine tk 5 ⟨some 8, .slice 38 (.tmp 7) (some (.const (.int .i64 2))) (some (.const (.int .i64 4))) none, 38, "tag.go:81", #[⟨4, .data⟩], none⟩ ?_; try simp only [Act.put, pz1, pz2, pz3]
  refine tk 7 ⟨some 10, .move (.tmp 0), 38, "tag.go:81", #[], none⟩ ?_; try simp only [Act.put, pz1, pz2, pz3]
  refine tk 8 ⟨some 11, .slice 38 (.tmp 10) (some (.const (.int .i64 4))) (some (.const (.int .i64 8))) none, 38, "tag.go:81", #[⟨7, .data⟩], none⟩ ?_; try simp only [Act.put, pz1, pz2, pz3]
  refine tk 10 ⟨some 13, .move (.tmp 0), 38, "tag.go:81", #[], none⟩ ?_; try simp only [Act.put, pz1, pz2, pz3]
  refine tk 11 ⟨some 14, .slice 38 (.tmp 13) (some (.const (.int .i64 8))) (some (.const (.int .i64 11))) none, 38, "tag.go:81", #[⟨10, .data⟩], none⟩ ?_; try simp only [Act.put, pz1, pz2, pz3]
  refine wpAnyH_ready (rs := [6]) (by kernel_rfl) (by simp) ?_
  refine AllReadyH.cons (o := ⟨some 9, .call { callee := .value (.func 89), args := #[.tmp 8], argTypes := #[38] }, 3, "tag.go:83", #[⟨5, .data⟩], none⟩) rfl (fun K hK => ?_) AllReadyH.nil
  go_simp
  (first
      | (go_at_call 89; ((with_reducible refine (number_n (part tl 2 2) 2 L1.out (some ⟨b, o + 2, none⟩) _ _ (P1.held hHeld.2.1 hHeld.2.2) (part_8 h8 _ _) (by omega)).mono ?_); rintro e' w3 ⟨rfl, rfl⟩))
      | (go_at_call 89; ((with_reducible refine (number_n (part tl 4 4) 4 L2.out (some ⟨b, o + 4, none⟩) _ _ (P2.held hHeld.2.1 hHeld.2.2) (part_8 h8 _ _) (by omega)).mono ?_); rintro e' w3 ⟨rfl, rfl⟩))
      | (go_at_call 89; ((with_reducible refine (number_n (part tl 8 3) 3 L3.out (some ⟨b, o + 8, none⟩) _ _ (P3.held hHeld.2.1 hHeld.2.2) (part_8 h8 _ _) (by omega)).mono ?_); rintro e' w3 ⟨rfl, rfl⟩)))
  go_wp2_with fail
  refine hK.out _ _ ?_ (fun hNew => ?_)
  · (first | assumption | exact held_of (((Below.refl w.heap.size w).alloc (Nat.le_refl _) _).drew) | exact held_of ((Below.refl w.heap.size w).alloc (Nat.le_refl _) _))
  clear hK K hHeld
  have hHeld := hNew
  clear hNew
  try simp only [Act.put, pz1, pz2, pz3]
  refine wpAnyH_ready (rs := [9]) (by kernel_rfl) (by simp) ?_
  refine AllReadyH.cons (o := ⟨some 12, .call { callee := .value (.func 89), args := #[.tmp 11], argTypes := #[38] }, 3, "tag.go:84", #[⟨8, .data⟩, ⟨6, .chain⟩], none⟩) rfl (fun K hK => ?_) AllReadyH.nil
  go_simp
  (first
      | (go_at_call 89; ((with_reducible refine (number_n (part tl 2 2) 2 L1.out (some ⟨b, o + 2, none⟩) _ _ (P1.held hHeld.2.1 hHeld.2.2) (part_8 h8 _ _) (by omega)).mono ?_); rintro e' w3 ⟨rfl, rfl⟩))
      | (go_at_call 89; ((with_reducible refine (number_n (part tl 4 4) 4 L2.out (some ⟨b, o + 4, none⟩) _ _ (P2.held hHeld.2.1 hHeld.2.2) (part_8 h8 _ _) (by omega)).mono ?_); rintro e' w3 ⟨rfl, rfl⟩))
      | (go_at_call 89; ((with_reducible refine (number_n (part tl 8 3) 3 L3.out (some ⟨b, o + 8, none⟩) _ _ (P3.held hHeld.2.1 hHeld.2.2) (part_8 h8 _ _) (by omega)).mono ?_); rintro e' w3 ⟨rfl, rfl⟩)))
  go_wp2_with fail
  refine hK.out _ _ ?_ (fun hNew => ?_)
  · (first | assumption | exact held_of (((Below.refl w.heap.size w).alloc (Nat.le_refl _) _).drew) | exact held_of ((Below.refl w.heap.size w).alloc (Nat.le_refl _) _))
  clear hK K hHeld
  have hHeld := hNew
  clear hNew
  try simp only [Act.put, pz1, pz2, pz3]
  refine wpAnyH_ready (rs := [12]) (by kernel_rfl) (by simp) ?_
  refine AllReadyH.cons (o := ⟨some 15, .call { callee := .value (.func 89), args := #[.tmp 14], argTypes := #[38] }, 3, "tag.go:85", #[⟨11, .data⟩, ⟨9, .chain⟩], none⟩) rfl (fun K hK => ?_) AllReadyH.nil
  go_simp
  (first
      | (go_at_call 89; ((with_reducible refine (number_n (part tl 2 2) 2 L1.out (some ⟨b, o + 2, none⟩) _ _ (P1.held hHeld.2.1 hHeld.2.2) (part_8 h8 _ _) (by omega)).mono ?_); rintro e' w3 ⟨rfl, rfl⟩))
      | (go_at_call 89; ((with_reducible refine (number_n (part tl 4 4) 4 L2.out (some ⟨b, o + 4, none⟩) _ _ (P2.held hHeld.2.1 hHeld.2.2) (part_8 h8 _ _) (by omega)).mono ?_); rintro e' w3 ⟨rfl, rfl⟩))
      | (go_at_call 89; ((with_reducible refine (number_n (part tl 8 3) 3 L3.out (some ⟨b, o + 8, none⟩) _ _ (P3.held hHeld.2.1 hHeld.2.2) (part_8 h8 _ _) (by omega)).mono ?_); rintro e' w3 ⟨rfl, rfl⟩)))
  go_wp2_with fail
  refine hK.out _ _ ?_ (fun hNew => ?_)
  · (first | assumption | exact held_of (((Below.refl w.heap.size w).alloc (Nat.le_refl _) _).drew) | exact held_of ((Below.refl w.heap.size w).alloc (Nat.le_refl _) _))
  clear hK K hHeld
  have hHeld := hNew
  clear hNew
  try simp only [Act.put, pz1, pz2, pz3]
  refine tk 13 ⟨some 16, .build 40 #[(0, .tmp 6), (1, .tmp 9), (2, .tmp 12), (3, .tmp 15)], 40, "tag.go:81", #[⟨3, .data⟩, ⟨6, .data⟩, ⟨9, .data⟩, ⟨12, .data⟩], none⟩ ?_; try simp only [Act.put, pz1, pz2, pz3]
  refine wpAnyH_ready (rs := [14]) (by kernel_rfl) (by simp) ?_
  refine AllReadyH.cons (o := ⟨none, .store 40 (.tmp 2) (.tmp 16), 0, "tag.go:81", #[⟨13, .data⟩, ⟨12, .chain⟩, ⟨0, .phase⟩, ⟨1, .phase⟩, ⟨2, .phase⟩, ⟨3, .phase⟩, ⟨4, .phase⟩, ⟨5, .phase⟩, ⟨6, .phase⟩, ⟨7, .phase⟩, ⟨8, .phase⟩, ⟨9, .phase⟩, ⟨10, .phase⟩, ⟨11, .phase⟩, ⟨12, .phase⟩, ⟨13, .phase⟩], none⟩) rfl (fun K hK => ?_) AllReadyH.nil
  go_simp
  refine hK.out _ _ ?_ (fun hNew => ?_)
  · (first | assumption | exact held_of (((Below.refl w.heap.size w).alloc (Nat.le_refl _) _).drew) | exact held_of ((Below.refl w.heap.size w).alloc (Nat.le_refl _) _))
  clear hK K hHeld
  have hHeld := hNew
  clear hNew
  try simp only [Act.put, pz1, pz2, pz3]
  refine wpAnyH_done (by kernel_rfl) ?_ _
  refine NoPanic.normal ?_
  go_wp2
  exact bodyPost_ret (v := .agg #[.int .i64 (tK tl), .int .i64 (tP tl), .int .i64 (tS tl), .int .i64 (tE tl)]) (by simp [results, Try.results81, go_sem, tP, tS, tE]) rfl ⟨rfl, ((Below.refl _ _).alloc (Nat.le_refl _) _).drew⟩
def soundB (bs : List Nat) (n : Nat) : Bool := (bs.getD n 0 == 74) && ((bs.getD (n + 15) 0 == 0) && (numB (part bs (n + 11) 4) == crcMore 0 (bs.take (n + 11))))
theorem eqNat (a b : Nat) : ((a : Int) == (b : Int)) = (a == b) := by
  rw [Bool.eq_iff_iff]
  simp only [beq_iff_eq]
  omega
theorem sound_any (bs : List Nat) (n b o c : Nat) (w : World) (h1 : Sl w w.heap.size (some ⟨b, o, none⟩) (bs.map byteV)) (h8 : Bytes8 bs) (hl : bs.length = n + 16) (hn : n ≤ 1000) (hc : n + 16 ≤ c) (hc2 : c ≤ maxLen) :
    Calls Try.prog 83 #[.slice (some ⟨b, o, none⟩) (n + 16) c, .int .i64 n] w fun e' w' => e' = .returned (.bool (soundB bs n)) ∧ w = w' := by
  unfold maxLen at hc2
  obtain ⟨b', o', hA, lb, q⟩ := h1.at_ (by simp; omega)
  cases hA
  obtain ⟨x0, hx0⟩ : ∃ x, bs.getD n 0 = x := ⟨_, rfl⟩
  obtain ⟨x1, hx1⟩ : ∃ x, bs.getD (n + 15) 0 = x := ⟨_, rfl⟩
  have hb0 : x0 < 256 := by rw [← hx0]; exact Bytes8.at_ h8 n
  have hb1 : x1 < 256 := by rw [← hx1]; exact Bytes8.at_ h8 (n + 15)
  have c0 : w.cell? ⟨b, o + n, none⟩ = some (.int .u8 (x0 : Int)) := q n _ (by rw [← hx0]; simp [byteV, show n < bs.length by omega])
  have c1 : w.cell? ⟨b, o + (n + 15), none⟩ = some (.int .u8 (x1 : Int)) := q (n + 15) _ (by rw [← hx1]; simp [byteV, show n + 15 < bs.length by omega])
  have P1 : Sl w w.heap.size (some ⟨b, o + (n + 11), none⟩) ((part bs (n + 11) 4).map byteV) := by rw [part_map]; exact sl_sub h1 (n + 11) 4
  have P2 : Sl w w.heap.size (some ⟨b, o, none⟩) ((bs.take (n + 11)).map byteV) := by have := sl_sub h1 0 (n + 11); simpa [List.map_take] using this
  have L1 : Hid ((part bs (n + 11) 4).length = 4) := Lib.hid (part_len (by omega))
  have L2 : Hid ((bs.take (n + 11)).length = n + 11) := Lib.hid (by simp; omega)
  have h8t : Bytes8 (bs.take (n + 11)) := fun b hb => h8 b (List.mem_of_mem_take hb)
  have hsd : soundB bs n = ((x0 == 74) && ((x1 == 0) && (numB (part bs (n + 11) 4) == crcMore 0 (bs.take (n + 11))))) := by unfold soundB; rw [hx0, hx1]
  have hNb : numB (part bs (n + 11) 4) < 4294967296 := (be_num4 (part_len (by omega)) (part_8 h8 _ _)).2
  have hCb : crcMore 0 (bs.take (n + 11)) < 4294967296 := crcMore_lt (by omega)
  obtain ⟨N, hN⟩ : ∃ N, numB (part bs (n + 11) 4) = N := ⟨_, rfl⟩
  obtain ⟨C, hC⟩ : ∃ C, crcMore 0 (bs.take (n + 11)) = C := ⟨_, rfl⟩
  rw [hN] at hNb hsd
  rw [hC] at hCb hsd
  have HN := Lib.hid hN
  have HC := Lib.hid hC
  have HSD := Lib.hid hsd
  have i0 : (0 : Int) ≤ (n : Int) := by omega
  have i1 : (n : Int) ≤ 1000 := by omega
  have q1 : (n : Int) + 16 ≤ (c : Int) := by omega
  have q2 : (n : Int) + 11 + 4 ≤ (c : Int) := by omega
  have q3 : (n : Int) + 11 ≤ (c : Int) := by omega
  have q4 : (n : Int) < (n : Int) + 16 := by omega
  have n1 : ¬ c = n + 11 := by omega
  have b0 : (N : Int) < 4294967296 := by omega
  have b1 : (C : Int) < 4294967296 := by omega
  have b2 : (0 : Int) ≤ (C : Int) := by omega
  clear q hx0 hx1 hl hN hC hsd
  rcases (by cases hq : (x0 == 74 : Bool) <;> simp : (x0 == 74) = true ∨ (x0 == 74) = false) with t1 | t1
  · have u1 : ((x0 : Int) == 74) = true := (eqNat x0 74).trans t1
    rcases (by cases hq : (x1 == 0 : Bool) <;> simp : (x1 == 0) = true ∨ (x1 == 0) = false) with t2 | t2
    · have u2 : ((x1 : Int) == 0) = true := (eqNat x1 0).trans t2
      have hr := HSD.out.trans (by rw [t1, t2, Bool.true_and, Bool.true_and] : _ = (N == C))
      have hr2 := hr.trans (eqNat N C).symm
      have HR := Lib.hid hr2
      clear hr hr2 t1 t2
      go_enter Try.func83, Try.ntmps83
      go_wp2_with (first
        | (go_at_call 89; refine (number_n (part bs (n + 11) 4) 4 L1.out _ _ _ P1 (part_8 h8 _ _) (by omega)).mono ?_; rw [HN.out]; rintro e' w3 ⟨rfl, rfl⟩)
        | (go_at_call 91; refine (crcOf_len (bs.take (n + 11)) (n + 11) L2.out _ _ _ P2 h8t (by have := L2.out; omega)).mono ?_; rw [HC.out]; rintro e' w3 ⟨rfl, rfl⟩))
      go_ret
      exact ⟨ret_boolT HR.out.symm, rfl⟩
    · have u2 : ((x1 : Int) == 0) = false := (eqNat x1 0).trans t2
      have hr := HSD.out.trans (by rw [t1, t2]; rfl : _ = false)
      have HR := Lib.hid hr
      clear hr t1 t2
      go_enter Try.func83, Try.ntmps83
      go_wp2_with (first
        | (go_at_call 89; refine (number_n (part bs (n + 11) 4) 4 L1.out _ _ _ P1 (part_8 h8 _ _) (by omega)).mono ?_; rw [HN.out]; rintro e' w3 ⟨rfl, rfl⟩)
        | (go_at_call 91; refine (crcOf_len (bs.take (n + 11)) (n + 11) L2.out _ _ _ P2 h8t (by have := L2.out; omega)).mono ?_; rw [HC.out]; rintro e' w3 ⟨rfl, rfl⟩))
      go_ret
      exact ⟨ret_boolT HR.out.symm, rfl⟩
  · have u1 : ((x0 : Int) == 74) = false := (eqNat x0 74).trans t1
    have hr := HSD.out.trans (by rw [t1]; rfl : _ = false)
    have HR := Lib.hid hr
    clear hr t1
    go_enter Try.func83, Try.ntmps83
    go_wp2_with (first
        | (go_at_call 89; refine (number_n (part bs (n + 11) 4) 4 L1.out _ _ _ P1 (part_8 h8 _ _) (by omega)).mono ?_; rw [HN.out]; rintro e' w3 ⟨rfl, rfl⟩)
        | (go_at_call 91; refine (crcOf_len (bs.take (n + 11)) (n + 11) L2.out _ _ _ P2 h8t (by have := L2.out; omega)).mono ?_; rw [HC.out]; rintro e' w3 ⟨rfl, rfl⟩))
    go_ret
    exact ⟨ret_boolT HR.out.symm, rfl⟩
theorem clone_any (bs : List Nat) (n b o c : Nat) (w : World) (h1 : Sl w w.heap.size (some ⟨b, o, none⟩) (bs.map byteV)) (hl : bs.length = n) (hn : n ≤ 1000) :
    Calls Try.prog 78 #[.slice (some ⟨b, o, none⟩) n c] w fun e' w' => ∃ sv, e' = .returned sv ∧ w'.ownsRow w.heap.size 5 1 sv n (bs.map byteV) ∧ Below w.heap.size w w' := by
  obtain ⟨i0, hi, hz0, hz1, hz2⟩ := info_parts infoByte
  have HL := Lib.hid hl
  clear hl
  have hnil := fun (w : World) => Lib.run_eql_slice_nil (P := Try.prog) w 38 5 (some ⟨b, o, none⟩) n c 0 0 Try.underlying38
  go_enter Try.func78, Try.ntmps78
  go_wp2_with (at_builtin; refine wpList_app _ rfl (.tmp 5) (.tmp 6) _ rfl w.heap.size 5 i0 _ 1 1 Try.underlying38 hi hz0 hz1 hz2 rfl (by decide) _ 0 [] rfl (World.ownsRow_lit w #[] 0 (Nat.le_refl _) (by unfold maxLen; omega) rfl) _ n _ (bs.map byteV) rfl (Rd.of_sl (h1.next ((Below.refl _ _).alloc (Nat.le_refl _) _)) (by simp; exact HL.out)) (oneB bs) (by unfold maxLen; omega) (by omega) (by simp) ?_; intro s2 w2 ho2 hg2 hv2)
  go_ret
  refine ⟨_, rfl, own_len (n := 0 + n) (by omega) (by simpa using ho2), ((Below.refl _ _).alloc (Nat.le_refl _) _).trans (below_app (Nat.le_refl _) (by simp) (World.ownsRow_lit (e := 5) (size := 1) w #[] 0 (Nat.le_refl _) (by unfold maxLen; omega) rfl) hg2)⟩
end Go.Proofs.Ytcpniplfkillbaa
namespace Go.Proofs.Ytcpniplfkillbaa
open Go.ChangeShapes Go.WideShapes Go.ChangeAt Go.RowKit
attribute [local go_sem ↓] Go.wp_at_zero Go.wp_at_succ
def readSt (bs : List Nat) : Nat :=
  if 40 ≤ bs.length ∧ bs.length ≤ 80 then
    (if blankB bs = true then 0 else if tagB (tK (bs.drop (bs.length - 16))) (tP (bs.drop (bs.length - 16))) (tS (bs.drop (bs.length - 16))) (tE (bs.drop (bs.length - 16))) = true ∧ soundB bs (bs.length - 16) = true then 1 else 2) else 2
def st4 (w : World) (g : Nat) (u0 u1 u2 u3 : Value) : World := (((w.setCell ⟨g, 0, none⟩ u0).setCell ⟨g, 1, none⟩ u1).setCell ⟨g, 2, none⟩ u2).setCell ⟨g, 3, none⟩ u3
theorem st4_blk {wx : World} {g : Nat} {T : TypeId} {a b c d : Value} (h : Blk wx g T #[a, b, c, d]) (u0 u1 u2 u3 : Value) : Blk (st4 wx g u0 u1 u2 u3) g T #[u0, u1, u2, u3] := by
  have := (((h.set_ 0 u0).set_ 1 u1).set_ 2 u2).set_ 3 u3
  simpa [st4] using this
theorem st4_below {B g : Nat} {w wx : World} (h : Below B w wx) (hg : B ≤ g) (u0 u1 u2 u3 : Value) : Below B w (st4 wx g u0 u1 u2 u3) :=
  (((h.setCell (p := ⟨g, 0, none⟩) hg u0).setCell (p := ⟨g, 1, none⟩) hg u1).setCell (p := ⟨g, 2, none⟩) hg u2).setCell (p := ⟨g, 3, none⟩) hg u3
theorem st4_far {wx : World} {g g1 : Nat} {T : TypeId} {cs : Array Value} (h : Blk wx g1 T cs) (hne : g1 ≠ g) (u0 u1 u2 u3 : Value) : Blk (st4 wx g u0 u1 u2 u3) g1 T cs :=
  (((h.far (p := ⟨g, 0, none⟩) hne u0).far (p := ⟨g, 1, none⟩) hne u1).far (p := ⟨g, 2, none⟩) hne u2).far (p := ⟨g, 3, none⟩) hne u3
theorem st4_own {wx : World} {base g : Nat} {e : TypeId} {size n : Nat} {v : Value} {xs : List Value} (h : wx.ownsRow base e size v n xs) (hg : g < base) (u0 u1 u2 u3 : Value) : (st4 wx g u0 u1 u2 u3).ownsRow base e size v n xs :=
  ownsRow_setCell_below (a := ⟨g, 3, none⟩) (ownsRow_setCell_below (a := ⟨g, 2, none⟩) (ownsRow_setCell_below (a := ⟨g, 1, none⟩) (ownsRow_setCell_below (a := ⟨g, 0, none⟩) h hg u0) hg u1) hg u2) hg u3
theorem st4_keep {w wx : World} {g1 : Nat} {T : TypeId} {a b c d : Value} (hB : Below w.heap.size w wx) (hT : Blk wx g1 T #[a, b, c, d]) (hne : g1 ≠ w.heap.size) (u0 u1 u2 u3 : Value) :
    Below w.heap.size w (st4 wx w.heap.size u0 u1 u2 u3) ∧ (st4 wx w.heap.size u0 u1 u2 u3).cell? ⟨g1, 0, none⟩ = some a ∧ (st4 wx w.heap.size u0 u1 u2 u3).cell? ⟨g1, 1, none⟩ = some b ∧ (st4 wx w.heap.size u0 u1 u2 u3).cell? ⟨g1, 2, none⟩ = some c ∧ (st4 wx w.heap.size u0 u1 u2 u3).cell? ⟨g1, 3, none⟩ = some d := by
  have h := st4_far hT hne u0 u1 u2 u3
  exact ⟨st4_below hB (Nat.le_refl _) _ _ _ _, h.cell_ 0, h.cell_ 1, h.cell_ 2, h.cell_ 3⟩
theorem sl_take {w : World} {B : Nat} {A : Option Addr} {vs : List Value} (h : Sl w B A vs) (n : Nat) : Sl w B A (vs.take n) := by
  rcases h with h | ⟨b, off, e, hlt, hc⟩
  · exact Or.inl (by simp [h])
  · refine Or.inr ⟨b, off, e, hlt, fun k f hv => hc k f ?_⟩
    rw [List.getElem?_take] at hv
    split at hv
    · exact hv
    · cases hv
theorem read_len (bs : List Nat) (A : Option Addr) (c : Nat) (w : World) (hl : ¬ (40 ≤ bs.length ∧ bs.length ≤ 80)) (n1 : bs.length ≤ 1000000) :
    Calls Try.prog 64 #[.slice A bs.length c] w fun e' w' => e' = .returned (.tuple #[.slice none 0 0, .agg #[.int .i64 0, .int .i64 0, .int .i64 0, .int .i64 0], .int .i64 2]) ∧ Below w.heap.size w w' := by
  have hd : mayDataB ((bs.length : Int) - 16) = false := by unfold mayDataB; rw [Bool.and_eq_false_iff, decide_eq_false_iff_not, decide_eq_false_iff_not]; omega
  have HD := Lib.hid hd
  clear hd hl
  go_enter Try.func64, Try.ntmps64
  go_wp2_with (go_at_call 79; refine (mayData_any _ _).mono ?_; rw [HD.out]; rintro e' w' ⟨rfl, rfl⟩)
  exact bodyPost_ret (v := .tuple #[.slice none 0 0, .agg #[.int .i64 0, .int .i64 0, .int .i64 0, .int .i64 0], .int .i64 2]) (by simp [results, Try.results64, go_sem]) rfl ⟨rfl, (Below.refl _ _).alloc (Nat.le_refl _) _⟩
theorem read_in (bs : List Nat) (n b o c : Nat) (w : World) (h1 : Sl w w.heap.size (some ⟨b, o, none⟩) (bs.map byteV)) (h8 : Bytes8 bs) (hl : bs.length = n + 16) (hn1 : 24 ≤ n) (hn2 : n ≤ 64) (hc : n + 16 ≤ c) (hc2 : c ≤ maxLen) :
    (blankB bs = true → Calls Try.prog 64 #[.slice (some ⟨b, o, none⟩) (n + 16) c] w fun e' w' => e' = .returned (.tuple #[.slice none 0 0, .agg #[.int .i64 0, .int .i64 0, .int .i64 0, .int .i64 0], .int .i64 0]) ∧ Below w.heap.size w w') ∧
    (blankB bs = false → ¬ (tagB (tK (bs.drop n)) (tP (bs.drop n)) (tS (bs.drop n)) (tE (bs.drop n)) = true ∧ soundB bs n = true) → Calls Try.prog 64 #[.slice (some ⟨b, o, none⟩) (n + 16) c] w fun e' w' => e' = .returned (.tuple #[.slice none 0 0, .agg #[.int .i64 0, .int .i64 0, .int .i64 0, .int .i64 0], .int .i64 2]) ∧ Below w.heap.size w w') ∧
    (blankB bs = false → tagB (tK (bs.drop n)) (tP (bs.drop n)) (tS (bs.drop n)) (tE (bs.drop n)) = true → soundB bs n = true → Calls Try.prog 64 #[.slice (some ⟨b, o, none⟩) (n + 16) c] w fun e' w' => ∃ sv, e' = .returned (.tuple #[sv, .agg #[.int .i64 (tK (bs.drop n)), .int .i64 (tP (bs.drop n)), .int .i64 (tS (bs.drop n)), .int .i64 (tE (bs.drop n))], .int .i64 1]) ∧ w'.ownsRow (w.heap.size + 1) 5 1 sv n ((bs.take n).map byteV) ∧ Below w.heap.size w w') := by
  have hd : mayDataB ((n : Int)) = true := by unfold mayDataB; rw [Bool.and_eq_true, decide_eq_true_eq, decide_eq_true_eq]; omega
  have hd' : mayDataB ((n : Int) + 16 - 16) = true := by rw [show (n : Int) + 16 - 16 = n by omega]; exact hd
  have HD := Lib.hid hd
  have HD' := Lib.hid hd'
  obtain ⟨b', o', hA, lb, q⟩ := h1.at_ (by simp; omega)
  cases hA
  have hB0 : Below w.heap.size w (w.alloc (.cells #[.int .i64 0, .int .i64 0, .int .i64 0, .int .i64 0] 40)) := (Below.refl _ _).alloc (Nat.le_refl _) _
  have h0 := h1.next hB0
  have htl : Sl w w.heap.size (some ⟨b, o + n, none⟩) ((bs.drop n).map byteV) := by have := sl_sub h1 n 16; rwa [← List.map_drop, List.take_of_length_le (by simp; omega)] at this
  have htl0 := htl.next hB0
  have HL := Lib.hid hl
  have HTL : Hid ((bs.drop n).length = 16) := Lib.hid (by simp; omega)
  have h8t : Bytes8 (bs.drop n) := fun x hx => h8 x (List.mem_of_mem_drop hx)
  have hc3 : c ≤ 9223372036854775807 := by unfold maxLen at hc2; omega
  have HC2 := Lib.hid hc2
  have i1 : (24 : Int) ≤ (n : Int) := by omega
  have i2 : (n : Int) ≤ 64 := by omega
  have i3 : (n : Int) ≤ (c : Int) := by omega
  have i4 : ¬ c = n := by omega
  have hcn : 16 ≤ c - n := by omega
  have hcn2 : c - n ≤ maxLen := by unfold maxLen at hc2 ⊢; omega
  have HCN2 := Lib.hid hcn2
  clear hd hd' hc2 q hcn2
  refine ⟨fun he => ?_, fun he hno => ?_, fun he ht hs => ?_⟩
  · have HE := Lib.hid he
    clear he
    have hE : ∀ (w : World), Sl w w.heap.size (some ⟨b, o, none⟩) (bs.map byteV) → Calls Try.prog 80 #[.slice (some ⟨b, o, none⟩) (n + 16) c] w fun e w' => e = .returned (.bool true) ∧ w = w' := fun w h => by
      have := erased_any bs _ c w h h8 (by have := HL.out; omega)
      rwa [HL.out, HE.out] at this
    have HE2 := Lib.hid hE
    clear hE hl
    go_enter Try.func64, Try.ntmps64
    go_wp2_with (first | (go_at_call 79; refine (mayData_any _ _).mono ?_; first | (rw [HD.out]; rintro e' w' ⟨rfl, rfl⟩) | (rw [HD'.out]; rintro e' w' ⟨rfl, rfl⟩)) | (go_at_call 80; refine (HE2.out _ h0).mono ?_; rintro e' w' ⟨rfl, rfl⟩))
    exact bodyPost_ret (v := .tuple #[.slice none 0 0, .agg #[.int .i64 0, .int .i64 0, .int .i64 0, .int .i64 0], .int .i64 0]) (by simp [results, Try.results64, go_sem]) rfl ⟨rfl, (Below.refl _ _).alloc (Nat.le_refl _) _⟩
  all_goals
    have HE := Lib.hid he
    clear he
    have hE : ∀ (w : World), Sl w w.heap.size (some ⟨b, o, none⟩) (bs.map byteV) → Calls Try.prog 80 #[.slice (some ⟨b, o, none⟩) (n + 16) c] w fun e w' => e = .returned (.bool false) ∧ w = w' := fun w h => by
      have := erased_any bs _ c w h h8 (by have := HL.out; omega)
      rwa [HL.out, HE.out] at this
    have HE2 := Lib.hid hE
    clear hE
  · rcases (by cases hq : tagB (tK (bs.drop n)) (tP (bs.drop n)) (tS (bs.drop n)) (tE (bs.drop n)) <;> simp : tagB (tK (bs.drop n)) (tP (bs.drop n)) (tS (bs.drop n)) (tE (bs.drop n)) = false ∨ tagB (tK (bs.drop n)) (tP (bs.drop n)) (tS (bs.drop n)) (tE (bs.drop n)) = true) with ht | ht
    · have HT := Lib.hid ht
      clear ht hno hl
      go_enter Try.func64, Try.ntmps64
      go_wp2_with (first
        | (go_at_call 79; refine (mayData_any _ _).mono ?_; first | (rw [HD.out]; rintro e' w' ⟨rfl, rfl⟩) | (rw [HD'.out]; rintro e' w' ⟨rfl, rfl⟩))
        | (go_at_call 80; refine (HE2.out _ h0).mono ?_; rintro e' w' ⟨rfl, rfl⟩)
        | (go_at_call 81; refine (parse_any (bs.drop n) b (o + n) _ _ htl0 h8t HTL.out hcn HCN2.out).mono ?_; rintro e' w1 ⟨rfl, hb1⟩; have HB1 := below1 hb1; have HZ1 : Blk w1 w.heap.size 40 #[.int .i64 0, .int .i64 0, .int .i64 0, .int .i64 0] := (Blk.new_ _ _ _).below hb1 (by simp); have hz1 : w.heap.size < w1.heap.size := (by { have := hb1.size; simp at this; omega }))
        | (go_at_call 82; refine (tmay_any _ _ _ _ _).mono ?_; rw [HT.out]; rintro e' w2 ⟨rfl, hb2⟩; have HB2 := btr (HB1.alloc HB1.size (.cells #[.int .i64 (tK (bs.drop n)), .int .i64 (tP (bs.drop n)), .int .i64 (tS (bs.drop n)), .int .i64 (tE (bs.drop n))] 40)) (by simp; omega) hb2; have HZ2 : Blk w2 w.heap.size 40 #[.int .i64 0, .int .i64 0, .int .i64 0, .int .i64 0] := (HZ1.alloc_ _).below hb2 (by simp; omega); have HT2 : Blk w2 w1.heap.size 40 #[.int .i64 (tK (bs.drop n)), .int .i64 (tP (bs.drop n)), .int .i64 (tS (bs.drop n)), .int .i64 (tE (bs.drop n))] := (Blk.new_ _ _ _).below hb2 (by simp); have hz2 : w1.heap.size < w2.heap.size := (by { have := hb2.size; simp at this; omega }); have SLX := ((h0.next hb1).alloc_ (.cells #[.int .i64 (tK (bs.drop n)), .int .i64 (tP (bs.drop n)), .int .i64 (tS (bs.drop n)), .int .i64 (tE (bs.drop n))] 40)).next hb2; have y0 := HZ2.cell_ 0; have y1 := HZ2.cell_ 1; have y2 := HZ2.cell_ 2; have y3 := HZ2.cell_ 3; simp at y0 y1 y2 y3; have yf := HZ2.free; have z0 := HT2.cell_ 0; have z1 := HT2.cell_ 1; have z2 := HT2.cell_ 2; have z3 := HT2.cell_ 3; simp at z0 z1 z2 z3)
        | (go_at_call 83; refine (sound_any bs n b o c _ SLX h8 HL.out (by omega) hc HC2.out).mono ?_; rw [HS.out]; rintro e' w3 ⟨rfl, rfl⟩))
      have HW := st4_blk HZ2 (.int .i64 0) (.int .i64 0) (.int .i64 0) (.int .i64 0)
      have HBW := st4_below HB2 (Nat.le_refl _) (.int .i64 0) (.int .i64 0) (.int .i64 0) (.int .i64 0)
      change bodyPost _ _ _ _ _ (st4 w2 w.heap.size (.int .i64 0) (.int .i64 0) (.int .i64 0) (.int .i64 0))
      generalize st4 w2 w.heap.size (.int .i64 0) (.int .i64 0) (.int .i64 0) (.int .i64 0) = wz at HW HBW ⊢
      have r0 := HW.cell_ 0
      have r1 := HW.cell_ 1
      have r2 := HW.cell_ 2
      have r3 := HW.cell_ 3
      simp at r0 r1 r2 r3
      exact bodyPost_ret (v := .tuple #[.slice none 0 0, .agg #[.int .i64 0, .int .i64 0, .int .i64 0, .int .i64 0], .int .i64 2]) (by simp [results, Try.results64, go_sem, r0, r1, r2, r3]) rfl ⟨rfl, HBW⟩
    · have hs : soundB bs n = false := by
        rcases (by cases hq : soundB bs n <;> simp : soundB bs n = false ∨ soundB bs n = true) with h | h
        · exact h
        · exact absurd ⟨ht, h⟩ hno
      have HT := Lib.hid ht
      have HS := Lib.hid hs
      clear ht hs hno hl
      go_enter Try.func64, Try.ntmps64
      go_wp2_with (first
        | (go_at_call 79; refine (mayData_any _ _).mono ?_; first | (rw [HD.out]; rintro e' w' ⟨rfl, rfl⟩) | (rw [HD'.out]; rintro e' w' ⟨rfl, rfl⟩))
        | (go_at_call 80; refine (HE2.out _ h0).mono ?_; rintro e' w' ⟨rfl, rfl⟩)
        | (go_at_call 81; refine (parse_any (bs.drop n) b (o + n) _ _ htl0 h8t HTL.out hcn HCN2.out).mono ?_; rintro e' w1 ⟨rfl, hb1⟩; have HB1 := below1 hb1; have HZ1 : Blk w1 w.heap.size 40 #[.int .i64 0, .int .i64 0, .int .i64 0, .int .i64 0] := (Blk.new_ _ _ _).below hb1 (by simp); have hz1 : w.heap.size < w1.heap.size := (by { have := hb1.size; simp at this; omega }))
        | (go_at_call 82; refine (tmay_any _ _ _ _ _).mono ?_; rw [HT.out]; rintro e' w2 ⟨rfl, hb2⟩; have HB2 := btr (HB1.alloc HB1.size (.cells #[.int .i64 (tK (bs.drop n)), .int .i64 (tP (bs.drop n)), .int .i64 (tS (bs.drop n)), .int .i64 (tE (bs.drop n))] 40)) (by simp; omega) hb2; have HZ2 : Blk w2 w.heap.size 40 #[.int .i64 0, .int .i64 0, .int .i64 0, .int .i64 0] := (HZ1.alloc_ _).below hb2 (by simp; omega); have HT2 : Blk w2 w1.heap.size 40 #[.int .i64 (tK (bs.drop n)), .int .i64 (tP (bs.drop n)), .int .i64 (tS (bs.drop n)), .int .i64 (tE (bs.drop n))] := (Blk.new_ _ _ _).below hb2 (by simp); have hz2 : w1.heap.size < w2.heap.size := (by { have := hb2.size; simp at this; omega }); have SLX := ((h0.next hb1).alloc_ (.cells #[.int .i64 (tK (bs.drop n)), .int .i64 (tP (bs.drop n)), .int .i64 (tS (bs.drop n)), .int .i64 (tE (bs.drop n))] 40)).next hb2; have y0 := HZ2.cell_ 0; have y1 := HZ2.cell_ 1; have y2 := HZ2.cell_ 2; have y3 := HZ2.cell_ 3; simp at y0 y1 y2 y3; have yf := HZ2.free; have z0 := HT2.cell_ 0; have z1 := HT2.cell_ 1; have z2 := HT2.cell_ 2; have z3 := HT2.cell_ 3; simp at z0 z1 z2 z3)
        | (go_at_call 83; refine (sound_any bs n b o c _ SLX h8 HL.out (by omega) hc HC2.out).mono ?_; rw [HS.out]; rintro e' w3 ⟨rfl, rfl⟩))
      have HW := st4_blk HZ2 (.int .i64 0) (.int .i64 0) (.int .i64 0) (.int .i64 0)
      have HBW := st4_below HB2 (Nat.le_refl _) (.int .i64 0) (.int .i64 0) (.int .i64 0) (.int .i64 0)
      change bodyPost _ _ _ _ _ (st4 w2 w.heap.size (.int .i64 0) (.int .i64 0) (.int .i64 0) (.int .i64 0))
      generalize st4 w2 w.heap.size (.int .i64 0) (.int .i64 0) (.int .i64 0) (.int .i64 0) = wz at HW HBW ⊢
      have r0 := HW.cell_ 0
      have r1 := HW.cell_ 1
      have r2 := HW.cell_ 2
      have r3 := HW.cell_ 3
      simp at r0 r1 r2 r3
      exact bodyPost_ret (v := .tuple #[.slice none 0 0, .agg #[.int .i64 0, .int .i64 0, .int .i64 0, .int .i64 0], .int .i64 2]) (by simp [results, Try.results64, go_sem, r0, r1, r2, r3]) rfl ⟨rfl, HBW⟩
  · have HT := Lib.hid ht
    have HS := Lib.hid hs
    clear ht hs hl
    go_enter Try.func64, Try.ntmps64
    go_wp2_with (first
        | (go_at_call 79; refine (mayData_any _ _).mono ?_; first | (rw [HD.out]; rintro e' w' ⟨rfl, rfl⟩) | (rw [HD'.out]; rintro e' w' ⟨rfl, rfl⟩))
        | (go_at_call 80; refine (HE2.out _ h0).mono ?_; rintro e' w' ⟨rfl, rfl⟩)
        | (go_at_call 81; refine (parse_any (bs.drop n) b (o + n) _ _ htl0 h8t HTL.out hcn HCN2.out).mono ?_; rintro e' w1 ⟨rfl, hb1⟩; have HB1 := below1 hb1; have HZ1 : Blk w1 w.heap.size 40 #[.int .i64 0, .int .i64 0, .int .i64 0, .int .i64 0] := (Blk.new_ _ _ _).below hb1 (by simp); have hz1 : w.heap.size < w1.heap.size := (by { have := hb1.size; simp at this; omega }))
        | (go_at_call 82; refine (tmay_any _ _ _ _ _).mono ?_; rw [HT.out]; rintro e' w2 ⟨rfl, hb2⟩; have HB2 := btr (HB1.alloc HB1.size (.cells #[.int .i64 (tK (bs.drop n)), .int .i64 (tP (bs.drop n)), .int .i64 (tS (bs.drop n)), .int .i64 (tE (bs.drop n))] 40)) (by simp; omega) hb2; have HZ2 : Blk w2 w.heap.size 40 #[.int .i64 0, .int .i64 0, .int .i64 0, .int .i64 0] := (HZ1.alloc_ _).below hb2 (by simp; omega); have HT2 : Blk w2 w1.heap.size 40 #[.int .i64 (tK (bs.drop n)), .int .i64 (tP (bs.drop n)), .int .i64 (tS (bs.drop n)), .int .i64 (tE (bs.drop n))] := (Blk.new_ _ _ _).below hb2 (by simp); have hz2 : w1.heap.size < w2.heap.size := (by { have := hb2.size; simp at this; omega }); have SLX := ((h0.next hb1).alloc_ (.cells #[.int .i64 (tK (bs.drop n)), .int .i64 (tP (bs.drop n)), .int .i64 (tS (bs.drop n)), .int .i64 (tE (bs.drop n))] 40)).next hb2; have y0 := HZ2.cell_ 0; have y1 := HZ2.cell_ 1; have y2 := HZ2.cell_ 2; have y3 := HZ2.cell_ 3; simp at y0 y1 y2 y3; have yf := HZ2.free; have z0 := HT2.cell_ 0; have z1 := HT2.cell_ 1; have z2 := HT2.cell_ 2; have z3 := HT2.cell_ 3; simp at z0 z1 z2 z3)
        | (go_at_call 83; refine (sound_any bs n b o c _ SLX h8 HL.out (by omega) hc HC2.out).mono ?_; rw [HS.out]; rintro e' w3 ⟨rfl, rfl⟩))
    have SLT : Sl w2 w2.heap.size (some ⟨b, o, none⟩) ((bs.take n).map byteV) := by rw [List.map_take]; exact sl_take SLX n
    go_wp2_with fail
    refine wp_region_noPanic ?_
    refine wp_region_held_drew (S := (fun w' => Below w.heap.size w w' ∧ w'.cell? ⟨w1.heap.size, 0, none⟩ = some (.int .i64 (tK (bs.drop n))) ∧ w'.cell? ⟨w1.heap.size, 1, none⟩ = some (.int .i64 (tP (bs.drop n))) ∧ w'.cell? ⟨w1.heap.size, 2, none⟩ = some (.int .i64 (tS (bs.drop n))) ∧ w'.cell? ⟨w1.heap.size, 3, none⟩ = some (.int .i64 (tE (bs.drop n))))) (by kernel_rfl) ?_ (fun hHeld => ?_)
    · (first | exact ⟨HB2.drew, z0, z1, z2, z3⟩ | exact ⟨HB4, x0, x1, x2, x3⟩ | exact st4_keep HB4 HT4 (by omega) _ _ _ _)
    refine tk 0 ⟨some 31, .move (.tmp 0), 38, "tag.go:68", #[], none⟩ ?_; try simp only [Act.put, pz1, pz2, pz3]
    refine tk 1 ⟨some 32, .move (.tmp 5), 3, "tag.go:68", #[], none⟩ ?_; try simp only [Act.put, pz1, pz2, pz3]
    refine tk 2 ⟨some 33, .slice 38 (.tmp 31) none (some (.tmp 32)) none, 38, "tag.go:68", #[⟨0, .data⟩, ⟨1, .data⟩], none⟩ ?_; try simp only [Act.put, pz1, pz2, pz3]
    refine tk 4 ⟨some 35, .load 40 (.tmp 6), 40, "tag.go:68", #[{ on := 5, ground := Ground.gcOnly Departure.lateStores }], none⟩ ?_; try simp only [Act.put, pz1, pz2, pz3]
    refine wpAnyH_ready (rs := [3]) (by kernel_rfl) (by simp) ?_
    refine AllReadyH.cons (o := ⟨some 34, .call { callee := .value (.func 78), args := #[.tmp 33], argTypes := #[38] }, 38, "tag.go:68", #[⟨2, .data⟩], none⟩) rfl (fun K hK => ?_) AllReadyH.nil
    go_simp
    (go_at_call 78; refine (clone_any (bs.take n) n b o _ _ (show Sl w2.drew w2.drew.heap.size (some ⟨b, o, none⟩) ((bs.take n).map byteV) from SLT) (by simp [HL.out]) (by omega)).mono ?_; rintro e' w4 ⟨sv, rfl, ho4, hb4⟩; have HB4 : Below w.heap.size w w4 := HB2.drew.trans (hb4.mono HB2.size); have HZ4 : Blk w4 w.heap.size 40 #[.int .i64 0, .int .i64 0, .int .i64 0, .int .i64 0] := Blk.below (w := w2.drew) HZ2 hb4 (by simp; omega); have HT4 : Blk w4 w1.heap.size 40 #[.int .i64 (tK (bs.drop n)), .int .i64 (tP (bs.drop n)), .int .i64 (tS (bs.drop n)), .int .i64 (tE (bs.drop n))] := Blk.below (w := w2.drew) HT2 hb4 (by simp; omega); have v0 := HZ4.cell_ 0; have v1 := HZ4.cell_ 1; have v2 := HZ4.cell_ 2; have v3 := HZ4.cell_ 3; simp at v0 v1 v2 v3; have vf := HZ4.free; have x0 := HT4.cell_ 0; have x1 := HT4.cell_ 1; have x2 := HT4.cell_ 2; have x3 := HT4.cell_ 3; simp at x0 x1 x2 x3)
    go_wp2_with fail
    refine hK.out _ _ ?_ (fun hNew => ?_)
    · (first | exact ⟨HB2.drew, z0, z1, z2, z3⟩ | exact ⟨HB4, x0, x1, x2, x3⟩ | exact st4_keep HB4 HT4 (by omega) _ _ _ _)
    clear hK K hHeld
    have hHeld := hNew
    clear hNew
    try simp only [Act.put, pz1, pz2, pz3]
    refine tk 5 ⟨some 2, .assign (.tmp 34), 38, "tag.go:68", #[⟨3, .data⟩, ⟨3, .chain⟩, ⟨0, .phase⟩, ⟨1, .phase⟩, ⟨2, .phase⟩, ⟨3, .phase⟩, { on := 4, ground := Ground.textOnly Departure.lateStores }], none⟩ ?_; try simp only [Act.put, pz1, pz2, pz3]
    refine wpAnyH_ready (rs := [6]) (by kernel_rfl) (by simp) ?_
    refine AllReadyH.cons (o := ⟨none, .store 40 (.tmp 3) (.tmp 35), 0, "tag.go:68", #[⟨4, .data⟩, ⟨5, .chain⟩, ⟨0, .phase⟩, ⟨1, .phase⟩, ⟨2, .phase⟩, ⟨3, .phase⟩, ⟨4, .phase⟩, ⟨5, .phase⟩], none⟩) rfl (fun K hK => ?_) AllReadyH.nil
    go_simp
    refine hK.out _ _ ?_ (fun hNew => ?_)
    · (first | exact ⟨HB2.drew, z0, z1, z2, z3⟩ | exact ⟨HB4, x0, x1, x2, x3⟩ | exact st4_keep HB4 HT4 (by omega) _ _ _ _)
    clear hK K hHeld
    have hHeld := hNew
    clear hNew
    try simp only [Act.put, pz1, pz2, pz3]
    refine tk 7 ⟨some 4, .assign (.const (.int .i64 1)), 3, "tag.go:68", #[⟨6, .chain⟩, ⟨0, .phase⟩, ⟨1, .phase⟩, ⟨2, .phase⟩, ⟨3, .phase⟩, ⟨4, .phase⟩, ⟨5, .phase⟩, ⟨6, .phase⟩], none⟩ ?_; try simp only [Act.put, pz1, pz2, pz3]
    refine wpAnyH_done (by kernel_rfl) ?_ _
    refine NoPanic.normal ?_
    go_wp2
    have HW := st4_blk HZ4 (.int .i64 (tK (bs.drop n))) (.int .i64 (tP (bs.drop n))) (.int .i64 (tS (bs.drop n))) (.int .i64 (tE (bs.drop n)))
    have HBW := st4_below HB4 (Nat.le_refl _) (.int .i64 (tK (bs.drop n))) (.int .i64 (tP (bs.drop n))) (.int .i64 (tS (bs.drop n))) (.int .i64 (tE (bs.drop n)))
    have HOW := st4_own (g := w.heap.size) (own_mono ho4 (base' := w.heap.size + 1) (by have := HB2.size; simp; omega)) (by omega) (.int .i64 (tK (bs.drop n))) (.int .i64 (tP (bs.drop n))) (.int .i64 (tS (bs.drop n))) (.int .i64 (tE (bs.drop n)))
    change bodyPost _ _ _ _ _ (st4 w4 w.heap.size (.int .i64 (tK (bs.drop n))) (.int .i64 (tP (bs.drop n))) (.int .i64 (tS (bs.drop n))) (.int .i64 (tE (bs.drop n))))
    generalize st4 w4 w.heap.size (.int .i64 (tK (bs.drop n))) (.int .i64 (tP (bs.drop n))) (.int .i64 (tS (bs.drop n))) (.int .i64 (tE (bs.drop n))) = wz at HW HBW HOW ⊢
    have r0 := HW.cell_ 0
    have r1 := HW.cell_ 1
    have r2 := HW.cell_ 2
    have r3 := HW.cell_ 3
    simp at r0 r1 r2 r3
    exact bodyPost_ret (v := .tuple #[sv, .agg #[.int .i64 (tK (bs.drop n)), .int .i64 (tP (bs.drop n)), .int .i64 (tS (bs.drop n)), .int .i64 (tE (bs.drop n))], .int .i64 1]) (by simp [results, Try.results64, go_sem, r0, r1, r2, r3]) rfl ⟨sv, rfl, HOW, HBW⟩
end Go.Proofs.Ytcpniplfkillbaa
namespace Go.Proofs.Ytcpniplfkillbaa
open Go.ChangeShapes Go.WideShapes Go.ChangeAt Go.RowKit
attribute [local go_sem ↓] Go.wp_at_zero Go.wp_at_succ
theorem getD_eq {l : List Nat} {i : Nat} (h : i < l.length) : l.getD i 0 = l[i] := by simp [h]
def tailB (k p s e C : Nat) : List Nat := [74, k, p / 256 % 256, p % 256, s / 16777216 % 256, s / 65536 % 256, s / 256 % 256, s % 256, e / 65536 % 256, e / 256 % 256, e % 256, C / 16777216 % 256, C / 65536 % 256, C / 256 % 256, C % 256, 0]
theorem raw_tail (d : List Nat) (k p s e : Nat) : rawB d k p s e = d ++ tailB k p s e (crcMore 0 (bodyB d k p s e)) := by
  unfold rawB
  obtain ⟨C, hC⟩ : ∃ C, crcMore 0 (bodyB d k p s e) = C := ⟨_, rfl⟩
  rw [hC]
  simp [bodyB, tailB, beB_2, beB_3, beB_4]
theorem raw_body (d : List Nat) (k p s e : Nat) : (rawB d k p s e).take (d.length + 11) = bodyB d k p s e := by
  unfold rawB
  rw [List.append_assoc, List.take_append_of_le_length (by rw [bodyB_len]; exact Nat.le_refl _), List.take_of_length_le (by rw [bodyB_len]; exact Nat.le_refl _)]
theorem raw_sum (d : List Nat) (k p s e : Nat) : part (rawB d k p s e) (d.length + 11) 4 = beB (crcMore 0 (bodyB d k p s e)) 4 := by
  unfold rawB part
  rw [List.append_assoc, List.drop_append_of_le_length (by rw [bodyB_len]; exact Nat.le_refl _), List.drop_of_length_le (by rw [bodyB_len]; exact Nat.le_refl _), List.nil_append, List.take_append_of_le_length (by rw [beB_len]; exact Nat.le_refl _), List.take_of_length_le (by rw [beB_len]; exact Nat.le_refl _)]
theorem raw_drop (d : List Nat) (k p s e : Nat) : (rawB d k p s e).drop d.length = tailB k p s e (crcMore 0 (bodyB d k p s e)) := by rw [raw_tail, List.drop_left]
theorem raw_mark (d : List Nat) (k p s e : Nat) : (rawB d k p s e).getD d.length 0 = 74 := by rw [raw_tail]; simp [tailB]
theorem raw_last (d : List Nat) (k p s e : Nat) : (rawB d k p s e).getD (d.length + 15) 0 = 0 := by rw [raw_tail]; simp [tailB]
theorem tail_tK (k p s e C : Nat) : tK (tailB k p s e C) = k := rfl
theorem tail_tP {k p s e C : Nat} (h : p < 65536) : tP (tailB k p s e C) = p := by simp [tP, part, tailB, numB]; omega
theorem tail_tS {k p s e C : Nat} (h : s < 4294967296) : tS (tailB k p s e C) = s := by simp [tS, part, tailB, numB]; omega
theorem tail_tE {k p s e C : Nat} (h : e < 16777216) : tE (tailB k p s e C) = e := by simp [tE, part, tailB, numB]; omega
theorem not_blank {l : List Nat} {i : Nat} (hi : i < l.length) (h : l.getD i 0 ≠ 255) : blankB l = false := by
  unfold blankB
  rw [List.all_eq_false]
  refine ⟨l[i], List.getElem_mem hi, ?_⟩
  rw [getD_eq hi] at h
  simpa using h
def LayOk (d : List Nat) (k p s e : Nat) : Prop := 24 ≤ d.length ∧ d.length ≤ 64 ∧ 1 ≤ k ∧ k ≤ 3 ∧ (k = 3 → p = 0) ∧ p < 65536 ∧ s < 4294967296 ∧ e < 16777216 ∧ Bytes8 d
theorem raw_valid {d : List Nat} {k p s e : Nat} (h : LayOk d k p s e) : readSt (rawB d k p s e) = 1 := by
  obtain ⟨h1, h2, h3, h4, h5, h6, h7, h8, h9⟩ := h
  have hl := rawB_len d k p s e
  have hn : (rawB d k p s e).length - 16 = d.length := by omega
  unfold readSt
  rw [if_pos (by omega), hn, not_blank (i := d.length) (by omega) (by rw [raw_mark]; omega), if_neg (by simp), raw_drop, tail_tK, tail_tP h6, tail_tS h7, tail_tE h8]
  rw [if_pos]
  refine ⟨tagB_iff.2 (by omega), ?_⟩
  unfold soundB
  rw [raw_mark, raw_last, raw_sum, raw_body, num_be4 (crcMore_lt (by omega))]
  simp
theorem read_bad (bs : List Nat) (N : Nat) (hN : bs.length = N) (A : Option Addr) (c : Nat) (w : World) (h1 : Sl w w.heap.size A (bs.map byteV)) (h8 : Bytes8 bs) (hc : N ≤ c) (hc2 : c ≤ maxLen) (n1 : N ≤ 1000000) (st : Nat) (hst : readSt bs = st) (hne : st ≠ 1) :
    Calls Try.prog 64 #[.slice A N c] w fun e' w' => e' = .returned (.tuple #[.slice none 0 0, .agg #[.int .i64 0, .int .i64 0, .int .i64 0, .int .i64 0], .int .i64 st]) ∧ Below w.heap.size w w' := by
  subst hN
  by_cases hr : 40 ≤ bs.length ∧ bs.length ≤ 80
  · obtain ⟨b, o, rfl, lb, q⟩ := h1.at_ (by simp; omega)
    obtain ⟨n, hn⟩ : ∃ n, bs.length = n + 16 := ⟨bs.length - 16, by omega⟩
    obtain ⟨r1, r2, r3⟩ := read_in bs n b o c w h1 h8 hn (by omega) (by omega) (by omega) hc2
    unfold readSt at hst
    rw [if_pos hr, show bs.length - 16 = n by omega] at hst
    rw [hn]
    by_cases hb : blankB bs = true
    · rw [if_pos hb] at hst
      subst hst
      exact r1 hb
    · rw [if_neg hb] at hst
      by_cases hs : tagB (tK (bs.drop n)) (tP (bs.drop n)) (tS (bs.drop n)) (tE (bs.drop n)) = true ∧ soundB bs n = true
      · rw [if_pos hs] at hst
        exact absurd hst.symm hne
      · rw [if_neg hs] at hst
        subst hst
        exact r2 (by simpa using hb) hs
  · have : st = 2 := by
      rw [← hst]
      unfold readSt
      rw [if_neg hr]
    subst this
    exact read_len bs A c w hr n1
end Go.Proofs.Ytcpniplfkillbaa
namespace Go.Proofs.Ytcpniplfkillbaa
open Go.ChangeShapes Go.WideShapes Go.ChangeAt Go.RowKit
attribute [local go_sem ↓] Go.wp_at_zero Go.wp_at_succ
section
variable {P : Program} (w : World)
end
def zeros : List Nat := List.replicate 24 0
end Go.Proofs.Ytcpniplfkillbaa
namespace Go.Proofs.Ytcpniplfkillbaa
open Go.ChangeShapes Go.WideShapes Go.ChangeAt Go.RowKit Go.Deep
def SlA (w : World) (A : Option Addr) (n c : Nat) (vs : List Value) : Prop := n = vs.length ∧ Sl w w.heap.size A vs ∧ n ≤ c ∧ c ≤ maxLen ∧ (A = none → n = 0 ∧ c = 0)
section
variable {H : Type} {enc : TypeId × Value → H} {P : Program} {w : World} {base : Nat} {spare : Nat → Bool} {held : Bool}
end
end Go.Proofs.Ytcpniplfkillbaa
namespace Go.Proofs.Ytcpniplfkillbaa
open Go.ChangeShapes Go.WideShapes Go.ChangeAt Go.RowKit Go.Deep
attribute [local go_sem ↓] Go.wp_at_zero Go.wp_at_succ
theorem lay_cases (d : List Nat) (h8 : Bytes8 d) (k p s e : Int) : (mayDataB d.length = false ∨ tagB k p s e = false) ∨ ∃ K P S E : Nat, k = K ∧ p = P ∧ s = S ∧ e = E ∧ LayOk d K P S E := by
  by_cases h1 : mayDataB d.length = false
  · exact Or.inl (Or.inl h1)
  · by_cases h2 : tagB k p s e = false
    · exact Or.inl (Or.inr h2)
    · right
      have h2' := tagB_iff.1 (by simpa using h2 : tagB k p s e = true)
      have h1' : 24 ≤ d.length ∧ d.length ≤ 64 := by
        have : mayDataB d.length = true := by simpa using h1
        unfold mayDataB at this
        rw [Bool.and_eq_true, decide_eq_true_eq, decide_eq_true_eq] at this
        omega
      exact ⟨k.toNat, p.toNat, s.toNat, e.toNat, by omega, by omega, by omega, by omega, by omega, by omega, by omega, by omega, by omega, by omega, by omega, by omega, h8⟩
end Go.Proofs.Ytcpniplfkillbaa
namespace Go.Proofs.Ytcpniplfkillbaa
open Go.ChangeShapes Go.WideShapes Go.ChangeAt Go.RowKit
attribute [local go_sem ↓] Go.wp_at_zero Go.wp_at_succ
theorem rcrcOf_len (bs : List Nat) (n : Nat) (hn : bs.length = n) (A : Option Addr) (c : Nat) (w : World) (h1 : Sl w w.heap.size A (bs.map byteV)) (h8 : Bytes8 bs) (n1 : bs.length ≤ 1000000000) :
    Calls Try.prog 54 #[.slice A n c] w fun e w' => e = .returned (.int .u32 (crcMore 0 bs)) ∧ w = w' := by
  subst hn
  exact (rcrcOf_any bs A c w h1 h8 n1).mono fun e w' h => ⟨h.1, h.2.symm⟩
theorem rlay_no (data : List Nat) (A : Option Addr) (c : Nat) (k p s e : Int) (w : World) (hno : mayDataB data.length = false ∨ tagB k p s e = false) (n1 : data.length ≤ 1000000) :
    Calls Try.prog 28 #[.slice A data.length c, .agg #[.int .i64 k, .int .i64 p, .int .i64 s, .int .i64 e]] w fun e' w' => e' = .returned (.tuple #[.slice none 0 0, .int .i64 2]) ∧ Below w.heap.size w w' := by
  by_cases h24 : data.length < 24
  · have q1 : (data.length : Int) < 24 := by omega
    clear hno h24
    go_enter Try.func28, Try.ntmps28
    go_wp2
    go_ret2
    exact ⟨rfl, (Below.refl _ _).alloc (Nat.le_refl _) _⟩
  · by_cases h64 : 64 < data.length
    · have q1 : ¬ (data.length : Int) < 24 := by omega
      have q2 : (64 : Int) < (data.length : Int) := by omega
      clear hno h24 h64
      go_enter Try.func28, Try.ntmps28
      go_wp2
      go_ret2
      exact ⟨rfl, (Below.refl _ _).alloc (Nat.le_refl _) _⟩
    · have q1 : ¬ (data.length : Int) < 24 := by omega
      have q2 : ¬ (64 : Int) < (data.length : Int) := by omega
      have ht : tagB k p s e = false := by
        rcases hno with h | h
        · unfold mayDataB at h
          rw [Bool.and_eq_false_iff, decide_eq_false_iff_not, decide_eq_false_iff_not] at h
          omega
        · exact h
      have HT := Lib.hid ht
      clear hno ht h24 h64
      go_enter Try.func28, Try.ntmps28
      go_wp2_with (go_at_call 52; refine (rtmay_any _ _ _ _ _).mono ?_; rw [HT.out]; rintro e' w1 ⟨rfl, hb1⟩)
      go_ret2
      exact ⟨rfl, below1 hb1⟩
theorem rlay_yes (data : List Nat) (A : Option Addr) (c : Nat) (k p s e : Nat) (w : World) (h1 : Sl w w.heap.size A (data.map byteV)) (h : LayOk data k p s e) :
    Calls Try.prog 28 #[.slice A data.length c, .agg #[.int .i64 k, .int .i64 p, .int .i64 s, .int .i64 e]] w fun e' w' => ∃ sv, e' = .returned (.tuple #[sv, .int .i64 0]) ∧ w'.ownsRow (w.heap.size + 1) 5 1 sv (data.length + 16) ((rawB data k p s e).map byteV) ∧ Below w.heap.size w w' := by
  obtain ⟨hd1, hd2, hk1, hk2, hkp, hp, hs, he, h8⟩ := h
  have ht : tagB k p s e = true := tagB_iff.2 (by omega)
  have HT := Lib.hid ht
  have HKP := Lib.hid hkp
  have q1 : ¬ (data.length : Int) < 24 := by omega
  have q2 : ¬ (64 : Int) < (data.length : Int) := by omega
  have hG0 : Blk (w.alloc (.cells #[.int .i64 k, .int .i64 p, .int .i64 s, .int .i64 e] 40)) w.heap.size 40 #[.int .i64 k, .int .i64 p, .int .i64 s, .int .i64 e] := Blk.new_ w _ _
  have h0 := h1.next ((Below.refl _ _).alloc (Nat.le_refl _) (.cells #[.int .i64 k, .int .i64 p, .int .i64 s, .int .i64 e] 40))
  have hK : (1 : Int) ≤ (k : Int) := by omega
  have hK2 : (k : Int) ≤ 3 := by omega
  have wk : IntKind.u8.wrap (k : Int) = (k : Int) := by rw [IntKind.wrap_u8']; omega
  have he4 : e < 4294967296 := by omega
  have hp4 : p < 4294967296 := by omega
  have hcrc : crcMore 0 (bodyB data k p s e) < 4294967296 := crcMore_lt (by omega)
  have hb8 : Hid (Bytes8 (bodyB data k p s e)) := Lib.hid (bodyB_8 h8 (by omega))
  have hbl : Hid ((bodyB data k p s e).length = data.length + 11) := Lib.hid (bodyB_len _ _ _ _ _)
  obtain ⟨B, hB⟩ : ∃ B, bodyB data k p s e = B := ⟨_, rfl⟩
  have HBB := Lib.hid hB
  have hraw : (rawB data k p s e) = (B ++ beB (crcMore 0 B) 4) ++ [0] := by unfold rawB; rw [hB]
  rw [hraw]
  rw [hB] at hcrc hb8 hbl
  clear ht hkp hB hraw
  obtain ⟨i0, hi, hz0, hz1, hz2⟩ := info_parts infoByte
  go_enter Try.func28, Try.ntmps28
  go_upto_region 3 with (go_at_call 52; refine (rtmay_any _ _ _ _ _).mono ?_; rw [HT.out]; rintro e' w1 ⟨rfl, hb1⟩; have H1 := h0.next hb1; have HG1 := hG0.below hb1 (by simp); have HB1 := below1 hb1; have hzb : w.heap.size < w1.heap.size := (by { have := hb1.size; simp at this; omega }); clear hb1 h0 hG0)
  have y0 := HG1.cell_ 0
  have y1 := HG1.cell_ 1
  have y2 := HG1.cell_ 2
  have y3 := HG1.cell_ 3
  simp at y0 y1 y2 y3
  go_cut [6] (fun s6 wx => wx.ownsRow w1.heap.size 5 1 s6 (data.length + 2) ((data ++ [74, k]).map byteV) ∧ Below w1.heap.size w1 wx)
  case first =>
    refine wp_region_noPanic ?_
    refine wp_region_held_drew (S := (fun w' => Below w1.heap.size w1 w' ∧ w'.cell? ⟨w.heap.size, 0, none⟩ = some (.int .i64 k) ∧ w'.cell? ⟨w.heap.size, 1, none⟩ = some (.int .i64 p) ∧ w'.cell? ⟨w.heap.size, 2, none⟩ = some (.int .i64 s) ∧ w'.cell? ⟨w.heap.size, 3, none⟩ = some (.int .i64 e))) (by kernel_rfl) ?_ (fun hHeld => ?_)
    · (first | exact ⟨(Below.refl _ _).drew, y0, y1, y2, y3⟩ | exact ⟨HX, (HX.cell (p := ⟨w.heap.size, 0, none⟩) hzb).trans y0, (HX.cell (p := ⟨w.heap.size, 1, none⟩) hzb).trans y1, (HX.cell (p := ⟨w.heap.size, 2, none⟩) hzb).trans y2, (HX.cell (p := ⟨w.heap.size, 3, none⟩) hzb).trans y3⟩ | exact ⟨(HX.alloc HX.size _), ((HX.alloc HX.size _).cell (p := ⟨w.heap.size, 0, none⟩) hzb).trans y0, ((HX.alloc HX.size _).cell (p := ⟨w.heap.size, 1, none⟩) hzb).trans y1, ((HX.alloc HX.size _).cell (p := ⟨w.heap.size, 2, none⟩) hzb).trans y2, ((HX.alloc HX.size _).cell (p := ⟨w.heap.size, 3, none⟩) hzb).trans y3⟩ | exact ⟨((Below.refl w1.heap.size w1).alloc (Nat.le_refl _) _).drew, (((Below.refl w1.heap.size w1).alloc (Nat.le_refl _) _).drew.cell (p := ⟨w.heap.size, 0, none⟩) hzb).trans y0, (((Below.refl w1.heap.size w1).alloc (Nat.le_refl _) _).drew.cell (p := ⟨w.heap.size, 1, none⟩) hzb).trans y1, (((Below.refl w1.heap.size w1).alloc (Nat.le_refl _) _).drew.cell (p := ⟨w.heap.size, 2, none⟩) hzb).trans y2, (((Below.refl w1.heap.size w1).alloc (Nat.le_refl _) _).drew.cell (p := ⟨w.heap.size, 3, none⟩) hzb).trans y3⟩ | exact ⟨HX2, (HX2.cell (p := ⟨w.heap.size, 0, none⟩) hzb).trans y0, (HX2.cell (p := ⟨w.heap.size, 1, none⟩) hzb).trans y1, (HX2.cell (p := ⟨w.heap.size, 2, none⟩) hzb).trans y2, (HX2.cell (p := ⟨w.heap.size, 3, none⟩) hzb).trans y3⟩)
    refine tk 0 ⟨some 20, .move (.tmp 0), 38, "ref.go:27", #[], none⟩ ?_; try simp only [Act.put, pz1, pz2, pz3]
    refine tk 2 ⟨some 22, .fieldAddr 40 (.tmp 3) 0, 0, "ref.go:27", #[], none⟩ ?_; try simp only [Act.put, pz1, pz2, pz3]
    refine tk 3 ⟨some 23, .load 3 (.tmp 22), 3, "ref.go:27", #[⟨2, .data⟩], none⟩ ?_; try simp only [Act.put, pz1, pz2, pz3]
    refine tk 4 ⟨some 24, .convert 3 5 (.tmp 23), 5, "ref.go:27", #[⟨3, .data⟩], none⟩ ?_; try simp only [Act.put, pz1, pz2, pz3]
    refine wpAnyH_ready (rs := [1, 5]) (by kernel_rfl) (by simp) ?_
    refine (AllReadyH.cons (o := ⟨some 21, .call { callee := .builtin .append, args := #[.const (.slice none 0 0), .tmp 20], argTypes := #[38, 38] }, 38, "ref.go:27", #[⟨0, .data⟩], none⟩) rfl (fun K hK => ?_) (AllReadyH.cons (o := ⟨some 25, .buildSlice 38 2 #[(0, .const (.int .u8 74)), (1, .tmp 24)], 38, "ref.go:27", #[⟨4, .data⟩], none⟩) rfl (fun K hK => ?_) AllReadyH.nil))
    · refine step_app _ rfl (.const (.slice none 0 0)) (.tmp 20) _ rfl w1.heap.size 5 i0 _ 1 1 Try.underlying38 hi hz0 hz1 hz2 rfl (by decide) (.slice none 0 0) 0 [] rfl (World.ownsRow_nil _ _ _ _) _ data.length _ (data.map byteV) rfl (Rd.of_sl (H1.below hHeld.1) (by simp)) (oneB data) (by unfold maxLen; omega) (by omega) hHeld.1.size ?_
      intro s3 w3 ho1 hg3 _
      have HX := hHeld.1.trans (below_app (Nat.le_refl _) hHeld.1.size (World.ownsRow_nil _ w1.heap.size 5 1) hg3)
      refine hK.out _ _ ?_ (fun hNew => ?_)
      · (first | exact ⟨(Below.refl _ _).drew, y0, y1, y2, y3⟩ | exact ⟨HX, (HX.cell (p := ⟨w.heap.size, 0, none⟩) hzb).trans y0, (HX.cell (p := ⟨w.heap.size, 1, none⟩) hzb).trans y1, (HX.cell (p := ⟨w.heap.size, 2, none⟩) hzb).trans y2, (HX.cell (p := ⟨w.heap.size, 3, none⟩) hzb).trans y3⟩ | exact ⟨(HX.alloc HX.size _), ((HX.alloc HX.size _).cell (p := ⟨w.heap.size, 0, none⟩) hzb).trans y0, ((HX.alloc HX.size _).cell (p := ⟨w.heap.size, 1, none⟩) hzb).trans y1, ((HX.alloc HX.size _).cell (p := ⟨w.heap.size, 2, none⟩) hzb).trans y2, ((HX.alloc HX.size _).cell (p := ⟨w.heap.size, 3, none⟩) hzb).trans y3⟩ | exact ⟨((Below.refl w1.heap.size w1).alloc (Nat.le_refl _) _).drew, (((Below.refl w1.heap.size w1).alloc (Nat.le_refl _) _).drew.cell (p := ⟨w.heap.size, 0, none⟩) hzb).trans y0, (((Below.refl w1.heap.size w1).alloc (Nat.le_refl _) _).drew.cell (p := ⟨w.heap.size, 1, none⟩) hzb).trans y1, (((Below.refl w1.heap.size w1).alloc (Nat.le_refl _) _).drew.cell (p := ⟨w.heap.size, 2, none⟩) hzb).trans y2, (((Below.refl w1.heap.size w1).alloc (Nat.le_refl _) _).drew.cell (p := ⟨w.heap.size, 3, none⟩) hzb).trans y3⟩ | exact ⟨HX2, (HX2.cell (p := ⟨w.heap.size, 0, none⟩) hzb).trans y0, (HX2.cell (p := ⟨w.heap.size, 1, none⟩) hzb).trans y1, (HX2.cell (p := ⟨w.heap.size, 2, none⟩) hzb).trans y2, (HX2.cell (p := ⟨w.heap.size, 3, none⟩) hzb).trans y3⟩)
      clear hK K hHeld
      have hHeld := hNew
      clear hNew
      try simp only [Act.put, pz1, pz2, pz3]
      refine wpAnyH_ready (rs := [5]) (by kernel_rfl) (by simp) ?_
      refine AllReadyH.cons (o := ⟨some 25, .buildSlice 38 2 #[(0, .const (.int .u8 74)), (1, .tmp 24)], 38, "ref.go:27", #[⟨4, .data⟩], none⟩) rfl (fun K hK => ?_) AllReadyH.nil
      go_simp
      skip
      refine hK.out _ _ ?_ (fun hNew => ?_)
      · (first | exact ⟨(Below.refl _ _).drew, y0, y1, y2, y3⟩ | exact ⟨HX, (HX.cell (p := ⟨w.heap.size, 0, none⟩) hzb).trans y0, (HX.cell (p := ⟨w.heap.size, 1, none⟩) hzb).trans y1, (HX.cell (p := ⟨w.heap.size, 2, none⟩) hzb).trans y2, (HX.cell (p := ⟨w.heap.size, 3, none⟩) hzb).trans y3⟩ | exact ⟨(HX.alloc HX.size _), ((HX.alloc HX.size _).cell (p := ⟨w.heap.size, 0, none⟩) hzb).trans y0, ((HX.alloc HX.size _).cell (p := ⟨w.heap.size, 1, none⟩) hzb).trans y1, ((HX.alloc HX.size _).cell (p := ⟨w.heap.size, 2, none⟩) hzb).trans y2, ((HX.alloc HX.size _).cell (p := ⟨w.heap.size, 3, none⟩) hzb).trans y3⟩ | exact ⟨((Below.refl w1.heap.size w1).alloc (Nat.le_refl _) _).drew, (((Below.refl w1.heap.size w1).alloc (Nat.le_refl _) _).drew.cell (p := ⟨w.heap.size, 0, none⟩) hzb).trans y0, (((Below.refl w1.heap.size w1).alloc (Nat.le_refl _) _).drew.cell (p := ⟨w.heap.size, 1, none⟩) hzb).trans y1, (((Below.refl w1.heap.size w1).alloc (Nat.le_refl _) _).drew.cell (p := ⟨w.heap.size, 2, none⟩) hzb).trans y2, (((Below.refl w1.heap.size w1).alloc (Nat.le_refl _) _).drew.cell (p := ⟨w.heap.size, 3, none⟩) hzb).trans y3⟩ | exact ⟨HX2, (HX2.cell (p := ⟨w.heap.size, 0, none⟩) hzb).trans y0, (HX2.cell (p := ⟨w.heap.size, 1, none⟩) hzb).trans y1, (HX2.cell (p := ⟨w.heap.size, 2, none⟩) hzb).trans y2, (HX2.cell (p := ⟨w.heap.size, 3, none⟩) hzb).trans y3⟩)
      clear hK K hHeld
      have hHeld := hNew
      clear hNew
      try simp only [Act.put, pz1, pz2, pz3]
      refine wpAnyH_ready (rs := [6]) (by kernel_rfl) (by simp) ?_
      refine AllReadyH.cons (o := ⟨some 26, .call { callee := .builtin .append, args := #[.tmp 21, .tmp 25], argTypes := #[38, 38] }, 38, "ref.go:27", #[⟨1, .data⟩, ⟨5, .data⟩, ⟨1, .chain⟩], none⟩) rfl (fun K hK => ?_) AllReadyH.nil
      first
      | (refine step_app _ rfl (.tmp 21) (.tmp 25) _ rfl w1.heap.size 5 i0 _ 1 1 Try.underlying38 hi hz0 hz1 hz2 rfl (by decide) _ _ _ rfl (ho1.alloc _) _ 2 _ ([74, k].map byteV) rfl (Rd.list (vs := [74, k].map byteV) (Blk.new_ _ _ _) rfl) (oneB [74, k]) (by unfold maxLen; omega) (by omega) (by have := HX.size; simp; omega) ?_; intro s4 w4 ho2 hg4 _; have HX2 := (HX.alloc HX.size _).trans (below_app (Nat.le_refl _) (by simp; have := HX.size; omega) (ho1.alloc _) hg4))
      | (refine step_app _ rfl (.tmp 21) (.tmp 25) _ rfl w1.heap.size 5 i0 _ 1 1 Try.underlying38 hi hz0 hz1 hz2 rfl (by decide) _ _ _ rfl ho1 _ 2 _ ([74, k].map byteV) rfl (Rd.list (vs := [74, k].map byteV) ((hg3.block w1.heap.size (by simp) (by simp [Value.ownBlock])).trans (Blk.new_ w1 5 #[byteV 74, byteV k])) rfl) (oneB [74, k]) (by unfold maxLen; omega) (by omega) HX.size ?_; intro s4 w4 ho2 hg4 _; have HX2 := HX.trans (below_app (Nat.le_refl _) HX.size ho1 hg4))
      refine hK.out _ _ ?_ (fun hNew => ?_)
      · (first | exact ⟨(Below.refl _ _).drew, y0, y1, y2, y3⟩ | exact ⟨HX, (HX.cell (p := ⟨w.heap.size, 0, none⟩) hzb).trans y0, (HX.cell (p := ⟨w.heap.size, 1, none⟩) hzb).trans y1, (HX.cell (p := ⟨w.heap.size, 2, none⟩) hzb).trans y2, (HX.cell (p := ⟨w.heap.size, 3, none⟩) hzb).trans y3⟩ | exact ⟨(HX.alloc HX.size _), ((HX.alloc HX.size _).cell (p := ⟨w.heap.size, 0, none⟩) hzb).trans y0, ((HX.alloc HX.size _).cell (p := ⟨w.heap.size, 1, none⟩) hzb).trans y1, ((HX.alloc HX.size _).cell (p := ⟨w.heap.size, 2, none⟩) hzb).trans y2, ((HX.alloc HX.size _).cell (p := ⟨w.heap.size, 3, none⟩) hzb).trans y3⟩ | exact ⟨((Below.refl w1.heap.size w1).alloc (Nat.le_refl _) _).drew, (((Below.refl w1.heap.size w1).alloc (Nat.le_refl _) _).drew.cell (p := ⟨w.heap.size, 0, none⟩) hzb).trans y0, (((Below.refl w1.heap.size w1).alloc (Nat.le_refl _) _).drew.cell (p := ⟨w.heap.size, 1, none⟩) hzb).trans y1, (((Below.refl w1.heap.size w1).alloc (Nat.le_refl _) _).drew.cell (p := ⟨w.heap.size, 2, none⟩) hzb).trans y2, (((Below.refl w1.heap.size w1).alloc (Nat.le_refl _) _).drew.cell (p := ⟨w.heap.size, 3, none⟩) hzb).trans y3⟩ | exact ⟨HX2, (HX2.cell (p := ⟨w.heap.size, 0, none⟩) hzb).trans y0, (HX2.cell (p := ⟨w.heap.size, 1, none⟩) hzb).trans y1, (HX2.cell (p := ⟨w.heap.size, 2, none⟩) hzb).trans y2, (HX2.cell (p := ⟨w.heap.size, 3, none⟩) hzb).trans y3⟩)
      clear hK K hHeld
      have hHeld := hNew
      clear hNew
      try simp only [Act.put, pz1, pz2, pz3]
      refine tk 7 ⟨some 6, .assign (.tmp 26), 38, "ref.go:27", #[⟨6, .data⟩, ⟨6, .chain⟩, ⟨0, .phase⟩, ⟨1, .phase⟩, ⟨2, .phase⟩, ⟨3, .phase⟩, ⟨4, .phase⟩, ⟨5, .phase⟩, ⟨6, .phase⟩], none⟩ ?_; try simp only [Act.put, pz1, pz2, pz3]
      refine wpAnyH_done (by kernel_rfl) ?_ _
      refine NoPanic.normal ?_
      go_wp2_with fail
      go_meet
      exact ⟨own_len (n := 0 + data.length + 2) (by omega) (by simpa using ho2), HX2⟩
    · go_simp
      skip
      refine hK.out _ _ ?_ (fun hNew => ?_)
      · (first | exact ⟨(Below.refl _ _).drew, y0, y1, y2, y3⟩ | exact ⟨HX, (HX.cell (p := ⟨w.heap.size, 0, none⟩) hzb).trans y0, (HX.cell (p := ⟨w.heap.size, 1, none⟩) hzb).trans y1, (HX.cell (p := ⟨w.heap.size, 2, none⟩) hzb).trans y2, (HX.cell (p := ⟨w.heap.size, 3, none⟩) hzb).trans y3⟩ | exact ⟨(HX.alloc HX.size _), ((HX.alloc HX.size _).cell (p := ⟨w.heap.size, 0, none⟩) hzb).trans y0, ((HX.alloc HX.size _).cell (p := ⟨w.heap.size, 1, none⟩) hzb).trans y1, ((HX.alloc HX.size _).cell (p := ⟨w.heap.size, 2, none⟩) hzb).trans y2, ((HX.alloc HX.size _).cell (p := ⟨w.heap.size, 3, none⟩) hzb).trans y3⟩ | exact ⟨((Below.refl w1.heap.size w1).alloc (Nat.le_refl _) _).drew, (((Below.refl w1.heap.size w1).alloc (Nat.le_refl _) _).drew.cell (p := ⟨w.heap.size, 0, none⟩) hzb).trans y0, (((Below.refl w1.heap.size w1).alloc (Nat.le_refl _) _).drew.cell (p := ⟨w.heap.size, 1, none⟩) hzb).trans y1, (((Below.refl w1.heap.size w1).alloc (Nat.le_refl _) _).drew.cell (p := ⟨w.heap.size, 2, none⟩) hzb).trans y2, (((Below.refl w1.heap.size w1).alloc (Nat.le_refl _) _).drew.cell (p := ⟨w.heap.size, 3, none⟩) hzb).trans y3⟩ | exact ⟨HX2, (HX2.cell (p := ⟨w.heap.size, 0, none⟩) hzb).trans y0, (HX2.cell (p := ⟨w.heap.size, 1, none⟩) hzb).trans y1, (HX2.cell (p := ⟨w.heap.size, 2, none⟩) hzb).trans y2, (HX2.cell (p := ⟨w.heap.size, 3, none⟩) hzb).trans y3⟩)
      clear hK K hHeld
      have hHeld := hNew
      clear hNew
      try simp only [Act.put, pz1, pz2, pz3]
      refine wpAnyH_ready (rs := [1]) (by kernel_rfl) (by simp) ?_
      refine AllReadyH.cons (o := ⟨some 21, .call { callee := .builtin .append, args := #[.const (.slice none 0 0), .tmp 20], argTypes := #[38, 38] }, 38, "ref.go:27", #[⟨0, .data⟩], none⟩) rfl (fun K hK => ?_) AllReadyH.nil
      refine step_app _ rfl (.const (.slice none 0 0)) (.tmp 20) _ rfl w1.heap.size 5 i0 _ 1 1 Try.underlying38 hi hz0 hz1 hz2 rfl (by decide) (.slice none 0 0) 0 [] rfl (World.ownsRow_nil _ _ _ _) _ data.length _ (data.map byteV) rfl (Rd.of_sl (H1.below hHeld.1) (by simp)) (oneB data) (by unfold maxLen; omega) (by omega) hHeld.1.size ?_
      intro s3 w3 ho1 hg3 _
      have HX := hHeld.1.trans (below_app (Nat.le_refl _) hHeld.1.size (World.ownsRow_nil _ w1.heap.size 5 1) hg3)
      refine hK.out _ _ ?_ (fun hNew => ?_)
      · (first | exact ⟨(Below.refl _ _).drew, y0, y1, y2, y3⟩ | exact ⟨HX, (HX.cell (p := ⟨w.heap.size, 0, none⟩) hzb).trans y0, (HX.cell (p := ⟨w.heap.size, 1, none⟩) hzb).trans y1, (HX.cell (p := ⟨w.heap.size, 2, none⟩) hzb).trans y2, (HX.cell (p := ⟨w.heap.size, 3, none⟩) hzb).trans y3⟩ | exact ⟨(HX.alloc HX.size _), ((HX.alloc HX.size _).cell (p := ⟨w.heap.size, 0, none⟩) hzb).trans y0, ((HX.alloc HX.size _).cell (p := ⟨w.heap.size, 1, none⟩) hzb).trans y1, ((HX.alloc HX.size _).cell (p := ⟨w.heap.size, 2, none⟩) hzb).trans y2, ((HX.alloc HX.size _).cell (p := ⟨w.heap.size, 3, none⟩) hzb).trans y3⟩ | exact ⟨((Below.refl w1.heap.size w1).alloc (Nat.le_refl _) _).drew, (((Below.refl w1.heap.size w1).alloc (Nat.le_refl _) _).drew.cell (p := ⟨w.heap.size, 0, none⟩) hzb).trans y0, (((Below.refl w1.heap.size w1).alloc (Nat.le_refl _) _).drew.cell (p := ⟨w.heap.size, 1, none⟩) hzb).trans y1, (((Below.refl w1.heap.size w1).alloc (Nat.le_refl _) _).drew.cell (p := ⟨w.heap.size, 2, none⟩) hzb).trans y2, (((Below.refl w1.heap.size w1).alloc (Nat.le_refl _) _).drew.cell (p := ⟨w.heap.size, 3, none⟩) hzb).trans y3⟩ | exact ⟨HX2, (HX2.cell (p := ⟨w.heap.size, 0, none⟩) hzb).trans y0, (HX2.cell (p := ⟨w.heap.size, 1, none⟩) hzb).trans y1, (HX2.cell (p := ⟨w.heap.size, 2, none⟩) hzb).trans y2, (HX2.cell (p := ⟨w.heap.size, 3, none⟩) hzb).trans y3⟩)
      clear hK K hHeld
      have hHeld := hNew
      clear hNew
      try simp only [Act.put, pz1, pz2, pz3]
      refine wpAnyH_ready (rs := [6]) (by kernel_rfl) (by simp) ?_
      refine AllReadyH.cons (o := ⟨some 26, .call { callee := .builtin .append, args := #[.tmp 21, .tmp 25], argTypes := #[38, 38] }, 38, "ref.go:27", #[⟨1, .data⟩, ⟨5, .data⟩, ⟨1, .chain⟩], none⟩) rfl (fun K hK => ?_) AllReadyH.nil
      first
      | (refine step_app _ rfl (.tmp 21) (.tmp 25) _ rfl w1.heap.size 5 i0 _ 1 1 Try.underlying38 hi hz0 hz1 hz2 rfl (by decide) _ _ _ rfl (ho1.alloc _) _ 2 _ ([74, k].map byteV) rfl (Rd.list (vs := [74, k].map byteV) (Blk.new_ _ _ _) rfl) (oneB [74, k]) (by unfold maxLen; omega) (by omega) (by have := HX.size; simp; omega) ?_; intro s4 w4 ho2 hg4 _; have HX2 := (HX.alloc HX.size _).trans (below_app (Nat.le_refl _) (by simp; have := HX.size; omega) (ho1.alloc _) hg4))
      | (refine step_app _ rfl (.tmp 21) (.tmp 25) _ rfl w1.heap.size 5 i0 _ 1 1 Try.underlying38 hi hz0 hz1 hz2 rfl (by decide) _ _ _ rfl ho1 _ 2 _ ([74, k].map byteV) rfl (Rd.list (vs := [74, k].map byteV) ((hg3.block w1.heap.size (by simp) (by simp [Value.ownBlock])).trans (Blk.new_ w1 5 #[byteV 74, byteV k])) rfl) (oneB [74, k]) (by unfold maxLen; omega) (by omega) HX.size ?_; intro s4 w4 ho2 hg4 _; have HX2 := HX.trans (below_app (Nat.le_refl _) HX.size ho1 hg4))
      refine hK.out _ _ ?_ (fun hNew => ?_)
      · (first | exact ⟨(Below.refl _ _).drew, y0, y1, y2, y3⟩ | exact ⟨HX, (HX.cell (p := ⟨w.heap.size, 0, none⟩) hzb).trans y0, (HX.cell (p := ⟨w.heap.size, 1, none⟩) hzb).trans y1, (HX.cell (p := ⟨w.heap.size, 2, none⟩) hzb).trans y2, (HX.cell (p := ⟨w.heap.size, 3, none⟩) hzb).trans y3⟩ | exact ⟨(HX.alloc HX.size _), ((HX.alloc HX.size _).cell (p := ⟨w.heap.size, 0, none⟩) hzb).trans y0, ((HX.alloc HX.size _).cell (p := ⟨w.heap.size, 1, none⟩) hzb).trans y1, ((HX.alloc HX.size _).cell (p := ⟨w.heap.size, 2, none⟩) hzb).trans y2, ((HX.alloc HX.size _).cell (p := ⟨w.heap.size, 3, none⟩) hzb).trans y3⟩ | exact ⟨((Below.refl w1.heap.size w1).alloc (Nat.le_refl _) _).drew, (((Below.refl w1.heap.size w1).alloc (Nat.le_refl _) _).drew.cell (p := ⟨w.heap.size, 0, none⟩) hzb).trans y0, (((Below.refl w1.heap.size w1).alloc (Nat.le_refl _) _).drew.cell (p := ⟨w.heap.size, 1, none⟩) hzb).trans y1, (((Below.refl w1.heap.size w1).alloc (Nat.le_refl _) _).drew.cell (p := ⟨w.heap.size, 2, none⟩) hzb).trans y2, (((Below.refl w1.heap.size w1).alloc (Nat.le_refl _) _).drew.cell (p := ⟨w.heap.size, 3, none⟩) hzb).trans y3⟩ | exact ⟨HX2, (HX2.cell (p := ⟨w.heap.size, 0, none⟩) hzb).trans y0, (HX2.cell (p := ⟨w.heap.size, 1, none⟩) hzb).trans y1, (HX2.cell (p := ⟨w.heap.size, 2, none⟩) hzb).trans y2, (HX2.cell (p := ⟨w.heap.size, 3, none⟩) hzb).trans y3⟩)
      clear hK K hHeld
      have hHeld := hNew
      clear hNew
      try simp only [Act.put, pz1, pz2, pz3]
      refine tk 7 ⟨some 6, .assign (.tmp 26), 38, "ref.go:27", #[⟨6, .data⟩, ⟨6, .chain⟩, ⟨0, .phase⟩, ⟨1, .phase⟩, ⟨2, .phase⟩, ⟨3, .phase⟩, ⟨4, .phase⟩, ⟨5, .phase⟩, ⟨6, .phase⟩], none⟩ ?_; try simp only [Act.put, pz1, pz2, pz3]
      refine wpAnyH_done (by kernel_rfl) ?_ _
      refine NoPanic.normal ?_
      go_wp2_with fail
      go_meet
      exact ⟨own_len (n := 0 + data.length + 2) (by omega) (by simpa using ho2), HX2⟩
  case rest =>
  obtain ⟨ho2, HX⟩ := hcut
  obtain ⟨w2, rfl⟩ : ∃ W : World, W = wc := ⟨_, rfl⟩
  have G2 := HG1.below HX hzb
  clear y0 y1 y2 y3
  have y0 := G2.cell_ 0
  have y1 := G2.cell_ 1
  have y2 := G2.cell_ 2
  have y3 := G2.cell_ 3
  simp at y0 y1 y2 y3
  go_upto_region 4 with fail
  go_cut [6] (fun s6 wx => wx.ownsRow w1.heap.size 5 1 s6 (data.length + 11) (B.map byteV) ∧ Below w1.heap.size w1 wx)
  case first =>
    have x0 := HG1.cell_ 0
    have x1 := HG1.cell_ 1
    have x2 := HG1.cell_ 2
    have x3 := HG1.cell_ 3
    simp at x0 x1 x2 x3
    refine wp_region_noPanic ?_
    refine wp_region_held_drew (S := (fun w' => Below w1.heap.size w1 w' ∧ w'.cell? ⟨w.heap.size, 0, none⟩ = some (.int .i64 k) ∧ w'.cell? ⟨w.heap.size, 1, none⟩ = some (.int .i64 p) ∧ w'.cell? ⟨w.heap.size, 2, none⟩ = some (.int .i64 s) ∧ w'.cell? ⟨w.heap.size, 3, none⟩ = some (.int .i64 e))) (by kernel_rfl) ?_ (fun hHeld => ?_)
    · (first | exact ⟨HX.drew, y0, y1, y2, y3⟩ | exact ⟨HX3, (Below.cell (p := ⟨w.heap.size, 0, none⟩) HX3 hzb).trans x0, (Below.cell (p := ⟨w.heap.size, 1, none⟩) HX3 hzb).trans x1, (Below.cell (p := ⟨w.heap.size, 2, none⟩) HX3 hzb).trans x2, (Below.cell (p := ⟨w.heap.size, 3, none⟩) HX3 hzb).trans x3⟩ | exact ⟨HX4, (Below.cell (p := ⟨w.heap.size, 0, none⟩) HX4 hzb).trans x0, (Below.cell (p := ⟨w.heap.size, 1, none⟩) HX4 hzb).trans x1, (Below.cell (p := ⟨w.heap.size, 2, none⟩) HX4 hzb).trans x2, (Below.cell (p := ⟨w.heap.size, 3, none⟩) HX4 hzb).trans x3⟩ | exact ⟨HX5, (Below.cell (p := ⟨w.heap.size, 0, none⟩) HX5 hzb).trans x0, (Below.cell (p := ⟨w.heap.size, 1, none⟩) HX5 hzb).trans x1, (Below.cell (p := ⟨w.heap.size, 2, none⟩) HX5 hzb).trans x2, (Below.cell (p := ⟨w.heap.size, 3, none⟩) HX5 hzb).trans x3⟩)
    refine tk 0 ⟨some 27, .move (.tmp 6), 38, "ref.go:28", #[], none⟩ ?_; try simp only [Act.put, pz1, pz2, pz3]
    refine tk 1 ⟨some 28, .fieldAddr 40 (.tmp 3) 1, 0, "ref.go:28", #[], none⟩ ?_; try simp only [Act.put, pz1, pz2, pz3]
    refine tk 2 ⟨some 29, .load 3 (.tmp 28), 3, "ref.go:28", #[⟨1, .data⟩], none⟩ ?_; try simp only [Act.put, pz1, pz2, pz3]
    refine tk 4 ⟨some 31, .fieldAddr 40 (.tmp 3) 2, 0, "ref.go:28", #[], none⟩ ?_; try simp only [Act.put, pz1, pz2, pz3]
    refine tk 5 ⟨some 32, .load 3 (.tmp 31), 3, "ref.go:28", #[⟨4, .data⟩], none⟩ ?_; try simp only [Act.put, pz1, pz2, pz3]
    refine tk 7 ⟨some 34, .fieldAddr 40 (.tmp 3) 3, 0, "ref.go:28", #[], none⟩ ?_; try simp only [Act.put, pz1, pz2, pz3]
    refine tk 8 ⟨some 35, .load 3 (.tmp 34), 3, "ref.go:28", #[⟨7, .data⟩], none⟩ ?_; try simp only [Act.put, pz1, pz2, pz3]
    refine wpAnyH_ready (rs := [3]) (by kernel_rfl) (by simp) ?_
    refine AllReadyH.cons (o := ⟨some 30, .call { callee := .value (.func 53), args := #[.tmp 27, .tmp 29, .const (.int .i64 2)], argTypes := #[38, 3, 3] }, 38, "ref.go:28", #[⟨0, .data⟩, ⟨2, .data⟩], none⟩) rfl (fun K hK => ?_) AllReadyH.nil
    go_simp
    (first
          | (go_at_call 53; ((with_reducible refine (rnum_n p 2 2 rfl w1.heap.size _ _ _ _ hp4 (by omega) (by omega) ho2.drew hHeld.1.size (by omega)).mono ?_); rintro e' w3 ⟨s3, rfl, ho3, hb3, _⟩; have HX3 := hHeld.1.trans hb3))
          | (go_at_call 53; ((with_reducible refine (rnum_n s 4 4 rfl w1.heap.size _ _ _ _ hs (by omega) (by omega) ho3 hHeld.1.size (by omega)).mono ?_); rintro e' w4 ⟨s4, rfl, ho4, hb4, _⟩; have HX4 := hHeld.1.trans hb4))
          | (go_at_call 53; ((with_reducible refine (rnum_n e 3 3 rfl w1.heap.size _ _ _ _ he4 (by omega) (by omega) ho4 hHeld.1.size (by omega)).mono ?_); rintro e' w5 ⟨s5, rfl, ho5, hb5, _⟩; have HX5 := hHeld.1.trans hb5)))
    go_wp2_with fail
    refine hK.out _ _ ?_ (fun hNew => ?_)
    · (first | exact ⟨HX.drew, y0, y1, y2, y3⟩ | exact ⟨HX3, (Below.cell (p := ⟨w.heap.size, 0, none⟩) HX3 hzb).trans x0, (Below.cell (p := ⟨w.heap.size, 1, none⟩) HX3 hzb).trans x1, (Below.cell (p := ⟨w.heap.size, 2, none⟩) HX3 hzb).trans x2, (Below.cell (p := ⟨w.heap.size, 3, none⟩) HX3 hzb).trans x3⟩ | exact ⟨HX4, (Below.cell (p := ⟨w.heap.size, 0, none⟩) HX4 hzb).trans x0, (Below.cell (p := ⟨w.heap.size, 1, none⟩) HX4 hzb).trans x1, (Below.cell (p := ⟨w.heap.size, 2, none⟩) HX4 hzb).trans x2, (Below.cell (p := ⟨w.heap.size, 3, none⟩) HX4 hzb).trans x3⟩ | exact ⟨HX5, (Below.cell (p := ⟨w.heap.size, 0, none⟩) HX5 hzb).trans x0, (Below.cell (p := ⟨w.heap.size, 1, none⟩) HX5 hzb).trans x1, (Below.cell (p := ⟨w.heap.size, 2, none⟩) HX5 hzb).trans x2, (Below.cell (p := ⟨w.heap.size, 3, none⟩) HX5 hzb).trans x3⟩)
    clear hK K hHeld
    have hHeld := hNew
    clear hNew
    try simp only [Act.put, pz1, pz2, pz3]
    refine wpAnyH_ready (rs := [6]) (by kernel_rfl) (by simp) ?_
    refine AllReadyH.cons (o := ⟨some 33, .call { callee := .value (.func 53), args := #[.tmp 30, .tmp 32, .const (.int .i64 4)], argTypes := #[38, 3, 3] }, 38, "ref.go:28", #[⟨3, .data⟩, ⟨5, .data⟩, ⟨3, .chain⟩], none⟩) rfl (fun K hK => ?_) AllReadyH.nil
    go_simp
    (first
          | (go_at_call 53; ((with_reducible refine (rnum_n p 2 2 rfl w1.heap.size _ _ _ _ hp4 (by omega) (by omega) ho2.drew hHeld.1.size (by omega)).mono ?_); rintro e' w3 ⟨s3, rfl, ho3, hb3, _⟩; have HX3 := hHeld.1.trans hb3))
          | (go_at_call 53; ((with_reducible refine (rnum_n s 4 4 rfl w1.heap.size _ _ _ _ hs (by omega) (by omega) ho3 hHeld.1.size (by omega)).mono ?_); rintro e' w4 ⟨s4, rfl, ho4, hb4, _⟩; have HX4 := hHeld.1.trans hb4))
          | (go_at_call 53; ((with_reducible refine (rnum_n e 3 3 rfl w1.heap.size _ _ _ _ he4 (by omega) (by omega) ho4 hHeld.1.size (by omega)).mono ?_); rintro e' w5 ⟨s5, rfl, ho5, hb5, _⟩; have HX5 := hHeld.1.trans hb5)))
    go_wp2_with fail
    refine hK.out _ _ ?_ (fun hNew => ?_)
    · (first | exact ⟨HX.drew, y0, y1, y2, y3⟩ | exact ⟨HX3, (Below.cell (p := ⟨w.heap.size, 0, none⟩) HX3 hzb).trans x0, (Below.cell (p := ⟨w.heap.size, 1, none⟩) HX3 hzb).trans x1, (Below.cell (p := ⟨w.heap.size, 2, none⟩) HX3 hzb).trans x2, (Below.cell (p := ⟨w.heap.size, 3, none⟩) HX3 hzb).trans x3⟩ | exact ⟨HX4, (Below.cell (p := ⟨w.heap.size, 0, none⟩) HX4 hzb).trans x0, (Below.cell (p := ⟨w.heap.size, 1, none⟩) HX4 hzb).trans x1, (Below.cell (p := ⟨w.heap.size, 2, none⟩) HX4 hzb).trans x2, (Below.cell (p := ⟨w.heap.size, 3, none⟩) HX4 hzb).trans x3⟩ | exact ⟨HX5, (Below.cell (p := ⟨w.heap.size, 0, none⟩) HX5 hzb).trans x0, (Below.cell (p := ⟨w.heap.size, 1, none⟩) HX5 hzb).trans x1, (Below.cell (p := ⟨w.heap.size, 2, none⟩) HX5 hzb).trans x2, (Below.cell (p := ⟨w.heap.size, 3, none⟩) HX5 hzb).trans x3⟩)
    clear hK K hHeld
    have hHeld := hNew
    clear hNew
    try simp only [Act.put, pz1, pz2, pz3]
    refine wpAnyH_ready (rs := [9]) (by kernel_rfl) (by simp) ?_
    refine AllReadyH.cons (o := ⟨some 36, .call { callee := .value (.func 53), args := #[.tmp 33, .tmp 35, .const (.int .i64 3)], argTypes := #[38, 3, 3] }, 38, "ref.go:28", #[⟨6, .data⟩, ⟨8, .data⟩, ⟨6, .chain⟩], none⟩) rfl (fun K hK => ?_) AllReadyH.nil
    go_simp
    (first
          | (go_at_call 53; ((with_reducible refine (rnum_n p 2 2 rfl w1.heap.size _ _ _ _ hp4 (by omega) (by omega) ho2.drew hHeld.1.size (by omega)).mono ?_); rintro e' w3 ⟨s3, rfl, ho3, hb3, _⟩; have HX3 := hHeld.1.trans hb3))
          | (go_at_call 53; ((with_reducible refine (rnum_n s 4 4 rfl w1.heap.size _ _ _ _ hs (by omega) (by omega) ho3 hHeld.1.size (by omega)).mono ?_); rintro e' w4 ⟨s4, rfl, ho4, hb4, _⟩; have HX4 := hHeld.1.trans hb4))
          | (go_at_call 53; ((with_reducible refine (rnum_n e 3 3 rfl w1.heap.size _ _ _ _ he4 (by omega) (by omega) ho4 hHeld.1.size (by omega)).mono ?_); rintro e' w5 ⟨s5, rfl, ho5, hb5, _⟩; have HX5 := hHeld.1.trans hb5)))
    go_wp2_with fail
    refine hK.out _ _ ?_ (fun hNew => ?_)
    · (first | exact ⟨HX.drew, y0, y1, y2, y3⟩ | exact ⟨HX3, (Below.cell (p := ⟨w.heap.size, 0, none⟩) HX3 hzb).trans x0, (Below.cell (p := ⟨w.heap.size, 1, none⟩) HX3 hzb).trans x1, (Below.cell (p := ⟨w.heap.size, 2, none⟩) HX3 hzb).trans x2, (Below.cell (p := ⟨w.heap.size, 3, none⟩) HX3 hzb).trans x3⟩ | exact ⟨HX4, (Below.cell (p := ⟨w.heap.size, 0, none⟩) HX4 hzb).trans x0, (Below.cell (p := ⟨w.heap.size, 1, none⟩) HX4 hzb).trans x1, (Below.cell (p := ⟨w.heap.size, 2, none⟩) HX4 hzb).trans x2, (Below.cell (p := ⟨w.heap.size, 3, none⟩) HX4 hzb).trans x3⟩ | exact ⟨HX5, (Below.cell (p := ⟨w.heap.size, 0, none⟩) HX5 hzb).trans x0, (Below.cell (p := ⟨w.heap.size, 1, none⟩) HX5 hzb).trans x1, (Below.cell (p := ⟨w.heap.size, 2, none⟩) HX5 hzb).trans x2, (Below.cell (p := ⟨w.heap.size, 3, none⟩) HX5 hzb).trans x3⟩)
    clear hK K hHeld
    have hHeld := hNew
    clear hNew
    try simp only [Act.put, pz1, pz2, pz3]
    refine tk 10 ⟨some 6, .assign (.tmp 36), 38, "ref.go:28", #[⟨9, .data⟩, ⟨9, .chain⟩, ⟨0, .phase⟩, ⟨1, .phase⟩, ⟨2, .phase⟩, ⟨3, .phase⟩, ⟨4, .phase⟩, ⟨5, .phase⟩, ⟨6, .phase⟩, ⟨7, .phase⟩, ⟨8, .phase⟩, ⟨9, .phase⟩], none⟩ ?_; try simp only [Act.put, pz1, pz2, pz3]
    refine wpAnyH_done (by kernel_rfl) ?_ _
    refine NoPanic.normal ?_
    go_wp2_with fail
    go_meet
    exact ⟨own_len (n := data.length + 2 + 2 + 4 + 3) (by omega) (by rw [show (((data ++ [74, k]) ++ beB p 2) ++ beB s 4) ++ beB e 3 = B from HBB.out] at ho5; exact ho5), HX5⟩
  case rest =>
  clear HX ho2 y0 y1 y2 y3
  obtain ⟨ho5, HX⟩ := hcut
  obtain ⟨w5, rfl⟩ : ∃ W : World, W = wc := ⟨_, rfl⟩
  obtain ⟨A5, c5, rfl, hl5, hc5, hc6, hA5, H5⟩ := own_slice ho5
  have HL5 := Lib.hid hl5
  clear hl5 hc5 hc6 hA5
  go_wp2_with (first
    | (go_at_call 54; refine (rcrcOf_len B _ HL5.out _ _ _ H5 hb8.out (by have := hbl.out; omega)).mono ?_; rintro e' w8 ⟨rfl, rfl⟩; have ho6 := ho5)
    | (go_at_call 53; ((with_reducible refine (rnum_n (crcMore 0 B) 4 4 rfl w1.heap.size _ _ _ _ hcrc (by omega) (by omega) ho6 HX.size (by omega)).mono ?_); rintro e' w9 ⟨s9, rfl, ho7, hb9, _⟩; have HX := HX.trans hb9))
    | (at_builtin; refine wpList_app _ rfl (.tmp 42) (.tmp 43) _ rfl w1.heap.size 5 i0 _ 1 1 Try.underlying38 hi hz0 hz1 hz2 rfl (by decide) _ _ _ rfl (ho7.alloc _) _ 1 _ ([0].map byteV) rfl (Rd.list (vs := [0].map byteV) (Blk.new_ _ _ _) rfl) (oneB [0]) (by unfold maxLen; omega) (by omega) (by have := HX.size; simp; omega) ?_; intro s10 w10 ho8 hg10 _; have HX := (HX.alloc HX.size _).trans (below_app (Nat.le_refl _) (by simp; have := HX.size; omega) (ho7.alloc _) hg10)))
  go_ret2
  refine ⟨_, rfl, own_mono (own_len ?_ (by rw [List.map_append]; exact ho8)) (by omega), HB1.trans (HX.mono (by omega))⟩
  omega
end Go.Proofs.Ytcpniplfkillbaa
namespace Go.Proofs.Ytcpniplfkillbaa
open Go.ChangeShapes Go.WideShapes Go.ChangeAt Go.RowKit
attribute [local go_sem ↓] Go.wp_at_zero Go.wp_at_succ
theorem four {l : List Nat} (h : l.length = 4) : ∃ a b c d, l = [a, b, c, d] := by
  match l, h with
  | [a, b, c, d], _ => exact ⟨a, b, c, d, rfl⟩
theorem sound_raw {bs : List Nat} {n : Nat} (hl : bs.length = n + 16) (h8 : Bytes8 bs) (hs : soundB bs n = true) :
    rawB (bs.take n) (tK (bs.drop n)) (tP (bs.drop n)) (tS (bs.drop n)) (tE (bs.drop n)) = bs := by
  have hbs : bs.take n ++ bs.drop n = bs := List.take_append_drop n bs
  have htl : (bs.drop n).length = 16 := by simp; omega
  have hdl : (bs.take n).length = n := by simp; omega
  have h8t : Bytes8 (bs.drop n) := fun x hx => h8 x (List.mem_of_mem_drop hx)
  unfold soundB at hs
  rw [Bool.and_eq_true, Bool.and_eq_true, beq_iff_eq, beq_iff_eq, beq_iff_eq] at hs
  obtain ⟨s1, s2, s3⟩ := hs
  have g1 : (bs.drop n).getD 0 0 = 74 := by
    rw [← s1]
    simp [List.getD_eq_getElem?_getD]
  have g2 : (bs.drop n).getD 15 0 = 0 := by
    have := s2
    simp only [List.getD_eq_getElem?_getD, List.getElem?_drop] at this ⊢
    exact this
  have p1 := be_num2 (part_len (tl := bs.drop n) (i := 2) (n := 2) (by omega)) (part_8 h8t 2 2)
  have p2 := be_num4 (part_len (tl := bs.drop n) (i := 4) (n := 4) (by omega)) (part_8 h8t 4 4)
  have p3 := be_num3 (part_len (tl := bs.drop n) (i := 8) (n := 3) (by omega)) (part_8 h8t 8 3)
  have p4 := be_num4 (part_len (tl := bs) (i := n + 11) (n := 4) (by omega)) (part_8 h8 (n + 11) 4)
  have e4 : part bs (n + 11) 4 = part (bs.drop n) 11 4 := by
    unfold part
    rw [List.drop_drop]
  have hbody : bodyB (bs.take n) (tK (bs.drop n)) (tP (bs.drop n)) (tS (bs.drop n)) (tE (bs.drop n)) = bs.take (n + 11) := by
    unfold bodyB tP tS tE
    rw [p1.1, p2.1, p3.1]
    have : bs.take (n + 11) = bs.take n ++ (bs.drop n).take 11 := by
      rw [← List.take_append_drop n (bs.take (n + 11)), List.take_take, List.drop_take]
      rw [show min n (n + 11) = n by omega, show n + 11 - n = 11 by omega]
    rw [this]
    obtain ⟨t, ht⟩ : ∃ t, bs.drop n = t := ⟨_, rfl⟩
    rw [ht] at g1 htl ⊢
    match t, htl with
    | [b0, b1, b2, b3, b4, b5, b6, b7, b8, b9, b10, b11, b12, b13, b14, b15], _ =>
      simp at g1
      subst g1
      simp [tK, part]
  unfold rawB
  rw [hbody, ← s3, p4.1, e4]
  have : bs = bs.take (n + 11) ++ (bs.drop n).drop 11 := by rw [List.drop_drop, List.take_append_drop]
  conv => rhs; rw [this]
  rw [List.append_assoc]
  congr 1
  obtain ⟨t, ht⟩ : ∃ t, bs.drop n = t := ⟨_, rfl⟩
  rw [ht] at g2 htl ⊢
  match t, htl with
  | [b0, b1, b2, b3, b4, b5, b6, b7, b8, b9, b10, b11, b12, b13, b14, b15], _ =>
    simp at g2
    subst g2
    simp [part]
theorem lay_of_tag {bs : List Nat} {n : Nat} (hl : bs.length = n + 16) (h1 : 24 ≤ n) (h2 : n ≤ 64) (h8 : Bytes8 bs) (ht : tagB (tK (bs.drop n)) (tP (bs.drop n)) (tS (bs.drop n)) (tE (bs.drop n)) = true) :
    LayOk (bs.take n) (tK (bs.drop n)) (tP (bs.drop n)) (tS (bs.drop n)) (tE (bs.drop n)) := by
  have := tagB_iff.1 ht
  refine ⟨by simp; omega, by simp; omega, by omega, by omega, by omega, by omega, by omega, by omega, fun b hb => h8 b (List.mem_of_mem_take hb)⟩
theorem st_split {bs : List Nat} {n : Nat} (hl : bs.length = n + 16) (h1 : 24 ≤ n) (h2 : n ≤ 64) (h8 : Bytes8 bs) (ht : tagB (tK (bs.drop n)) (tP (bs.drop n)) (tS (bs.drop n)) (tE (bs.drop n)) = true)
    (he : rawB (bs.take n) (tK (bs.drop n)) (tP (bs.drop n)) (tS (bs.drop n)) (tE (bs.drop n)) = bs) : readSt bs = 1 := by
  have := raw_valid (lay_of_tag hl h1 h2 h8 ht)
  rwa [he] at this
theorem st_other {bs : List Nat} {n : Nat} (hl : bs.length = n + 16) (h1 : 24 ≤ n) (h2 : n ≤ 64) (h8 : Bytes8 bs)
    (hno : tagB (tK (bs.drop n)) (tP (bs.drop n)) (tS (bs.drop n)) (tE (bs.drop n)) = false ∨ rawB (bs.take n) (tK (bs.drop n)) (tP (bs.drop n)) (tS (bs.drop n)) (tE (bs.drop n)) ≠ bs) : readSt bs = if blankB bs = true then 0 else 2 := by
  unfold readSt
  rw [if_pos (by omega), show bs.length - 16 = n by omega]
  by_cases hb : blankB bs = true
  · rw [if_pos hb, if_pos hb]
  · rw [if_neg hb, if_neg hb, if_neg]
    rintro ⟨ht, hs⟩
    rcases hno with h | h
    · rw [ht] at h
      cases h
    · exact h (sound_raw hl h8 hs)
def strB (bs : List Nat) : ByteArray := ⟨(bs.map fun n => UInt8.ofNat n).toArray⟩
theorem conv_run (bs : List Nat) (B b o n c : Nat) (w : World) (h : Sl w B (some ⟨b, o, none⟩) (bs.map byteV)) (hn : bs.length = n) :
    (convert 38 9 (.slice (some ⟨b, o, none⟩) n c)).run Try.prog w = .ok (.string (strB bs)) w := by
  rw [run_convert_bytes_string w _ _ 5 _ _ _ Try.underlying38 Try.underlying5 Try.underlying9]
  have hc : ∀ j v, (bs.map byteV)[j]? = some v → w.cell? ((⟨b, o, none⟩ : Addr).add j) = some v := h.cells_ _ rfl
  have hl := run_loadCells_list (P := Try.prog) (w := w) ⟨b, o, none⟩ (bs.map byteV) hc
  rw [List.length_map, hn] at hl
  rw [run_bytesToString w ⟨b, o, none⟩ n c (List.map (fun x : Nat => (x : Int)) bs) (by rw [hl]; congr 2; simp [byteV, Function.comp_def])]
  congr 2
  rw [foldl_push_bytes]
  unfold strB
  simp [Function.comp_def]
theorem strB_eq {a b : List Nat} (ha : Bytes8 a) (hb : Bytes8 b) : ((strB a).toList == (strB b).toList) = decide (a = b) := by
  rw [Bool.eq_iff_iff, beq_iff_eq, decide_eq_true_eq]
  constructor
  · intro h
    have h1 : ∀ l : List Nat, (strB l).toList = l.map fun n => UInt8.ofNat n := fun l => ByteArray.toList_mk _
    rw [h1, h1] at h
    have inj : ∀ (l : List Nat), Bytes8 l → (l.map fun n => UInt8.ofNat n).map UInt8.toNat = l := fun l hl => by
      rw [List.map_map]
      refine (List.map_congr_left fun x hx => ?_).trans (List.map_id l)
      have := hl x hx
      simp
      omega
    rw [← inj a ha, ← inj b hb, h]
  · rintro rfl
    rfl
end Go.Proofs.Ytcpniplfkillbaa
namespace Go.Proofs.Ytcpniplfkillbaa
open Go.ChangeShapes Go.WideShapes Go.ChangeAt Go.RowKit
attribute [local go_sem ↓] Go.wp_at_zero Go.wp_at_succ
theorem rlay_no_n (data : List Nat) (n : Nat) (hn : data.length = n) (A : Option Addr) (c : Nat) (k p s e : Int) (w : World) (hno : tagB k p s e = false) (n1 : data.length ≤ 1000000) :
    Calls Try.prog 28 #[.slice A n c, .agg #[.int .i64 k, .int .i64 p, .int .i64 s, .int .i64 e]] w fun e' w' => e' = .returned (.tuple #[.slice none 0 0, .int .i64 2]) ∧ Below w.heap.size w w' := by
  subst hn
  exact rlay_no data A c k p s e w (Or.inr hno) n1
theorem rlay_yes_n (data : List Nat) (n : Nat) (hn : data.length = n) (A : Option Addr) (c : Nat) (k p s e : Nat) (w : World) (h1 : Sl w w.heap.size A (data.map byteV)) (h : LayOk data k p s e) :
    Calls Try.prog 28 #[.slice A n c, .agg #[.int .i64 k, .int .i64 p, .int .i64 s, .int .i64 e]] w fun e' w' => ∃ A' c', e' = .returned (.tuple #[.slice A' (n + 16) c', .int .i64 0]) ∧ Sl w' w'.heap.size A' ((rawB data k p s e).map byteV) ∧ Below w.heap.size w w' := by
  subst hn
  refine (rlay_yes data A c k p s e w h1 h).mono fun e' w' ⟨sv, he, ho, hb⟩ => ?_
  obtain ⟨A', c', rfl, hl, -, -, -, hs⟩ := own_slice ho
  exact ⟨A', c', he, hs, hb⟩
theorem rread_len (bs : List Nat) (A : Option Addr) (c : Nat) (w : World) (hl : ¬ (40 ≤ bs.length ∧ bs.length ≤ 80)) (n1 : bs.length ≤ 1000000) :
    Calls Try.prog 36 #[.slice A bs.length c] w fun e' w' => e' = .returned (.tuple #[.slice none 0 0, .agg #[.int .i64 0, .int .i64 0, .int .i64 0, .int .i64 0], .int .i64 2]) ∧ Below w.heap.size w w' := by
  by_cases h1 : bs.length < 40
  · have q1 : (bs.length : Int) - 16 < 24 := by omega
    have q2 : (bs.length : Int) ≤ 1000000 := by omega
    clear hl h1 n1
    go_enter Try.func36, Try.ntmps36
    go_wp2
    exact bodyPost_ret (v := .tuple #[.slice none 0 0, .agg #[.int .i64 0, .int .i64 0, .int .i64 0, .int .i64 0], .int .i64 2]) (by simp [results, Try.results36, go_sem]) rfl ⟨rfl, (Below.refl _ _).alloc (Nat.le_refl _) _⟩
  · have q1 : ¬ (bs.length : Int) - 16 < 24 := by omega
    have q2 : (64 : Int) < (bs.length : Int) - 16 := by omega
    have q3 : (bs.length : Int) ≤ 1000000 := by omega
    clear hl h1 n1
    go_enter Try.func36, Try.ntmps36
    go_wp2
    exact bodyPost_ret (v := .tuple #[.slice none 0 0, .agg #[.int .i64 0, .int .i64 0, .int .i64 0, .int .i64 0], .int .i64 2]) (by simp [results, Try.results36, go_sem]) rfl ⟨rfl, (Below.refl _ _).alloc (Nat.le_refl _) _⟩
theorem rread_in (bs : List Nat) (n b o c : Nat) (w : World) (h1 : Sl w w.heap.size (some ⟨b, o, none⟩) (bs.map byteV)) (h8 : Bytes8 bs) (hl : bs.length = n + 16) (hn1 : 24 ≤ n) (hn2 : n ≤ 64) (hc : n + 16 ≤ c) (hc2 : c ≤ maxLen)
    (Ka Pa Sa Ea : Nat) (hK : tK (bs.drop n) = Ka) (hP : tP (bs.drop n) = Pa) (hS : tS (bs.drop n) = Sa) (hE : tE (bs.drop n) = Ea) (r : Bool) (hr : (tagB Ka Pa Sa Ea && decide (rawB (bs.take n) Ka Pa Sa Ea = bs)) = r) (st : Int) (hst : (if blankB bs = true then 0 else 2) = st) :
    Calls Try.prog 36 #[.slice (some ⟨b, o, none⟩) (n + 16) c] w fun e' w' =>
      (r = false → e' = .returned (.tuple #[.slice none 0 0, .agg #[.int .i64 0, .int .i64 0, .int .i64 0, .int .i64 0], .int .i64 st])) ∧
      (r = true → ∃ sv, e' = .returned (.tuple #[sv, .agg #[.int .i64 (Ka : Nat), .int .i64 (Pa : Nat), .int .i64 (Sa : Nat), .int .i64 (Ea : Nat)], .int .i64 1]) ∧ w'.ownsRow (w.heap.size + 1) 5 1 sv n ((bs.take n).map byteV)) ∧ Below w.heap.size w w' := by
  unfold maxLen at hc2
  obtain ⟨b', o', hA, lb, q⟩ := h1.at_ (by simp; omega)
  cases hA
  have htl : Sl w w.heap.size (some ⟨b, o + n, none⟩) ((bs.drop n).map byteV) := by have := sl_sub h1 n 16; rwa [← List.map_drop, List.take_of_length_le (by simp; omega)] at this
  have HL := Lib.hid hl
  have HTL : Hid ((bs.drop n).length = 16) := Lib.hid (by simp; omega)
  have h8t : Bytes8 (bs.drop n) := fun x hx => h8 x (List.mem_of_mem_drop hx)
  have HLT : Hid ((bs.take n).length = n) := Lib.hid (by simp; omega)
  have q0 : ¬ (n : Int) < 24 := by omega
  have q00 : ¬ (64 : Int) < (n : Int) := by omega
  have i0 : (0 : Int) ≤ (n : Int) := by omega
  have i2 : (n : Int) ≤ 64 := by omega
  have i3 : (n : Int) ≤ (c : Int) := by omega
  have i4 : ¬ c = n := by omega
  have hR := Lib.hid hr
  have HST := Lib.hid hst
  have HK := Lib.hid hK
  have HP := Lib.hid hP
  have HS := Lib.hid hS
  have HE := Lib.hid hE
  have HC2 := Lib.hid hc2
  obtain ⟨cx, hcx⟩ : ∃ x, c - n = x := ⟨_, rfl⟩
  have hcc : (16 : Int) ≤ (cx : Int) := by omega
  have HCX := Lib.hid hcx
  clear hst hl hr hK hP hS hE hc2 hcx
  go_enter Try.func36, Try.ntmps36
  go_upto_region 4 with fail
  go_cut [6] (fun s wx => s = .slice (some ⟨b, o + n, none⟩) 16 cx ∧ Blk wx w.heap.size 40 #[.int .i64 0, .int .i64 0, .int .i64 0, .int .i64 0] ∧ Below w.heap.size w wx ∧ wx.heap.size = w.heap.size + 1)
  case first =>
    go_wp2
    go_meet
    exact ⟨by rw [HCX.out], Blk.new_ _ _ _, (Below.refl _ _).alloc (Nat.le_refl _) _, by simp⟩
  case rest =>
  obtain ⟨rfl, HZ1, HB1, hz1⟩ := hcut
  obtain ⟨w1, rfl⟩ : ∃ W : World, W = wc := ⟨_, rfl⟩
  have H1 := h1.next HB1
  have TL1 := htl.next HB1
  have hzb : w.heap.size < w1.heap.size := by omega
  have HZZ := Lib.hid hz1
  clear hz1 h1 htl
  have lb1 : b < w1.heap.size := by omega
  have c1 : w1.cell? ⟨b, o + n + 1, none⟩ = some (.int .u8 (Ka : Nat)) := (HB1.cell (p := ⟨b, o + n + 1, none⟩) lb).trans (by
    have hl := HL.out
    rw [Nat.add_assoc]
    refine q (n + 1) _ ?_
    have := HK.out
    unfold tK at this
    rw [List.getElem?_map, List.getElem?_eq_getElem (by omega)]
    simp only [List.getD_eq_getElem?_getD, List.getElem?_drop] at this
    rw [List.getElem?_eq_getElem (by omega)] at this
    simp at this
    simp [byteV, this])
  have hk8 : Ka < 256 := by rw [← HK.out]; exact Bytes8.at_ h8t 1
  have k1 : ((Ka : Nat) : Int) < 256 := by omega
  have k0 : (0 : Int) ≤ ((Ka : Nat) : Int) := by omega
  have P1 : Sl w1 w1.heap.size (some ⟨b, o + n + 2, none⟩) ((part (bs.drop n) 2 2).map byteV) := by rw [part_map]; exact sl_sub TL1 2 2
  have P2 : Sl w1 w1.heap.size (some ⟨b, o + n + 4, none⟩) ((part (bs.drop n) 4 4).map byteV) := by rw [part_map]; exact sl_sub TL1 4 4
  have P3 : Sl w1 w1.heap.size (some ⟨b, o + n + 8, none⟩) ((part (bs.drop n) 8 3).map byteV) := by rw [part_map]; exact sl_sub TL1 8 3
  have L1 : Hid ((part (bs.drop n) 2 2).length = 2) := Lib.hid (part_len (by have := HTL.out; omega))
  have L2 : Hid ((part (bs.drop n) 4 4).length = 4) := Lib.hid (part_len (by have := HTL.out; omega))
  have L3 : Hid ((part (bs.drop n) 8 3).length = 3) := Lib.hid (part_len (by have := HTL.out; omega))
  have q4 : (4 : Int) ≤ (cx : Int) := by omega
  have q8 : (8 : Int) ≤ (cx : Int) := by omega
  have q11 : (11 : Int) ≤ (cx : Int) := by omega
  have n2 : ¬ cx = 2 := by omega
  have n4 : ¬ cx = 4 := by omega
  have n8 : ¬ cx = 8 := by omega
  have ww : IntKind.i64.wrap ((Ka : Nat) : Int) = ((Ka : Nat) : Int) := IntWalk.i64_in _ (by omega)
  clear q lb
  go_upto_region 5 with fail
  go_cut [7] (fun s wx => s = .pointer (some ⟨w1.heap.size, 0, none⟩) ∧ Blk wx w1.heap.size 40 #[.int .i64 (Ka : Nat), .int .i64 (Pa : Nat), .int .i64 (Sa : Nat), .int .i64 (Ea : Nat)] ∧ Below w1.heap.size w1 wx ∧ w1.heap.size < wx.heap.size)
  case first =>
    refine wp_region_noPanic ?_
    refine wp_region_held_drew (S := (fun w' => Below w1.heap.size w1 w' ∧ w1.heap.size ≤ w'.heap.size ∧ ∀ (k o : Nat), k < w1.heap.size → w'.cell? ⟨k, o, none⟩ = w1.cell? ⟨k, o, none⟩)) (by kernel_rfl) ?_ (fun hHeld => ?_)
    · (first | assumption | exact held_of (Below.refl _ _).drew | exact held_of (hHeld.1.alloc hHeld.2.1 _) | exact held_of ((Below.refl _ _).alloc (Nat.le_refl _) _).drew)
    refine tk 0 ⟨some 24, .move (.tmp 6), 38, "ref.go:49", #[], none⟩ ?_; try simp only [Act.put, pz1, pz2, pz3]
    refine tk 1 ⟨some 25, .indexAddr 38 (.tmp 24) (.const (.int .i64 1)), 0, "ref.go:49", #[⟨0, .data⟩], none⟩ ?_; try simp only [Act.put, pz1, pz2, pz3]
    refine tk 2 ⟨some 26, .load 5 (.tmp 25), 5, "ref.go:49", #[⟨1, .data⟩], none⟩ ?_; try simp only [Act.put, pz1, pz2, pz3]
    refine tk 3 ⟨some 27, .convert 5 3 (.tmp 26), 3, "ref.go:49", #[⟨2, .data⟩], none⟩ ?_; try simp only [Act.put, pz1, pz2, pz3]
    refine tk 4 ⟨some 28, .move (.tmp 6), 38, "ref.go:49", #[], none⟩ ?_; try simp only [Act.put, pz1, pz2, pz3]
    refine tk 5 ⟨some 29, .slice 38 (.tmp 28) (some (.const (.int .i64 2))) (some (.const (.int .i64 4))) none, 38, "ref.go:49", #[⟨4, .data⟩], none⟩ ?_; try simp only [Act.put, pz1, pz2, pz3]
    refine tk 7 ⟨some 31, .move (.tmp 6), 38, "ref.go:49", #[], none⟩ ?_; try simp only [Act.put, pz1, pz2, pz3]
    refine tk 8 ⟨some 32, .slice 38 (.tmp 31) (some (.const (.int .i64 4))) (some (.const (.int .i64 8))) none, 38, "ref.go:49", #[⟨7, .data⟩], none⟩ ?_; try simp only [Act.put, pz1, pz2, pz3]
    refine tk 10 ⟨some 34, .move (.tmp 6), 38, "ref.go:49", #[], none⟩ ?_; try simp only [Act.put, pz1, pz2, pz3]
    refine tk 11 ⟨some 35, .slice 38 (.tmp 34) (some (.const (.int .i64 8))) (some (.const (.int .i64 11))) none, 38, "ref.go:49", #[⟨10, .data⟩], none⟩ ?_; try simp only [Act.put, pz1, pz2, pz3]
    refine wpAnyH_ready (rs := [6, 14]) (by kernel_rfl) (by simp) ?_
    refine (AllReadyH.cons (o := ⟨some 30, .call { callee := .value (.func 65), args := #[.tmp 29], argTypes := #[38] }, 3, "ref.go:49", #[⟨5, .data⟩], none⟩) rfl (fun K hK => ?_) (AllReadyH.cons (o := ⟨some 7, .alloc 40, 0, "ref.go:49", #[], none⟩) rfl (fun K hK => ?_) AllReadyH.nil))
    · go_simp
      (first
            | (go_at_call 65; ((with_reducible refine (rget_n (part (bs.drop n) 2 2) 2 L1.out (some ⟨b, o + n + 2, none⟩) _ _ (P1.held hHeld.2.1 hHeld.2.2) (part_8 h8t _ _) (by omega)).mono ?_); rintro e' w3 ⟨rfl, rfl⟩))
            | (go_at_call 65; ((with_reducible refine (rget_n (part (bs.drop n) 4 4) 4 L2.out (some ⟨b, o + n + 4, none⟩) _ _ (P2.held hHeld.2.1 hHeld.2.2) (part_8 h8t _ _) (by omega)).mono ?_); rintro e' w3 ⟨rfl, rfl⟩))
            | (go_at_call 65; ((with_reducible refine (rget_n (part (bs.drop n) 8 3) 3 L3.out (some ⟨b, o + n + 8, none⟩) _ _ (P3.held hHeld.2.1 hHeld.2.2) (part_8 h8t _ _) (by omega)).mono ?_); rintro e' w3 ⟨rfl, rfl⟩)))
      go_wp2_with fail
      refine hK.out _ _ ?_ (fun hNew => ?_)
      · (first | assumption | exact held_of (Below.refl _ _).drew | exact held_of (hHeld.1.alloc hHeld.2.1 _) | exact held_of ((Below.refl _ _).alloc (Nat.le_refl _) _).drew)
      clear hK K hHeld
      have hHeld := hNew
      clear hNew
      try simp only [Act.put, pz1, pz2, pz3]
      refine wpAnyH_ready (rs := [9, 14]) (by kernel_rfl) (by simp) ?_
      refine (AllReadyH.cons (o := ⟨some 33, .call { callee := .value (.func 65), args := #[.tmp 32], argTypes := #[38] }, 3, "ref.go:49", #[⟨8, .data⟩, ⟨6, .chain⟩], none⟩) rfl (fun K hK => ?_) (AllReadyH.cons (o := ⟨some 7, .alloc 40, 0, "ref.go:49", #[], none⟩) rfl (fun K hK => ?_) AllReadyH.nil))
      · go_simp
        (first
              | (go_at_call 65; ((with_reducible refine (rget_n (part (bs.drop n) 2 2) 2 L1.out (some ⟨b, o + n + 2, none⟩) _ _ (P1.held hHeld.2.1 hHeld.2.2) (part_8 h8t _ _) (by omega)).mono ?_); rintro e' w3 ⟨rfl, rfl⟩))
              | (go_at_call 65; ((with_reducible refine (rget_n (part (bs.drop n) 4 4) 4 L2.out (some ⟨b, o + n + 4, none⟩) _ _ (P2.held hHeld.2.1 hHeld.2.2) (part_8 h8t _ _) (by omega)).mono ?_); rintro e' w3 ⟨rfl, rfl⟩))
              | (go_at_call 65; ((with_reducible refine (rget_n (part (bs.drop n) 8 3) 3 L3.out (some ⟨b, o + n + 8, none⟩) _ _ (P3.held hHeld.2.1 hHeld.2.2) (part_8 h8t _ _) (by omega)).mono ?_); rintro e' w3 ⟨rfl, rfl⟩)))
        go_wp2_with fail
        refine hK.out _ _ ?_ (fun hNew => ?_)
        · (first | assumption | exact held_of (Below.refl _ _).drew | exact held_of (hHeld.1.alloc hHeld.2.1 _) | exact held_of ((Below.refl _ _).alloc (Nat.le_refl _) _).drew)
        clear hK K hHeld
        have hHeld := hNew
        clear hNew
        try simp only [Act.put, pz1, pz2, pz3]
        refine wpAnyH_ready (rs := [12, 14]) (by kernel_rfl) (by simp) ?_
        refine (AllReadyH.cons (o := ⟨some 36, .call { callee := .value (.func 65), args := #[.tmp 35], argTypes := #[38] }, 3, "ref.go:49", #[⟨11, .data⟩, ⟨9, .chain⟩], none⟩) rfl (fun K hK => ?_) (AllReadyH.cons (o := ⟨some 7, .alloc 40, 0, "ref.go:49", #[], none⟩) rfl (fun K hK => ?_) AllReadyH.nil))
        · go_simp
          (first
                | (go_at_call 65; ((with_reducible refine (rget_n (part (bs.drop n) 2 2) 2 L1.out (some ⟨b, o + n + 2, none⟩) _ _ (P1.held hHeld.2.1 hHeld.2.2) (part_8 h8t _ _) (by omega)).mono ?_); rintro e' w3 ⟨rfl, rfl⟩))
                | (go_at_call 65; ((with_reducible refine (rget_n (part (bs.drop n) 4 4) 4 L2.out (some ⟨b, o + n + 4, none⟩) _ _ (P2.held hHeld.2.1 hHeld.2.2) (part_8 h8t _ _) (by omega)).mono ?_); rintro e' w3 ⟨rfl, rfl⟩))
                | (go_at_call 65; ((with_reducible refine (rget_n (part (bs.drop n) 8 3) 3 L3.out (some ⟨b, o + n + 8, none⟩) _ _ (P3.held hHeld.2.1 hHeld.2.2) (part_8 h8t _ _) (by omega)).mono ?_); rintro e' w3 ⟨rfl, rfl⟩)))
          go_wp2_with fail
          refine hK.out _ _ ?_ (fun hNew => ?_)
          · (first | assumption | exact held_of (Below.refl _ _).drew | exact held_of (hHeld.1.alloc hHeld.2.1 _) | exact held_of ((Below.refl _ _).alloc (Nat.le_refl _) _).drew)
          clear hK K hHeld
          have hHeld := hNew
          clear hNew
          try simp only [Act.put, pz1, pz2, pz3]
          refine tk 13 ⟨some 37, .build 40 #[(0, .tmp 27), (1, .tmp 30), (2, .tmp 33), (3, .tmp 36)], 40, "ref.go:49", #[⟨3, .data⟩, ⟨6, .data⟩, ⟨9, .data⟩, ⟨12, .data⟩], none⟩ ?_; try simp only [Act.put, pz1, pz2, pz3]
          refine wpAnyH_ready (rs := [14]) (by kernel_rfl) (by simp) ?_
          refine AllReadyH.cons (o := ⟨some 7, .alloc 40, 0, "ref.go:49", #[], none⟩) rfl (fun K hK => ?_) AllReadyH.nil
          go_simp
          refine hK.out _ _ ?_ (fun hNew => ?_)
          · (first | assumption | exact held_of (Below.refl _ _).drew | exact held_of (hHeld.1.alloc hHeld.2.1 _) | exact held_of ((Below.refl _ _).alloc (Nat.le_refl _) _).drew)
          clear hK K hHeld
          have hHeld := hNew
          clear hNew
          try simp only [Act.put, pz1, pz2, pz3]
          refine wpAnyH_ready (rs := [15]) (by kernel_rfl) (by simp) ?_
          refine AllReadyH.cons (o := ⟨none, .store 40 (.tmp 7) (.tmp 37), 0, "ref.go:49", #[⟨14, .data⟩, ⟨13, .data⟩, ⟨12, .chain⟩, ⟨0, .phase⟩, ⟨1, .phase⟩, ⟨2, .phase⟩, ⟨3, .phase⟩, ⟨4, .phase⟩, ⟨5, .phase⟩, ⟨6, .phase⟩, ⟨7, .phase⟩, ⟨8, .phase⟩, ⟨9, .phase⟩, ⟨10, .phase⟩, ⟨11, .phase⟩, ⟨12, .phase⟩, ⟨13, .phase⟩, ⟨14, .phase⟩], none⟩) rfl (fun K hK => ?_) AllReadyH.nil
          go_simp
          refine hK.out _ _ ?_ (fun hNew => ?_)
          · (first | assumption | exact held_of (Below.refl _ _).drew | exact held_of (hHeld.1.alloc hHeld.2.1 _) | exact held_of ((Below.refl _ _).alloc (Nat.le_refl _) _).drew)
          clear hK K hHeld
          have hHeld := hNew
          clear hNew
          try simp only [Act.put, pz1, pz2, pz3]
          refine wpAnyH_done (by kernel_rfl) ?_ _
          refine NoPanic.normal ?_
          go_wp2_with fail
          go_meet
          exact ⟨rfl, (by rw [← HP.out, ← HS.out, ← HE.out]; exact Blk.new_ w1 _ _), ((Below.refl _ _).alloc (Nat.le_refl _) _).drew, by simp⟩
        · go_simp
          refine hK.out _ _ ?_ (fun hNew => ?_)
          · (first | assumption | exact held_of (Below.refl _ _).drew | exact held_of (hHeld.1.alloc hHeld.2.1 _) | exact held_of ((Below.refl _ _).alloc (Nat.le_refl _) _).drew)
          clear hK K hHeld
          have hHeld := hNew
          clear hNew
          try simp only [Act.put, pz1, pz2, pz3]
          refine wpAnyH_ready (rs := [12]) (by kernel_rfl) (by simp) ?_
          refine AllReadyH.cons (o := ⟨some 36, .call { callee := .value (.func 65), args := #[.tmp 35], argTypes := #[38] }, 3, "ref.go:49", #[⟨11, .data⟩, ⟨9, .chain⟩], none⟩) rfl (fun K hK => ?_) AllReadyH.nil
          go_simp
          (first
                | (go_at_call 65; ((with_reducible refine (rget_n (part (bs.drop n) 2 2) 2 L1.out (some ⟨b, o + n + 2, none⟩) _ _ (P1.held hHeld.2.1 hHeld.2.2) (part_8 h8t _ _) (by omega)).mono ?_); rintro e' w3 ⟨rfl, rfl⟩))
                | (go_at_call 65; ((with_reducible refine (rget_n (part (bs.drop n) 4 4) 4 L2.out (some ⟨b, o + n + 4, none⟩) _ _ (P2.held hHeld.2.1 hHeld.2.2) (part_8 h8t _ _) (by omega)).mono ?_); rintro e' w3 ⟨rfl, rfl⟩))
                | (go_at_call 65; ((with_reducible refine (rget_n (part (bs.drop n) 8 3) 3 L3.out (some ⟨b, o + n + 8, none⟩) _ _ (P3.held hHeld.2.1 hHeld.2.2) (part_8 h8t _ _) (by omega)).mono ?_); rintro e' w3 ⟨rfl, rfl⟩)))
          go_wp2_with fail
          refine hK.out _ _ ?_ (fun hNew => ?_)
          · (first | assumption | exact held_of (Below.refl _ _).drew | exact held_of (hHeld.1.alloc hHeld.2.1 _) | exact held_of ((Below.refl _ _).alloc (Nat.le_refl _) _).drew)
          clear hK K hHeld
          have hHeld := hNew
          clear hNew
          try simp only [Act.put, pz1, pz2, pz3]
          refine tk 13 ⟨some 37, .build 40 #[(0, .tmp 27), (1, .tmp 30), (2, .tmp 33), (3, .tmp 36)], 40, "ref.go:49", #[⟨3, .data⟩, ⟨6, .data⟩, ⟨9, .data⟩, ⟨12, .data⟩], none⟩ ?_; try simp only [Act.put, pz1, pz2, pz3]
          refine wpAnyH_ready (rs := [15]) (by kernel_rfl) (by simp) ?_
          refine AllReadyH.cons (o := ⟨none, .store 40 (.tmp 7) (.tmp 37), 0, "ref.go:49", #[⟨14, .data⟩, ⟨13, .data⟩, ⟨12, .chain⟩, ⟨0, .phase⟩, ⟨1, .phase⟩, ⟨2, .phase⟩, ⟨3, .phase⟩, ⟨4, .phase⟩, ⟨5, .phase⟩, ⟨6, .phase⟩, ⟨7, .phase⟩, ⟨8, .phase⟩, ⟨9, .phase⟩, ⟨10, .phase⟩, ⟨11, .phase⟩, ⟨12, .phase⟩, ⟨13, .phase⟩, ⟨14, .phase⟩], none⟩) rfl (fun K hK => ?_) AllReadyH.nil
          go_simp
          refine hK.out _ _ ?_ (fun hNew => ?_)
          · (first | assumption | exact held_of (Below.refl _ _).drew | exact held_of (hHeld.1.alloc hHeld.2.1 _) | exact held_of ((Below.refl _ _).alloc (Nat.le_refl _) _).drew)
          clear hK K hHeld
          have hHeld := hNew
          clear hNew
          try simp only [Act.put, pz1, pz2, pz3]
          refine wpAnyH_done (by kernel_rfl) ?_ _
          refine NoPanic.normal ?_
          go_wp2_with fail
          go_meet
          exact ⟨rfl, (by rw [← HP.out, ← HS.out, ← HE.out]; exact Blk.new_ w1 _ _), ((Below.refl _ _).alloc (Nat.le_refl _) _).drew, by simp⟩
      · go_simp
        refine hK.out _ _ ?_ (fun hNew => ?_)
        · (first | assumption | exact held_of (Below.refl _ _).drew | exact held_of (hHeld.1.alloc hHeld.2.1 _) | exact held_of ((Below.refl _ _).alloc (Nat.le_refl _) _).drew)
        clear hK K hHeld
        have hHeld := hNew
        clear hNew
        try simp only [Act.put, pz1, pz2, pz3]
        refine wpAnyH_ready (rs := [9]) (by kernel_rfl) (by simp) ?_
        refine AllReadyH.cons (o := ⟨some 33, .call { callee := .value (.func 65), args := #[.tmp 32], argTypes := #[38] }, 3, "ref.go:49", #[⟨8, .data⟩, ⟨6, .chain⟩], none⟩) rfl (fun K hK => ?_) AllReadyH.nil
        go_simp
        (first
              | (go_at_call 65; ((with_reducible refine (rget_n (part (bs.drop n) 2 2) 2 L1.out (some ⟨b, o + n + 2, none⟩) _ _ (P1.held hHeld.2.1 hHeld.2.2) (part_8 h8t _ _) (by omega)).mono ?_); rintro e' w3 ⟨rfl, rfl⟩))
              | (go_at_call 65; ((with_reducible refine (rget_n (part (bs.drop n) 4 4) 4 L2.out (some ⟨b, o + n + 4, none⟩) _ _ (P2.held hHeld.2.1 hHeld.2.2) (part_8 h8t _ _) (by omega)).mono ?_); rintro e' w3 ⟨rfl, rfl⟩))
              | (go_at_call 65; ((with_reducible refine (rget_n (part (bs.drop n) 8 3) 3 L3.out (some ⟨b, o + n + 8, none⟩) _ _ (P3.held hHeld.2.1 hHeld.2.2) (part_8 h8t _ _) (by omega)).mono ?_); rintro e' w3 ⟨rfl, rfl⟩)))
        go_wp2_with fail
        refine hK.out _ _ ?_ (fun hNew => ?_)
        · (first | assumption | exact held_of (Below.refl _ _).drew | exact held_of (hHeld.1.alloc hHeld.2.1 _) | exact held_of ((Below.refl _ _).alloc (Nat.le_refl _) _).drew)
        clear hK K hHeld
        have hHeld := hNew
        clear hNew
        try simp only [Act.put, pz1, pz2, pz3]
        refine wpAnyH_ready (rs := [12]) (by kernel_rfl) (by simp) ?_
        refine AllReadyH.cons (o := ⟨some 36, .call { callee := .value (.func 65), args := #[.tmp 35], argTypes := #[38] }, 3, "ref.go:49", #[⟨11, .data⟩, ⟨9, .chain⟩], none⟩) rfl (fun K hK => ?_) AllReadyH.nil
        go_simp
        (first
              | (go_at_call 65; ((with_reducible refine (rget_n (part (bs.drop n) 2 2) 2 L1.out (some ⟨b, o + n + 2, none⟩) _ _ (P1.held hHeld.2.1 hHeld.2.2) (part_8 h8t _ _) (by omega)).mono ?_); rintro e' w3 ⟨rfl, rfl⟩))
              | (go_at_call 65; ((with_reducible refine (rget_n (part (bs.drop n) 4 4) 4 L2.out (some ⟨b, o + n + 4, none⟩) _ _ (P2.held hHeld.2.1 hHeld.2.2) (part_8 h8t _ _) (by omega)).mono ?_); rintro e' w3 ⟨rfl, rfl⟩))
              | (go_at_call 65; ((with_reducible refine (rget_n (part (bs.drop n) 8 3) 3 L3.out (some ⟨b, o + n + 8, none⟩) _ _ (P3.held hHeld.2.1 hHeld.2.2) (part_8 h8t _ _) (by omega)).mono ?_); rintro e' w3 ⟨rfl, rfl⟩)))
        go_wp2_with fail
        refine hK.out _ _ ?_ (fun hNew => ?_)
        · (first | assumption | exact held_of (Below.refl _ _).drew | exact held_of (hHeld.1.alloc hHeld.2.1 _) | exact held_of ((Below.refl _ _).alloc (Nat.le_refl _) _).drew)
        clear hK K hHeld
        have hHeld := hNew
        clear hNew
        try simp only [Act.put, pz1, pz2, pz3]
        refine tk 13 ⟨some 37, .build 40 #[(0, .tmp 27), (1, .tmp 30), (2, .tmp 33), (3, .tmp 36)], 40, "ref.go:49", #[⟨3, .data⟩, ⟨6, .data⟩, ⟨9, .data⟩, ⟨12, .data⟩], none⟩ ?_; try simp only [Act.put, pz1, pz2, pz3]
        refine wpAnyH_ready (rs := [15]) (by kernel_rfl) (by simp) ?_
        refine AllReadyH.cons (o := ⟨none, .store 40 (.tmp 7) (.tmp 37), 0, "ref.go:49", #[⟨14, .data⟩, ⟨13, .data⟩, ⟨12, .chain⟩, ⟨0, .phase⟩, ⟨1, .phase⟩, ⟨2, .phase⟩, ⟨3, .phase⟩, ⟨4, .phase⟩, ⟨5, .phase⟩, ⟨6, .phase⟩, ⟨7, .phase⟩, ⟨8, .phase⟩, ⟨9, .phase⟩, ⟨10, .phase⟩, ⟨11, .phase⟩, ⟨12, .phase⟩, ⟨13, .phase⟩, ⟨14, .phase⟩], none⟩) rfl (fun K hK => ?_) AllReadyH.nil
        go_simp
        refine hK.out _ _ ?_ (fun hNew => ?_)
        · (first | assumption | exact held_of (Below.refl _ _).drew | exact held_of (hHeld.1.alloc hHeld.2.1 _) | exact held_of ((Below.refl _ _).alloc (Nat.le_refl _) _).drew)
        clear hK K hHeld
        have hHeld := hNew
        clear hNew
        try simp only [Act.put, pz1, pz2, pz3]
        refine wpAnyH_done (by kernel_rfl) ?_ _
        refine NoPanic.normal ?_
        go_wp2_with fail
        go_meet
        exact ⟨rfl, (by rw [← HP.out, ← HS.out, ← HE.out]; exact Blk.new_ w1 _ _), ((Below.refl _ _).alloc (Nat.le_refl _) _).drew, by simp⟩
    · go_simp
      refine hK.out _ _ ?_ (fun hNew => ?_)
      · (first | assumption | exact held_of (Below.refl _ _).drew | exact held_of (hHeld.1.alloc hHeld.2.1 _) | exact held_of ((Below.refl _ _).alloc (Nat.le_refl _) _).drew)
      clear hK K hHeld
      have hHeld := hNew
      clear hNew
      try simp only [Act.put, pz1, pz2, pz3]
      refine wpAnyH_ready (rs := [6]) (by kernel_rfl) (by simp) ?_
      refine AllReadyH.cons (o := ⟨some 30, .call { callee := .value (.func 65), args := #[.tmp 29], argTypes := #[38] }, 3, "ref.go:49", #[⟨5, .data⟩], none⟩) rfl (fun K hK => ?_) AllReadyH.nil
      go_simp
      (first
            | (go_at_call 65; ((with_reducible refine (rget_n (part (bs.drop n) 2 2) 2 L1.out (some ⟨b, o + n + 2, none⟩) _ _ (P1.held hHeld.2.1 hHeld.2.2) (part_8 h8t _ _) (by omega)).mono ?_); rintro e' w3 ⟨rfl, rfl⟩))
            | (go_at_call 65; ((with_reducible refine (rget_n (part (bs.drop n) 4 4) 4 L2.out (some ⟨b, o + n + 4, none⟩) _ _ (P2.held hHeld.2.1 hHeld.2.2) (part_8 h8t _ _) (by omega)).mono ?_); rintro e' w3 ⟨rfl, rfl⟩))
            | (go_at_call 65; ((with_reducible refine (rget_n (part (bs.drop n) 8 3) 3 L3.out (some ⟨b, o + n + 8, none⟩) _ _ (P3.held hHeld.2.1 hHeld.2.2) (part_8 h8t _ _) (by omega)).mono ?_); rintro e' w3 ⟨rfl, rfl⟩)))
      go_wp2_with fail
      refine hK.out _ _ ?_ (fun hNew => ?_)
      · (first | assumption | exact held_of (Below.refl _ _).drew | exact held_of (hHeld.1.alloc hHeld.2.1 _) | exact held_of ((Below.refl _ _).alloc (Nat.le_refl _) _).drew)
      clear hK K hHeld
      have hHeld := hNew
      clear hNew
      try simp only [Act.put, pz1, pz2, pz3]
      refine wpAnyH_ready (rs := [9]) (by kernel_rfl) (by simp) ?_
      refine AllReadyH.cons (o := ⟨some 33, .call { callee := .value (.func 65), args := #[.tmp 32], argTypes := #[38] }, 3, "ref.go:49", #[⟨8, .data⟩, ⟨6, .chain⟩], none⟩) rfl (fun K hK => ?_) AllReadyH.nil
      go_simp
      (first
            | (go_at_call 65; ((with_reducible refine (rget_n (part (bs.drop n) 2 2) 2 L1.out (some ⟨b, o + n + 2, none⟩) _ _ (P1.held hHeld.2.1 hHeld.2.2) (part_8 h8t _ _) (by omega)).mono ?_); rintro e' w3 ⟨rfl, rfl⟩))
            | (go_at_call 65; ((with_reducible refine (rget_n (part (bs.drop n) 4 4) 4 L2.out (some ⟨b, o + n + 4, none⟩) _ _ (P2.held hHeld.2.1 hHeld.2.2) (part_8 h8t _ _) (by omega)).mono ?_); rintro e' w3 ⟨rfl, rfl⟩))
            | (go_at_call 65; ((with_reducible refine (rget_n (part (bs.drop n) 8 3) 3 L3.out (some ⟨b, o + n + 8, none⟩) _ _ (P3.held hHeld.2.1 hHeld.2.2) (part_8 h8t _ _) (by omega)).mono ?_); rintro e' w3 ⟨rfl, rfl⟩)))
      go_wp2_with fail
      refine hK.out _ _ ?_ (fun hNew => ?_)
      · (first | assumption | exact held_of (Below.refl _ _).drew | exact held_of (hHeld.1.alloc hHeld.2.1 _) | exact held_of ((Below.refl _ _).alloc (Nat.le_refl _) _).drew)
      clear hK K hHeld
      have hHeld := hNew
      clear hNew
      try simp only [Act.put, pz1, pz2, pz3]
      refine wpAnyH_ready (rs := [12]) (by kernel_rfl) (by simp) ?_
      refine AllReadyH.cons (o := ⟨some 36, .call { callee := .value (.func 65), args := #[.tmp 35], argTypes := #[38] }, 3, "ref.go:49", #[⟨11, .data⟩, ⟨9, .chain⟩], none⟩) rfl (fun K hK => ?_) AllReadyH.nil
      go_simp
      (first
            | (go_at_call 65; ((with_reducible refine (rget_n (part (bs.drop n) 2 2) 2 L1.out (some ⟨b, o + n + 2, none⟩) _ _ (P1.held hHeld.2.1 hHeld.2.2) (part_8 h8t _ _) (by omega)).mono ?_); rintro e' w3 ⟨rfl, rfl⟩))
            | (go_at_call 65; ((with_reducible refine (rget_n (part (bs.drop n) 4 4) 4 L2.out (some ⟨b, o + n + 4, none⟩) _ _ (P2.held hHeld.2.1 hHeld.2.2) (part_8 h8t _ _) (by omega)).mono ?_); rintro e' w3 ⟨rfl, rfl⟩))
            | (go_at_call 65; ((with_reducible refine (rget_n (part (bs.drop n) 8 3) 3 L3.out (some ⟨b, o + n + 8, none⟩) _ _ (P3.held hHeld.2.1 hHeld.2.2) (part_8 h8t _ _) (by omega)).mono ?_); rintro e' w3 ⟨rfl, rfl⟩)))
      go_wp2_with fail
      refine hK.out _ _ ?_ (fun hNew => ?_)
      · (first | assumption | exact held_of (Below.refl _ _).drew | exact held_of (hHeld.1.alloc hHeld.2.1 _) | exact held_of ((Below.refl _ _).alloc (Nat.le_refl _) _).drew)
      clear hK K hHeld
      have hHeld := hNew
      clear hNew
      try simp only [Act.put, pz1, pz2, pz3]
      refine tk 13 ⟨some 37, .build 40 #[(0, .tmp 27), (1, .tmp 30), (2, .tmp 33), (3, .tmp 36)], 40, "ref.go:49", #[⟨3, .data⟩, ⟨6, .data⟩, ⟨9, .data⟩, ⟨12, .data⟩], none⟩ ?_; try simp only [Act.put, pz1, pz2, pz3]
      refine wpAnyH_ready (rs := [15]) (by kernel_rfl) (by simp) ?_
      refine AllReadyH.cons (o := ⟨none, .store 40 (.tmp 7) (.tmp 37), 0, "ref.go:49", #[⟨14, .data⟩, ⟨13, .data⟩, ⟨12, .chain⟩, ⟨0, .phase⟩, ⟨1, .phase⟩, ⟨2, .phase⟩, ⟨3, .phase⟩, ⟨4, .phase⟩, ⟨5, .phase⟩, ⟨6, .phase⟩, ⟨7, .phase⟩, ⟨8, .phase⟩, ⟨9, .phase⟩, ⟨10, .phase⟩, ⟨11, .phase⟩, ⟨12, .phase⟩, ⟨13, .phase⟩, ⟨14, .phase⟩], none⟩) rfl (fun K hK => ?_) AllReadyH.nil
      go_simp
      refine hK.out _ _ ?_ (fun hNew => ?_)
      · (first | assumption | exact held_of (Below.refl _ _).drew | exact held_of (hHeld.1.alloc hHeld.2.1 _) | exact held_of ((Below.refl _ _).alloc (Nat.le_refl _) _).drew)
      clear hK K hHeld
      have hHeld := hNew
      clear hNew
      try simp only [Act.put, pz1, pz2, pz3]
      refine wpAnyH_done (by kernel_rfl) ?_ _
      refine NoPanic.normal ?_
      go_wp2_with fail
      go_meet
      exact ⟨rfl, (by rw [← HP.out, ← HS.out, ← HE.out]; exact Blk.new_ w1 _ _), ((Below.refl _ _).alloc (Nat.le_refl _) _).drew, by simp⟩
  case rest =>
  obtain ⟨rfl, HG2, HB2, hz2⟩ := hcut
  obtain ⟨w2, rfl⟩ : ∃ W : World, W = wc := ⟨_, rfl⟩
  have HZ2 := HZ1.below HB2 hzb
  have HBA := btr HB1 HB1.size HB2
  have H2 := H1.next HB2
  have hzc : w.heap.size < w2.heap.size := by omega
  have y0 := HG2.cell_ 0
  have y1 := HG2.cell_ 1
  have y2 := HG2.cell_ 2
  have y3 := HG2.cell_ 3
  simp at y0 y1 y2 y3
  have HD2 : Sl w2 w2.heap.size (some ⟨b, o, none⟩) ((bs.take n).map byteV) := by rw [List.map_take]; exact sl_take H2 n
  clear P1 P2 P3 L1 L2 L3 c1 q4 q8 q11 n2 n4 n8 ww k0 k1 hk8 TL1 hcc h8t HTL HCX HZ1 H1 lb1
  obtain ⟨tg, htg⟩ : ∃ x, tagB Ka Pa Sa Ea = x := ⟨_, rfl⟩
  have HT := Lib.hid htg
  clear htg
  go_upto_region 6 with fail
  go_cut [8, 9] (fun s8 s9 wx => Below w2.heap.size w2 wx ∧ ((tg = false ∧ s9 = .int .i64 2) ∨ (tg = true ∧ s9 = .int .i64 0 ∧ ∃ A' c', s8 = .slice A' (n + 16) c' ∧ Sl wx wx.heap.size A' ((rawB (bs.take n) Ka Pa Sa Ea).map byteV))))
  case first =>
    cases tg
    · have HT2 : Hid (tagB Ka Pa Sa Ea = false) := HT
      refine wp_region_noPanic ?_
      refine wp_region_held_drew (S := (fun w' => Below w2.heap.size w2 w' ∧ w'.cell? ⟨w1.heap.size, 0, none⟩ = some (.int .i64 (Ka : Nat)) ∧ w'.cell? ⟨w1.heap.size, 1, none⟩ = some (.int .i64 (Pa : Nat)) ∧ w'.cell? ⟨w1.heap.size, 2, none⟩ = some (.int .i64 (Sa : Nat)) ∧ w'.cell? ⟨w1.heap.size, 3, none⟩ = some (.int .i64 (Ea : Nat)))) (by kernel_rfl) ?_ (fun hHeld => ?_)
      · (first | exact ⟨(Below.refl _ _).drew, y0, y1, y2, y3⟩ | assumption | exact ⟨hbL, (hbL.cell (p := ⟨w1.heap.size, 0, none⟩) hz2).trans y0, (hbL.cell (p := ⟨w1.heap.size, 1, none⟩) hz2).trans y1, (hbL.cell (p := ⟨w1.heap.size, 2, none⟩) hz2).trans y2, (hbL.cell (p := ⟨w1.heap.size, 3, none⟩) hz2).trans y3⟩)
      refine tk 0 ⟨some 39, .move (.tmp 0), 38, "ref.go:50", #[], none⟩ ?_; try simp only [Act.put, pz1, pz2, pz3]
      refine tk 1 ⟨some 40, .move (.tmp 5), 3, "ref.go:50", #[], none⟩ ?_; try simp only [Act.put, pz1, pz2, pz3]
      refine tk 2 ⟨some 41, .slice 38 (.tmp 39) none (some (.tmp 40)) none, 38, "ref.go:50", #[⟨0, .data⟩, ⟨1, .data⟩], none⟩ ?_; try simp only [Act.put, pz1, pz2, pz3]
      refine tk 3 ⟨some 42, .load 40 (.tmp 7), 40, "ref.go:50", #[], none⟩ ?_; try simp only [Act.put, pz1, pz2, pz3]
      refine wpAnyH_ready (rs := [4]) (by kernel_rfl) (by simp) ?_
      refine AllReadyH.cons (o := ⟨some 43, .call { callee := .value (.func 28), args := #[.tmp 41, .tmp 42], argTypes := #[38, 40] }, 73, "ref.go:50", #[⟨2, .data⟩, ⟨3, .data⟩], none⟩) rfl (fun K hK => ?_) AllReadyH.nil
      go_simp
      (go_at_call 28; ((with_reducible refine (rlay_no_n (bs.take n) n HLT.out _ _ _ _ _ _ _ HT2.out (by have := HLT.out; omega)).mono ?_); rintro e' wL ⟨rfl, hb⟩; have hbL := btr hHeld.1 hHeld.1.size hb))
      go_wp2_with fail
      refine hK.out _ _ ?_ (fun hNew => ?_)
      · (first | exact ⟨(Below.refl _ _).drew, y0, y1, y2, y3⟩ | assumption | exact ⟨hbL, (hbL.cell (p := ⟨w1.heap.size, 0, none⟩) hz2).trans y0, (hbL.cell (p := ⟨w1.heap.size, 1, none⟩) hz2).trans y1, (hbL.cell (p := ⟨w1.heap.size, 2, none⟩) hz2).trans y2, (hbL.cell (p := ⟨w1.heap.size, 3, none⟩) hz2).trans y3⟩)
      clear hK K hHeld
      have hHeld := hNew
      clear hNew
      try simp only [Act.put, pz1, pz2, pz3]
      refine tk 5 ⟨some 38, .move (.tmp 43), 73, "ref.go:50", #[⟨4, .data⟩], none⟩ ?_; try simp only [Act.put, pz1, pz2, pz3]
      refine tk 6 ⟨some 44, .extract (.tmp 38) 0, 38, "ref.go:50", #[⟨5, .data⟩], none⟩ ?_; try simp only [Act.put, pz1, pz2, pz3]
      refine tk 7 ⟨some 45, .extract (.tmp 38) 1, 3, "ref.go:50", #[⟨5, .data⟩, { on := 8, ground := Ground.gcOnly Departure.lateStores }], none⟩ ?_; try simp only [Act.put, pz1, pz2, pz3]
      refine tk 8 ⟨some 8, .assign (.tmp 44), 38, "ref.go:50", #[⟨6, .data⟩, ⟨4, .chain⟩, ⟨0, .phase⟩, ⟨1, .phase⟩, ⟨2, .phase⟩, ⟨3, .phase⟩, ⟨4, .phase⟩, ⟨5, .phase⟩, ⟨6, .phase⟩, { on := 7, ground := Ground.textOnly Departure.lateStores }], none⟩ ?_; try simp only [Act.put, pz1, pz2, pz3]
      refine tk 9 ⟨some 9, .assign (.tmp 45), 3, "ref.go:50", #[⟨7, .data⟩, ⟨8, .chain⟩, ⟨0, .phase⟩, ⟨1, .phase⟩, ⟨2, .phase⟩, ⟨3, .phase⟩, ⟨4, .phase⟩, ⟨5, .phase⟩, ⟨6, .phase⟩, ⟨7, .phase⟩, ⟨8, .phase⟩], none⟩ ?_; try simp only [Act.put, pz1, pz2, pz3]
      refine wpAnyH_done (by kernel_rfl) ?_ _
      refine NoPanic.normal ?_
      go_wp2_with fail
      go_meet
      exact ⟨hHeld.1, Or.inl ⟨trivial, rfl⟩⟩
    · have hok : LayOk (bs.take n) Ka Pa Sa Ea := by
        have := lay_of_tag HL.out hn1 hn2 h8 (by rw [HK.out, HP.out, HS.out, HE.out]; exact HT.out)
        rwa [HK.out, HP.out, HS.out, HE.out] at this
      have HOK := Lib.hid hok
      clear hok
      refine wp_region_noPanic ?_
      refine wp_region_held_drew (S := (fun w' => Below w2.heap.size w2 w' ∧ w'.cell? ⟨w1.heap.size, 0, none⟩ = some (.int .i64 (Ka : Nat)) ∧ w'.cell? ⟨w1.heap.size, 1, none⟩ = some (.int .i64 (Pa : Nat)) ∧ w'.cell? ⟨w1.heap.size, 2, none⟩ = some (.int .i64 (Sa : Nat)) ∧ w'.cell? ⟨w1.heap.size, 3, none⟩ = some (.int .i64 (Ea : Nat)))) (by kernel_rfl) ?_ (fun hHeld => ?_)
      · (first | exact ⟨(Below.refl _ _).drew, y0, y1, y2, y3⟩ | assumption | exact ⟨hbL, (hbL.cell (p := ⟨w1.heap.size, 0, none⟩) hz2).trans y0, (hbL.cell (p := ⟨w1.heap.size, 1, none⟩) hz2).trans y1, (hbL.cell (p := ⟨w1.heap.size, 2, none⟩) hz2).trans y2, (hbL.cell (p := ⟨w1.heap.size, 3, none⟩) hz2).trans y3⟩)
      refine tk 0 ⟨some 39, .move (.tmp 0), 38, "ref.go:50", #[], none⟩ ?_; try simp only [Act.put, pz1, pz2, pz3]
      refine tk 1 ⟨some 40, .move (.tmp 5), 3, "ref.go:50", #[], none⟩ ?_; try simp only [Act.put, pz1, pz2, pz3]
      refine tk 2 ⟨some 41, .slice 38 (.tmp 39) none (some (.tmp 40)) none, 38, "ref.go:50", #[⟨0, .data⟩, ⟨1, .data⟩], none⟩ ?_; try simp only [Act.put, pz1, pz2, pz3]
      refine tk 3 ⟨some 42, .load 40 (.tmp 7), 40, "ref.go:50", #[], none⟩ ?_; try simp only [Act.put, pz1, pz2, pz3]
      refine wpAnyH_ready (rs := [4]) (by kernel_rfl) (by simp) ?_
      refine AllReadyH.cons (o := ⟨some 43, .call { callee := .value (.func 28), args := #[.tmp 41, .tmp 42], argTypes := #[38, 40] }, 73, "ref.go:50", #[⟨2, .data⟩, ⟨3, .data⟩], none⟩) rfl (fun K hK => ?_) AllReadyH.nil
      go_simp
      (go_at_call 28; ((with_reducible refine (rlay_yes_n (bs.take n) n HLT.out (some ⟨b, o, none⟩) _ _ _ _ _ _ (HD2.next hHeld.1) HOK.out).mono ?_); rintro e' wL ⟨A', c', rfl, SLA', hb⟩; have hbL := btr hHeld.1 hHeld.1.size hb))
      go_wp2_with fail
      refine hK.out _ _ ?_ (fun hNew => ?_)
      · (first | exact ⟨(Below.refl _ _).drew, y0, y1, y2, y3⟩ | assumption | exact ⟨hbL, (hbL.cell (p := ⟨w1.heap.size, 0, none⟩) hz2).trans y0, (hbL.cell (p := ⟨w1.heap.size, 1, none⟩) hz2).trans y1, (hbL.cell (p := ⟨w1.heap.size, 2, none⟩) hz2).trans y2, (hbL.cell (p := ⟨w1.heap.size, 3, none⟩) hz2).trans y3⟩)
      clear hK K hHeld
      have hHeld := hNew
      clear hNew
      try simp only [Act.put, pz1, pz2, pz3]
      refine tk 5 ⟨some 38, .move (.tmp 43), 73, "ref.go:50", #[⟨4, .data⟩], none⟩ ?_; try simp only [Act.put, pz1, pz2, pz3]
      refine tk 6 ⟨some 44, .extract (.tmp 38) 0, 38, "ref.go:50", #[⟨5, .data⟩], none⟩ ?_; try simp only [Act.put, pz1, pz2, pz3]
      refine tk 7 ⟨some 45, .extract (.tmp 38) 1, 3, "ref.go:50", #[⟨5, .data⟩, { on := 8, ground := Ground.gcOnly Departure.lateStores }], none⟩ ?_; try simp only [Act.put, pz1, pz2, pz3]
      refine tk 8 ⟨some 8, .assign (.tmp 44), 38, "ref.go:50", #[⟨6, .data⟩, ⟨4, .chain⟩, ⟨0, .phase⟩, ⟨1, .phase⟩, ⟨2, .phase⟩, ⟨3, .phase⟩, ⟨4, .phase⟩, ⟨5, .phase⟩, ⟨6, .phase⟩, { on := 7, ground := Ground.textOnly Departure.lateStores }], none⟩ ?_; try simp only [Act.put, pz1, pz2, pz3]
      refine tk 9 ⟨some 9, .assign (.tmp 45), 3, "ref.go:50", #[⟨7, .data⟩, ⟨8, .chain⟩, ⟨0, .phase⟩, ⟨1, .phase⟩, ⟨2, .phase⟩, ⟨3, .phase⟩, ⟨4, .phase⟩, ⟨5, .phase⟩, ⟨6, .phase⟩, ⟨7, .phase⟩, ⟨8, .phase⟩], none⟩ ?_; try simp only [Act.put, pz1, pz2, pz3]
      refine wpAnyH_done (by kernel_rfl) ?_ _
      refine NoPanic.normal ?_
      go_wp2_with fail
      go_meet
      exact ⟨hHeld.1, Or.inr ⟨trivial, rfl, A', c', rfl, SLA'⟩⟩
  case rest =>
  obtain ⟨HB3, hcase⟩ := hcut
  have HCS := Lib.hid hcase
  clear hcase HD2
  obtain ⟨w3, rfl⟩ : ∃ W : World, W = wc := ⟨_, rfl⟩
  have H3 := H2.next HB3
  have HG3 := HG2.below HB3 hz2
  have HZ3 := HZ2.below HB3 hzc
  have HBB := btr HBA HBA.size HB3
  have hz3 : w1.heap.size < w3.heap.size := by have := HB3.size; omega
  have hzd : w.heap.size < w3.heap.size := by omega
  clear y0 y1 y2 y3 HG2 HZ2 HBA H2 HB3 HB2 hz2 hzc
  go_upto_region 7 with fail
  go_cut [54] (fun v wx => v = .bool r ∧ wx = w3)
  case first =>
    rcases HCS.out with ⟨htg, rfl⟩ | ⟨htg, rfl, A', c', rfl, SR⟩
    · have hrf : r = false := by rw [← hR.out, HT.out, htg]; rfl
      subst hrf
      clear htg
      go_wp2
      go_meet
      exact ⟨rfl, rfl⟩
    · have hrt : r = decide (rawB (bs.take n) Ka Pa Sa Ea = bs) := by rw [← hR.out, HT.out, htg, Bool.true_and]
      have hrl := rawB_len (bs.take n) Ka Pa Sa Ea
      rw [HLT.out] at hrl
      have hok : LayOk (bs.take n) Ka Pa Sa Ea := by
        have := lay_of_tag HL.out hn1 hn2 h8 (by rw [HK.out, HP.out, HS.out, HE.out, HT.out, htg])
        rwa [HK.out, HP.out, HS.out, HE.out] at this
      have hr8 : Bytes8 (rawB (bs.take n) Ka Pa Sa Ea) := by
        obtain ⟨_, _, _, _, _, _, _, _, h9⟩ := hok
        exact rawB_8 h9 (by omega)
      obtain ⟨RAW, hRAW⟩ : ∃ R, rawB (bs.take n) Ka Pa Sa Ea = R := ⟨_, rfl⟩
      rw [hRAW] at hrt SR hrl hr8
      obtain ⟨bA, oA, rfl, -, -⟩ := SR.at_ (by rw [List.length_map]; omega)
      have v1 := conv_run RAW _ bA oA (n + 16) c' w3 SR hrl
      have v2 := conv_run bs _ b o (n + 16) c w3 H3 HL.out
      have hrs := hrt.trans (strB_eq hr8 h8).symm
      have HRS := Lib.hid hrs
      clear hrt hrl hok hr8 hRAW htg hrs HT hR
      go_wp2
      go_meet
      exact ⟨congrArg Value.bool HRS.out.symm, rfl⟩
  case rest =>
  clear HCS HT
  obtain ⟨rfl, rfl⟩ := hcut
  have HZF := HZ3.free
  have z0 := HZ3.cell_ 0
  have z1 := HZ3.cell_ 1
  have z2 := HZ3.cell_ 2
  have z3 := HZ3.cell_ 3
  simp at z0 z1 z2 z3
  cases r
  · clear HG3 hR HLT HK HP HS HE
    have HZW := st4_blk HZ3 (.int .i64 0) (.int .i64 0) (.int .i64 0) (.int .i64 0)
    have HBW := st4_below HBB (Nat.le_refl _) (.int .i64 0) (.int .i64 0) (.int .i64 0) (.int .i64 0)
    have FIN : ∀ (wz : World), wz = st4 wc w.heap.size (.int .i64 0) (.int .i64 0) (.int .i64 0) (.int .i64 0) → Below w.heap.size w wz ∧ wz.cell? ⟨w.heap.size, 0, none⟩ = some (.int .i64 0) ∧ wz.cell? ⟨w.heap.size, 1, none⟩ = some (.int .i64 0) ∧ wz.cell? ⟨w.heap.size, 2, none⟩ = some (.int .i64 0) ∧ wz.cell? ⟨w.heap.size, 3, none⟩ = some (.int .i64 0) := fun wz hw => by
      rw [hw]
      exact ⟨HBW, HZW.cell_ 0, HZW.cell_ 1, HZW.cell_ 2, HZW.cell_ 3⟩
    clear HZW HBW HBB
    go_wp2_with fail
    go_loop [10] (fun i => ∃ k : Nat, k ≤ n + 16 ∧ i = .int .i64 k ∧ Hid ((bs.take k).all (fun b => b == 255) = true)) (fun i => n + 16 - (intOf i).toNat)
    case atStart => exact ⟨0, Nat.zero_le _, rfl, Lib.hid (by simp)⟩
    case round =>
      obtain ⟨k, hk, rfl, H0⟩ := hrel
      by_cases hlt : k < n + 16
      · obtain ⟨b1, o1, hA1, l1, q1⟩ := H3.at_ (by rw [List.length_map]; have := HL.out; omega)
        cases hA1
        have hkl : k < bs.length := by have := HL.out; omega
        have hr := all_take (p := fun b => b == 255) hkl
        have hm := List.getElem_mem hkl
        obtain ⟨x, hx⟩ : ∃ x, bs[k] = x := ⟨_, rfl⟩
        rw [hx] at hr hm
        have x1 : wc.cell? ⟨b, o + k, none⟩ = some (.int .u8 (x : Int)) := by rw [← hx]; exact q1 k _ (by simp [hkl, byteV])
        have HR := Lib.hid (hr.trans (by rw [H0.out, Bool.true_and]))
        have j0 : (0 : Int) ≤ (k : Int) := by omega
        have j1 : (k : Int) < (n : Int) + 16 := by omega
        clear q1 hx hr hkl
        by_cases he : x = 255
        · have t1 : ((x : Int) != 255) = false := by simp; omega
          have hn : (bs.take (k + 1)).all (fun b => b == 255) = true := HR.out.trans (by simpa using he)
          have HN := Lib.hid hn
          clear hn he hm
          go_wp2
          go_round
          case rel => exact ⟨k + 1, by omega, by go_num, HN⟩
          case measure => simp [intOf]; omega
        · have t1 : ((x : Int) != 255) = true := by simp; omega
          have hf : blankB bs = false := by
            unfold blankB
            rw [List.all_eq_false]
            exact ⟨x, hm, by simpa using he⟩
          have hs2 : st = 2 := by rw [← HST.out, hf]; rfl
          subst hs2
          clear hf he hm
          go_wp2
          obtain ⟨HBW, r0, r1, r2, r3⟩ := FIN _ rfl
          change bodyPost _ _ _ _ _ (st4 wc w.heap.size (.int .i64 0) (.int .i64 0) (.int .i64 0) (.int .i64 0))
          generalize st4 wc w.heap.size (.int .i64 0) (.int .i64 0) (.int .i64 0) (.int .i64 0) = wz at HBW r0 r1 r2 r3 ⊢
          exact bodyPost_ret (v := .tuple #[.slice none 0 0, .agg #[.int .i64 0, .int .i64 0, .int .i64 0, .int .i64 0], .int .i64 2]) (by simp [results, Try.results36, go_sem, r0, r1, r2, r3]) rfl ⟨rfl, HBW⟩
      · have j1 : ¬ (k : Int) < (n : Int) + 16 := by omega
        have hkk : k = n + 16 := by omega
        have hf : blankB bs = true := by
          have := H0.out
          rwa [hkk, ← HL.out, List.take_length] at this
        have hs2 : st = 0 := by rw [← HST.out, hf]; rfl
        subst hs2
        clear hf hkk
        go_wp2
        obtain ⟨HBW, r0, r1, r2, r3⟩ := FIN _ rfl
        change bodyPost _ _ _ _ _ (st4 wc w.heap.size (.int .i64 0) (.int .i64 0) (.int .i64 0) (.int .i64 0))
        generalize st4 wc w.heap.size (.int .i64 0) (.int .i64 0) (.int .i64 0) (.int .i64 0) = wz at HBW r0 r1 r2 r3 ⊢
        exact bodyPost_ret (v := .tuple #[.slice none 0 0, .agg #[.int .i64 0, .int .i64 0, .int .i64 0, .int .i64 0], .int .i64 0]) (by simp [results, Try.results36, go_sem, r0, r1, r2, r3]) rfl ⟨rfl, HBW⟩
  · have y0 := HG3.cell_ 0
    have y1 := HG3.cell_ 1
    have y2 := HG3.cell_ 2
    have y3 := HG3.cell_ 3
    simp at y0 y1 y2 y3
    have SD3 : Sl wc wc.heap.size (some ⟨b, o, none⟩) ((bs.take n).map byteV) := by rw [List.map_take]; exact sl_take H3 n
    obtain ⟨w3, rfl⟩ : ∃ W : World, W = wc := ⟨_, rfl⟩
    have HC := HC2.out
    clear hR HK HP HS HE H3
    go_upto_region 8 with fail
    refine wp_region_noPanic ?_
    refine wp_region_held_drew (S := (fun w' => Below w.heap.size w w' ∧ w'.cell? ⟨w1.heap.size, 0, none⟩ = some (.int .i64 (Ka : Nat)) ∧ w'.cell? ⟨w1.heap.size, 1, none⟩ = some (.int .i64 (Pa : Nat)) ∧ w'.cell? ⟨w1.heap.size, 2, none⟩ = some (.int .i64 (Sa : Nat)) ∧ w'.cell? ⟨w1.heap.size, 3, none⟩ = some (.int .i64 (Ea : Nat)))) (by kernel_rfl) ?_ (fun hHeld => ?_)
    · (first | assumption | exact ⟨HBB.drew, y0, y1, y2, y3⟩)
    refine tk 0 ⟨some 55, .move (.tmp 0), 38, "ref.go:52", #[], none⟩ ?_; try simp only [Act.put, pz1, pz2, pz3]
    refine tk 1 ⟨some 56, .move (.tmp 5), 3, "ref.go:52", #[], none⟩ ?_; try simp only [Act.put, pz1, pz2, pz3]
    refine tk 2 ⟨some 57, .slice 38 (.tmp 55) none (some (.tmp 56)) none, 38, "ref.go:52", #[⟨0, .data⟩, ⟨1, .data⟩], none⟩ ?_; try simp only [Act.put, pz1, pz2, pz3]
    refine tk 4 ⟨some 59, .load 40 (.tmp 7), 40, "ref.go:52", #[{ on := 5, ground := Ground.gcOnly Departure.lateStores }], none⟩ ?_; try simp only [Act.put, pz1, pz2, pz3]
    refine wpAnyH_ready (rs := [3]) (by kernel_rfl) (by simp) ?_
    refine AllReadyH.cons (o := ⟨some 58, .call { callee := .builtin .append, args := #[.const (.slice none 0 0), .tmp 57], argTypes := #[38, 38] }, 38, "ref.go:52", #[⟨2, .data⟩], none⟩) rfl (fun K hK => ?_) AllReadyH.nil
    obtain ⟨ti0, hi, hz0, hz1, hz2⟩ := info_parts infoByte
    refine step_app _ rfl (.const (.slice none 0 0)) (.tmp 57) _ rfl w3.heap.size 5 ti0 _ 1 1 Try.underlying38 hi hz0 hz1 hz2 rfl (by decide) (.slice none 0 0) 0 [] rfl (World.ownsRow_nil _ _ _ _) (some ⟨b, o, none⟩) n _ ((bs.take n).map byteV) rfl (Rd.of_sl (SD3.below ((Below.refl w3.heap.size w3).drew)) (by rw [List.length_map]; exact HLT.out)) (oneB _) (by unfold maxLen; omega) (by omega) (Nat.le_refl _) ?_
    intro s5 w5 ho5 hg5 _
    clear hi hz0 hz1 hz2
    have HX := ((Below.refl w3.heap.size w3).drew).trans (below_app (Nat.le_refl _) (Nat.le_refl _) (World.ownsRow_nil _ w3.heap.size 5 1) hg5)
    replace ho5 := own_len (Nat.zero_add n) ho5
    rw [List.nil_append] at ho5
    have HZ5 := HZ3.below HX hzd
    have HG5 := HG3.below HX hz3
    clear z0 z1 z2 z3 HZF
    have HZF := HZ5.free
    have z0 := HZ5.cell_ 0
    have z1 := HZ5.cell_ 1
    have z2 := HZ5.cell_ 2
    have z3 := HZ5.cell_ 3
    simp at z0 z1 z2 z3
    have HK5 := (show Below w.heap.size w w5 ∧ w5.cell? ⟨w1.heap.size, 0, none⟩ = some (.int .i64 (Ka : Nat)) ∧ w5.cell? ⟨w1.heap.size, 1, none⟩ = some (.int .i64 (Pa : Nat)) ∧ w5.cell? ⟨w1.heap.size, 2, none⟩ = some (.int .i64 (Sa : Nat)) ∧ w5.cell? ⟨w1.heap.size, 3, none⟩ = some (.int .i64 (Ea : Nat)) from ⟨btr HBB HBB.size HX, (HX.cell (p := ⟨w1.heap.size, 0, none⟩) hz3).trans y0, (HX.cell (p := ⟨w1.heap.size, 1, none⟩) hz3).trans y1, (HX.cell (p := ⟨w1.heap.size, 2, none⟩) hz3).trans y2, (HX.cell (p := ⟨w1.heap.size, 3, none⟩) hz3).trans y3⟩)
    refine hK.out _ _ ?_ (fun hNew => ?_)
    · (first | assumption | exact ⟨HBB.drew, y0, y1, y2, y3⟩)
    clear hK K hHeld
    have hHeld := hNew
    clear hNew
    try simp only [Act.put, pz1, pz2, pz3]
    refine tk 5 ⟨some 2, .assign (.tmp 58), 38, "ref.go:52", #[⟨3, .data⟩, ⟨3, .chain⟩, ⟨0, .phase⟩, ⟨1, .phase⟩, ⟨2, .phase⟩, ⟨3, .phase⟩, { on := 4, ground := Ground.textOnly Departure.lateStores }], none⟩ ?_; try simp only [Act.put, pz1, pz2, pz3]
    refine wpAnyH_ready (rs := [6]) (by kernel_rfl) (by simp) ?_
    refine AllReadyH.cons (o := ⟨none, .store 40 (.tmp 3) (.tmp 59), 0, "ref.go:52", #[⟨4, .data⟩, ⟨5, .chain⟩, ⟨0, .phase⟩, ⟨1, .phase⟩, ⟨2, .phase⟩, ⟨3, .phase⟩, ⟨4, .phase⟩, ⟨5, .phase⟩], none⟩) rfl (fun K hK => ?_) AllReadyH.nil
    go_simp
    have HW := st4_blk HZ5 (.int .i64 (Ka : Nat)) (.int .i64 (Pa : Nat)) (.int .i64 (Sa : Nat)) (.int .i64 (Ea : Nat))
    have HBW := st4_below (btr HBB HBB.size HX) (Nat.le_refl _) (.int .i64 (Ka : Nat)) (.int .i64 (Pa : Nat)) (.int .i64 (Sa : Nat)) (.int .i64 (Ea : Nat))
    have HOW := st4_own (g := w.heap.size) (own_mono ho5 (base' := w.heap.size + 1) (by omega)) (by omega) (.int .i64 (Ka : Nat)) (.int .i64 (Pa : Nat)) (.int .i64 (Sa : Nat)) (.int .i64 (Ea : Nat))
    have HQ := st4_far HG5 (show w1.heap.size ≠ w.heap.size by omega) (.int .i64 (Ka : Nat)) (.int .i64 (Pa : Nat)) (.int .i64 (Sa : Nat)) (.int .i64 (Ea : Nat))
    change K _ (st4 w5 w.heap.size (.int .i64 (Ka : Nat)) (.int .i64 (Pa : Nat)) (.int .i64 (Sa : Nat)) (.int .i64 (Ea : Nat)))
    generalize st4 w5 w.heap.size (.int .i64 (Ka : Nat)) (.int .i64 (Pa : Nat)) (.int .i64 (Sa : Nat)) (.int .i64 (Ea : Nat)) = w6 at HW HBW HOW HQ ⊢
    have HK6 := (show Below w.heap.size w w6 ∧ w6.cell? ⟨w1.heap.size, 0, none⟩ = some (.int .i64 (Ka : Nat)) ∧ w6.cell? ⟨w1.heap.size, 1, none⟩ = some (.int .i64 (Pa : Nat)) ∧ w6.cell? ⟨w1.heap.size, 2, none⟩ = some (.int .i64 (Sa : Nat)) ∧ w6.cell? ⟨w1.heap.size, 3, none⟩ = some (.int .i64 (Ea : Nat)) from ⟨HBW, HQ.cell_ 0, HQ.cell_ 1, HQ.cell_ 2, HQ.cell_ 3⟩)
    refine hK.out _ _ ?_ (fun hNew => ?_)
    · (first | assumption | exact ⟨HBB.drew, y0, y1, y2, y3⟩)
    clear hK K hHeld
    have hHeld := hNew
    clear hNew
    try simp only [Act.put, pz1, pz2, pz3]
    refine tk 7 ⟨some 4, .assign (.const (.int .i64 1)), 3, "ref.go:52", #[⟨6, .chain⟩, ⟨0, .phase⟩, ⟨1, .phase⟩, ⟨2, .phase⟩, ⟨3, .phase⟩, ⟨4, .phase⟩, ⟨5, .phase⟩, ⟨6, .phase⟩], none⟩ ?_; try simp only [Act.put, pz1, pz2, pz3]
    refine wpAnyH_done (by kernel_rfl) ?_ _
    refine NoPanic.normal ?_
    go_wp2
    have r0 := HW.cell_ 0
    have r1 := HW.cell_ 1
    have r2 := HW.cell_ 2
    have r3 := HW.cell_ 3
    simp at r0 r1 r2 r3
    exact bodyPost_ret (v := .tuple #[s5, .agg #[.int .i64 (Ka : Nat), .int .i64 (Pa : Nat), .int .i64 (Sa : Nat), .int .i64 (Ea : Nat)], .int .i64 1]) (by simp [results, Try.results36, go_sem, r0, r1, r2, r3]) rfl ⟨⟨s5, rfl, (by first | exact HOW | (rw [List.map_take] at HOW; exact HOW) | simpa using HOW)⟩, HBW⟩
end Go.Proofs.Ytcpniplfkillbaa
namespace Go.Proofs.Ytcpniplfkillbaa
open Go.ChangeShapes Go.WideShapes Go.ChangeAt Go.RowKit
attribute [local go_sem ↓] Go.wp_at_zero Go.wp_at_succ
end Go.Proofs.Ytcpniplfkillbaa
namespace Go.Proofs.Ytcpniplfkillbaa
open Go.ChangeShapes Go.WideShapes Go.ChangeAt Go.RowKit
attribute [local go_sem ↓] Go.wp_at_zero Go.wp_at_succ
end Go.Proofs.Ytcpniplfkillbaa
namespace Go.Proofs.Ytcpniplfkillbaa
open Go.ChangeShapes Go.WideShapes Go.ChangeAt Go.RowKit
attribute [local go_sem ↓] Go.wp_at_zero Go.wp_at_succ
structure OkRead (bs : List Nat) (N n : Nat) (D : List Nat) (K P S E : Nat) : Prop where
  h8 : Bytes8 bs
  hl : bs.length = n + 16
  hN : n + 16 = N
  hn1 : 24 ≤ n
  hn2 : n ≤ 64
  hD : bs.take n = D
  hK : tK (bs.drop n) = K
  hP : tP (bs.drop n) = P
  hS : tS (bs.drop n) = S
  hE : tE (bs.drop n) = E
  hst : readSt bs = 1
theorem st_ok {bs : List Nat} {n : Nat} (hl : bs.length = n + 16) (h : readSt bs = 1) : 24 ≤ n ∧ n ≤ 64 ∧ blankB bs = false ∧ tagB (tK (bs.drop n)) (tP (bs.drop n)) (tS (bs.drop n)) (tE (bs.drop n)) = true ∧ soundB bs n = true := by
  unfold readSt at h
  by_cases hr : 40 ≤ bs.length ∧ bs.length ≤ 80
  · rw [if_pos hr, show bs.length - 16 = n by omega] at h
    by_cases hb : blankB bs = true
    · rw [if_pos hb] at h
      cases h
    · rw [if_neg hb] at h
      split at h
      · rename_i h2
        exact ⟨by omega, by omega, by simpa using hb, h2.1, h2.2⟩
      · cases h
  · rw [if_neg hr] at h
    cases h
theorem ok_split {bs : List Nat} (h8 : Bytes8 bs) (h : readSt bs = 1) : ∃ n D K P S E, OkRead bs bs.length n D K P S E := by
  have hr : 40 ≤ bs.length ∧ bs.length ≤ 80 := by
    by_cases hr : 40 ≤ bs.length ∧ bs.length ≤ 80
    · exact hr
    · unfold readSt at h
      rw [if_neg hr] at h
      cases h
  obtain ⟨n, hn⟩ : ∃ n, bs.length = n + 16 := ⟨bs.length - 16, by omega⟩
  have q := st_ok hn h
  exact ⟨n, _, _, _, _, _, h8, hn, hn.symm, q.1, q.2.1, rfl, rfl, rfl, rfl, rfl, h⟩
theorem read_okT {bs D : List Nat} {N n Ka Pa Sa Ea : Nat} (hf : OkRead bs N n D Ka Pa Sa Ea) (A : Option Addr) (c : Nat) (w : World) (h1 : Sl w w.heap.size A (bs.map byteV)) (hc : N ≤ c) (hc2 : c ≤ maxLen) :
    Calls Try.prog 64 #[.slice A N c] w fun e' w' => ∃ sv, e' = .returned (.tuple #[sv, .agg #[.int .i64 (Ka : Nat), .int .i64 (Pa : Nat), .int .i64 (Sa : Nat), .int .i64 (Ea : Nat)], .int .i64 1]) ∧ w'.ownsRow (w.heap.size + 1) 5 1 sv n (D.map byteV) ∧ Below w.heap.size w w' := by
  obtain ⟨h8, hl, hN, hn1, hn2, hD, hK, hP, hS, hE, hst⟩ := hf
  obtain ⟨b, o, rfl, lb, q⟩ := h1.at_ (by simp; omega)
  clear q lb
  subst hN hD hK hP hS hE
  have q := st_ok hl hst
  exact (read_in bs n b o c w h1 h8 hl hn1 hn2 hc hc2).2.2 q.2.2.1 q.2.2.2.1 q.2.2.2.2
theorem rread_okT {bs D : List Nat} {N n Ka Pa Sa Ea : Nat} (hf : OkRead bs N n D Ka Pa Sa Ea) (A : Option Addr) (c : Nat) (w : World) (h1 : Sl w w.heap.size A (bs.map byteV)) (hc : N ≤ c) (hc2 : c ≤ maxLen) :
    Calls Try.prog 36 #[.slice A N c] w fun e' w' => ∃ sv, e' = .returned (.tuple #[sv, .agg #[.int .i64 (Ka : Nat), .int .i64 (Pa : Nat), .int .i64 (Sa : Nat), .int .i64 (Ea : Nat)], .int .i64 1]) ∧ w'.ownsRow (w.heap.size + 1) 5 1 sv n (D.map byteV) ∧ Below w.heap.size w w' := by
  obtain ⟨h8, hl, hN, hn1, hn2, hD, hK, hP, hS, hE, hst⟩ := hf
  obtain ⟨b, o, rfl, lb, q⟩ := h1.at_ (by simp; omega)
  clear q lb
  subst hN hD hK hP hS hE
  have hr : (tagB (tK (bs.drop n)) (tP (bs.drop n)) (tS (bs.drop n)) (tE (bs.drop n)) && decide (rawB (bs.take n) (tK (bs.drop n)) (tP (bs.drop n)) (tS (bs.drop n)) (tE (bs.drop n)) = bs)) = true := by
    have q := st_ok hl hst
    rw [q.2.2.2.1, Bool.true_and, decide_eq_true_eq]
    exact sound_raw hl h8 q.2.2.2.2
  refine (rread_in bs n b o c w h1 h8 hl hn1 hn2 hc hc2 _ _ _ _ rfl rfl rfl rfl true hr _ rfl).mono fun e' w' h => ?_
  obtain ⟨sv, he, ho⟩ := h.2.1 rfl
  exact ⟨sv, he, ho, h.2.2⟩
theorem rread_bad (bs : List Nat) (N : Nat) (hN : bs.length = N) (A : Option Addr) (c : Nat) (w : World) (h1 : Sl w w.heap.size A (bs.map byteV)) (h8 : Bytes8 bs) (hc : N ≤ c) (hc2 : c ≤ maxLen) (n1 : N ≤ 1000000) (st : Nat) (hst : readSt bs = st) (hne : st ≠ 1) :
    Calls Try.prog 36 #[.slice A N c] w fun e' w' => e' = .returned (.tuple #[.slice none 0 0, .agg #[.int .i64 0, .int .i64 0, .int .i64 0, .int .i64 0], .int .i64 st]) ∧ Below w.heap.size w w' := by
  subst hN
  by_cases hr : 40 ≤ bs.length ∧ bs.length ≤ 80
  · obtain ⟨b, o, rfl, lb, q⟩ := h1.at_ (by simp; omega)
    obtain ⟨n, hn⟩ : ∃ n, bs.length = n + 16 := ⟨bs.length - 16, by omega⟩
    clear q lb
    have hb : (tagB (tK (bs.drop n)) (tP (bs.drop n)) (tS (bs.drop n)) (tE (bs.drop n)) && decide (rawB (bs.take n) (tK (bs.drop n)) (tP (bs.drop n)) (tS (bs.drop n)) (tE (bs.drop n)) = bs)) = false := by
      rw [Bool.and_eq_false_iff, decide_eq_false_iff_not]
      by_cases ht : tagB (tK (bs.drop n)) (tP (bs.drop n)) (tS (bs.drop n)) (tE (bs.drop n)) = true
      · refine Or.inr fun he => hne ?_
        rw [← hst]
        exact st_split hn (by omega) (by omega) h8 ht he
      · exact Or.inl (by simpa using ht)
    have hs := st_other hn (by omega) (by omega) h8 (by
      rw [Bool.and_eq_false_iff, decide_eq_false_iff_not] at hb
      exact hb)
    rw [hn] at hc ⊢
    refine (rread_in bs n b o c w h1 h8 hn (by omega) (by omega) hc hc2 _ _ _ _ rfl rfl rfl rfl false hb (st : Int) ?_).mono fun e' w' h => ⟨h.1 rfl, h.2.2⟩
    rw [← hst, hs]
    split <;> rfl
  · have : st = 2 := by
      rw [← hst]
      unfold readSt
      rw [if_neg hr]
    subst this
    exact rread_len bs A c w hr n1
end Go.Proofs.Ytcpniplfkillbaa
namespace Go.Proofs.Ytcpniplfkillbaa
open Go.ChangeShapes Go.WideShapes Go.ChangeAt Go.RowKit
def lkD (bs : List Nat) : List Nat := if readSt bs = 1 then bs.take (bs.length - 16) else []
def lkT (bs : List Nat) : Nat × Nat × Nat × Nat := if readSt bs = 1 then (tK (bs.drop (bs.length - 16)), tP (bs.drop (bs.length - 16)), tS (bs.drop (bs.length - 16)), tE (bs.drop (bs.length - 16))) else (0, 0, 0, 0)
structure Lk (bs D : List Nat) (n K P S E st : Nat) : Prop where
  d : lkD bs = D
  n : D.length = n
  t : lkT bs = (K, P, S, E)
  st : readSt bs = st
theorem Lk.ex (bs : List Nat) : ∃ D n K P S E st, Lk bs D n K P S E st := ⟨_, _, _, _, _, _, _, rfl, rfl, rfl, rfl⟩
theorem Lk.no {bs D : List Nat} {n K P S E st : Nat} (h : Lk bs D n K P S E st) (h1 : st ≠ 1) : D = [] ∧ n = 0 ∧ K = 0 ∧ P = 0 ∧ S = 0 ∧ E = 0 := by
  obtain ⟨rfl, rfl, ht, rfl⟩ := h
  unfold lkT at ht
  unfold lkD
  rw [if_neg h1] at ht ⊢
  cases ht
  exact ⟨rfl, rfl, rfl, rfl, rfl, rfl⟩
theorem Lk.yes {bs D : List Nat} {n K P S E st : Nat} (h : Lk bs D n K P S E st) (h1 : st = 1) (h8 : Bytes8 bs) : OkRead bs bs.length n D K P S E := by
  obtain ⟨rfl, rfl, ht, hst⟩ := h
  rw [h1] at hst
  obtain ⟨n, D, K', P', S', E', hok⟩ := ok_split h8 hst
  have hl := hok.hl
  have e1 : bs.length - 16 = n := by omega
  unfold lkT at ht
  rw [if_pos hst, e1] at ht
  cases ht
  have e2 : lkD bs = D := by unfold lkD; rw [if_pos hst, e1, hok.hD]
  rw [e2]
  have e3 : D.length = n := by rw [← hok.hD, List.length_take]; omega
  rw [e3]
  exact ⟨h8, hl, rfl.trans hok.hN, hok.hn1, hok.hn2, hok.hD, rfl, rfl, rfl, rfl, hst⟩
theorem st_le (bs : List Nat) : readSt bs ≤ 2 := by
  unfold readSt
  split
  · split
    · omega
    · split <;> omega
  · omega
end Go.Proofs.Ytcpniplfkillbaa
namespace Go.Proofs.Ytcpniplfkillbaa
open Go.ChangeShapes Go.WideShapes Go.ChangeAt Go.RowKit
attribute [local go_sem ↓] Go.wp_at_zero Go.wp_at_succ
theorem tread_any (bs D : List Nat) (n K P S E st : Nat) (hk : Lk bs D n K P S E st) (N : Nat) (hN : bs.length = N) (A : Option Addr) (c : Nat) (w : World) (h1 : Sl w w.heap.size A (bs.map byteV)) (h8 : Bytes8 bs) (hc : N ≤ c) (hc2 : c ≤ maxLen) (n1 : N ≤ 1000000) :
    Calls Try.prog 64 #[.slice A N c] w fun e' w' => (∃ A' c', e' = .returned (.tuple #[.slice A' n c', .agg #[.int .i64 (K : Nat), .int .i64 (P : Nat), .int .i64 (S : Nat), .int .i64 (E : Nat)], .int .i64 (st : Nat)]) ∧ w'.ownsRow w.heap.size 5 1 (.slice A' n c') n (D.map byteV)) ∧ Below w.heap.size w w' := by
  by_cases h : st = 1
  · have hq := hk.yes h h8
    rw [hN] at hq
    refine (read_okT hq A c w h1 hc hc2).mono ?_
    rintro e' w' ⟨sv, rfl, ho, hb⟩
    subst h
    refine ⟨?_, hb⟩
    have ho := own_base ho (Nat.le_succ _)
    have ho2 := ho
    rcases ho2.2 with ⟨rfl, h0⟩ | ⟨g, cap, cur, rfl, _⟩
    · subst h0
      exact ⟨none, 0, rfl, ho⟩
    · exact ⟨_, _, rfl, ho⟩
  · obtain ⟨rfl, rfl, rfl, rfl, rfl, rfl⟩ := hk.no h
    refine (read_bad bs N hN A c w h1 h8 hc hc2 n1 st hk.st h).mono ?_
    rintro e' w' ⟨rfl, hb⟩
    exact ⟨⟨none, 0, rfl, World.ownsRow_nil _ _ _ _⟩, hb⟩
end Go.Proofs.Ytcpniplfkillbaa
namespace Go.Proofs.Ytcpniplfkillbaa
open Go.ChangeShapes Go.WideShapes Go.ChangeAt Go.RowKit
theorem rtread_any (bs D : List Nat) (n K P S E st : Nat) (hk : Lk bs D n K P S E st) (N : Nat) (hN : bs.length = N) (A : Option Addr) (c : Nat) (w : World) (h1 : Sl w w.heap.size A (bs.map byteV)) (h8 : Bytes8 bs) (hc : N ≤ c) (hc2 : c ≤ maxLen) (n1 : N ≤ 1000000) :
    Calls Try.prog 36 #[.slice A N c] w fun e' w' => (∃ A' c', e' = .returned (.tuple #[.slice A' n c', .agg #[.int .i64 (K : Nat), .int .i64 (P : Nat), .int .i64 (S : Nat), .int .i64 (E : Nat)], .int .i64 (st : Nat)]) ∧ w'.ownsRow w.heap.size 5 1 (.slice A' n c') n (D.map byteV)) ∧ Below w.heap.size w w' := by
  by_cases h : st = 1
  · have hq := hk.yes h h8
    rw [hN] at hq
    refine (rread_okT hq A c w h1 hc hc2).mono ?_
    rintro e' w' ⟨sv, rfl, ho, hb⟩
    subst h
    refine ⟨?_, hb⟩
    have ho := own_base ho (Nat.le_succ _)
    have ho2 := ho
    rcases ho2.2 with ⟨rfl, h0⟩ | ⟨g, cap, cur, rfl, _⟩
    · subst h0
      exact ⟨none, 0, rfl, ho⟩
    · exact ⟨_, _, rfl, ho⟩
  · obtain ⟨rfl, rfl, rfl, rfl, rfl, rfl⟩ := hk.no h
    refine (rread_bad bs N hN A c w h1 h8 hc hc2 n1 st hk.st h).mono ?_
    rintro e' w' ⟨rfl, hb⟩
    exact ⟨⟨none, 0, rfl, World.ownsRow_nil _ _ _ _⟩, hb⟩
end Go.Proofs.Ytcpniplfkillbaa
namespace Go.Proofs.Ytcpniplfkillbaa
open Go.ChangeShapes Go.WideShapes Go.ChangeAt Go.RowKit
attribute [local go_sem ↓] Go.wp_at_zero Go.wp_at_succ
theorem rpMay_any (a b c d e : Int) (fs : List Flt) (A : Option Addr) (c0 : Nat) (w : World) (h : SlF w w.heap.size A fs) :
    Calls Try.prog 58 #[.agg #[.int .i64 a, .int .i64 b, .int .i64 c, .int .i64 d, .int .i64 e], .slice A fs.length c0] w fun e' w' => e' = .returned (.bool (planMay a b c d e fs)) ∧ Below w.heap.size w w' := by
  cases hm : mayB a b c d e
  · have hr : planMay a b c d e fs = false := planMay_no hm
    rw [hr]
    have Hm := Lib.hid hm
    clear hm hr
    go_enter Try.func58, Try.ntmps58
    go_wp2_with (go_at_call 42; refine (rmay_any _ _ _ _ _ _).mono ?_; rw [Hm.out]; rintro e' w1 ⟨rfl, hb1⟩)
    go_ret
    exact ⟨rfl, below1 hb1⟩
  by_cases hl : 8 < fs.length
  · have hr : planMay a b c d e fs = false := planMay_long hl
    rw [hr]
    have Hm := Lib.hid hm
    clear hm hr
    have g1 : (8 : Int) < (fs.length : Int) := by omega
    go_enter Try.func58, Try.ntmps58
    go_wp2_with (go_at_call 42; refine (rmay_any _ _ _ _ _ _).mono ?_; rw [Hm.out]; rintro e' w1 ⟨rfl, hb1⟩)
    go_ret
    exact ⟨rfl, below1 hb1⟩
  have hr : planMay a b c d e fs = preB a fs fs.length := planMay_pre hm (by omega)
  rw [hr]
  have Hm := Lib.hid hm
  clear hm hr
  have g1 : ¬ (8 : Int) < (fs.length : Int) := by omega
  have h0 := h.next ((Below.refl _ _).alloc (Nat.le_refl _) (.cells #[.int .i64 a, .int .i64 b, .int .i64 c, .int .i64 d, .int .i64 e] 23))
  have hG0 : Blk (w.alloc (.cells #[.int .i64 a, .int .i64 b, .int .i64 c, .int .i64 d, .int .i64 e] 23)) w.heap.size 23 #[.int .i64 a, .int .i64 b, .int .i64 c, .int .i64 d, .int .i64 e] := Blk.new_ w _ _
  go_enter Try.func58, Try.ntmps58
  go_wp2_with (go_at_call 42; refine (rmay_any _ _ _ _ _ _).mono ?_; rw [Hm.out]; rintro e' w1 ⟨rfl, hb1⟩; have H1 := h0.next hb1; have HG := hG0.below hb1 (by simp); have HB := below1 hb1; have hz1 : w.heap.size < w1.heap.size := (by { have := hb1.size; simp at this; omega }); clear hb1 h0 hG0)
  go_loopw [5, 6, 7] (fun i _ _ wr => ∃ k : Nat, k ≤ fs.length ∧ i = .int .i64 k ∧ Hid (preB a fs k = true) ∧ Below w1.heap.size w1 wr) (fun i _ _ _ => fs.length - (intOf i).toNat)
  case atStart => exact ⟨0, Nat.zero_le _, rfl, Lib.hid rfl, Below.refl _ _⟩
  case round =>
    obtain ⟨k, hk, rfl, H0, hBr⟩ := hrel
    have HBr := btr HB HB.size hBr
    by_cases hlt : k < fs.length
    · obtain ⟨b1, o1, rfl, l1, q1⟩ := (H1.below hBr).at_ (by omega)
      obtain ⟨x1, x2, x3⟩ := q1 k fs[k] (by simp [hlt])
      obtain ⟨f, hf⟩ : ∃ f, fs[k] = f := ⟨_, rfl⟩
      rw [hf] at x1 x2 x3
      have hsz := hBr.size
      have hg := HG.below hBr hz1
      have y0 := hg.cell_ 0
      simp at y0
      have l1' : b1 < wr.heap.size := by omega
      have l2' : w.heap.size < wr.heap.size := by omega
      have hs := preB_succ (a := a) hlt hf H0.out
      have HF := Lib.hid hf
      have HS := Lib.hid hs
      clear q1 hf hs hg
      have i0 : (0 : Int) ≤ (k : Int) := by omega
      have i2 : (k : Int) < (fs.length : Int) := by omega
      rcases (by cases hq : (decide (f.blk < 0) : Bool) <;> simp : (decide (f.blk < 0) : Bool) = true ∨ (decide (f.blk < 0) : Bool) = false) with t1 | t1
      · have hm : mayF a f = false := by unfold mayF; rw [t1]; rfl
        have hn : preB a fs (k + 1) = false := by rw [HS.out, hm]; rfl
        have HR := Lib.hid (preB_stop a fs hn fs.length (by omega))
        clear hm hn
        go_wp2
        go_ret
        exact ⟨ret_bool HR.out.symm, HBr.alloc (by omega) _⟩
      · rcases (by cases hq : (decide (a ≤ f.blk) : Bool) <;> simp : (decide (a ≤ f.blk) : Bool) = true ∨ (decide (a ≤ f.blk) : Bool) = false) with t2 | t2
        · have hm : mayF a f = false := by unfold mayF; rw [t1, t2]; rfl
          have hn : preB a fs (k + 1) = false := by rw [HS.out, hm]; rfl
          have HR := Lib.hid (preB_stop a fs hn fs.length (by omega))
          clear hm hn
          go_wp2
          go_ret
          exact ⟨ret_bool HR.out.symm, HBr.alloc (by omega) _⟩
        · rcases (by cases hq : (decide (f.aft < 0) : Bool) <;> simp : (decide (f.aft < 0) : Bool) = true ∨ (decide (f.aft < 0) : Bool) = false) with t3 | t3
          · have hm : mayF a f = false := by unfold mayF; rw [t1, t2, t3]; rfl
            have hn : preB a fs (k + 1) = false := by rw [HS.out, hm]; rfl
            have HR := Lib.hid (preB_stop a fs hn fs.length (by omega))
            clear hm hn
            go_wp2
            go_ret
            exact ⟨ret_bool HR.out.symm, HBr.alloc (by omega) _⟩
          · rcases (by cases hq : (decide (1073741824 < f.aft) : Bool) <;> simp : (decide (1073741824 < f.aft) : Bool) = true ∨ (decide (1073741824 < f.aft) : Bool) = false) with t4 | t4
            · have hm : mayF a f = false := by unfold mayF; rw [t1, t2, t3, t4]; rfl
              have hn : preB a fs (k + 1) = false := by rw [HS.out, hm]; rfl
              have HR := Lib.hid (preB_stop a fs hn fs.length (by omega))
              clear hm hn
              go_wp2
              go_ret
              exact ⟨ret_bool HR.out.symm, HBr.alloc (by omega) _⟩
            · rcases (by cases hq : (f.fac : Bool) <;> simp : f.fac = true ∨ f.fac = false) with t5 | t5
              · rcases (by cases hq : (f.aft == 0 : Bool) <;> simp : (f.aft == 0) = true ∨ (f.aft == 0) = false) with t6 | t6
                · have t7 : (f.aft != 0) = false := by rw [bne, t6]; rfl
                  have hm : mayF a f = true := by unfold mayF; rw [t1, t2, t3, t4, t5, t6]; rfl
                  obtain ⟨wp, rfl⟩ : ∃ wp : World, wp = wr := ⟨_, rfl⟩
                  have hs2 := HS.out.trans (by rw [hm, Bool.true_and] : _ = !namesB (fs.take k) f.blk)
                  have HS2 := Lib.hid hs2
                  clear hm hs2
                  have hBw : Below w.heap.size w (wp.alloc (.cells #[.int .i64 f.blk, .bool true, .int .i64 f.aft] 107)) := HBr.alloc (by omega) _
                  have hBw1 : Below w1.heap.size w1 (wp.alloc (.cells #[.int .i64 f.blk, .bool true, .int .i64 f.aft] 107)) := hBr.alloc (by omega) _
                  go_wp2
                  obtain ⟨wo, hwo⟩ : ∃ wo : World, wo = wp.alloc (.cells #[.int .i64 f.blk, .bool true, .int .i64 f.aft] 107) := ⟨_, rfl⟩
                  have hz2 : wp.heap.size < wo.heap.size := by rw [hwo]; simp
                  have z0 : wo.cell? ⟨wp.heap.size, 0, none⟩ = some (.int .i64 f.blk) := by rw [hwo]; simp
                  rw [← hwo] at hBw hBw1 ⊢
                  clear hwo
                  go_loopw [7] (fun j wq => ∃ m : Nat, m ≤ k ∧ j = .int .i64 m ∧ Hid ((fs.take m).any (fun g => g.blk == f.blk) = false) ∧ Below wo.heap.size wo wq) (fun j _ => k - (intOf j).toNat)
                  case atStart => exact ⟨0, Nat.zero_le _, rfl, Lib.hid (by simp), Below.refl _ _⟩
                  case round =>
                    obtain ⟨m, hmk, rfl, N0, hBq⟩ := hrel
                    have hBq' := btr hBw hBw.size hBq
                    have hBq1 := btr hBw1 hBw1.size hBq
                    by_cases hmlt : m < k
                    · have hml : m < fs.length := by omega
                      obtain ⟨b2, o2, hA2, l2, q2⟩ := (H1.below hBq1).at_ (by omega)
                      cases hA2
                      obtain ⟨v1, v2, v3⟩ := q2 m fs[m] (by simp [hml])
                      obtain ⟨g, hg⟩ : ∃ g, fs[m] = g := ⟨_, rfl⟩
                      rw [hg] at v1 v2 v3
                      have HG2 := Lib.hid hg
                      have u0 := (hBq.cell (p := ⟨wp.heap.size, 0, none⟩) hz2).trans z0
                      have j0 : (0 : Int) ≤ (m : Int) := by omega
                      have j1 : (m : Int) < (fs.length : Int) := by omega
                      clear q2 hg
                      rcases (by cases hq : (g.blk == f.blk : Bool) <;> simp : (g.blk == f.blk) = true ∨ (g.blk == f.blk) = false) with s1 | s1
                      · have hn : preB a fs (k + 1) = false := by
                          rw [HS2.out, namesB, List.any_eq_true.2 ⟨g, by rw [← HG2.out]; exact List.mem_take_iff_getElem.2 ⟨m, by omega, rfl⟩, s1⟩]
                          rfl
                        have HR := Lib.hid (preB_stop a fs hn fs.length (by omega))
                        clear hn
                        go_wp2
                        go_quiet (fail)
                        go_wp2
                        go_ret
                        exact ⟨ret_bool HR.out.symm, below_dn hBq' _⟩
                      · have hr := (any_take (p := fun g => g.blk == f.blk) hml).trans (by rw [N0.out, HG2.out]; simp only [s1, Bool.false_or] : _ = false)
                        have HR := Lib.hid hr
                        clear hr
                        go_wp2
                        go_quiet (fail)
                        go_wp2
                        go_roundw
                        case rel => exact ⟨m + 1, by omega, by go_num, HR, below_dn hBq _⟩
                        case measure => simp [intOf]; omega
                    · have hmk' : m = k := by omega
                      subst hmk'
                      have hn : preB a fs (m + 1) = true := by rw [HS2.out, namesB, N0.out]; rfl
                      have HP := Lib.hid hn
                      clear hn
                      go_wp2
                      go_roundw
                      case rel => exact ⟨m + 1, by omega, by go_num, HP, hBq1⟩
                      case measure => simp [intOf]; omega
                · have t7 : (f.aft != 0) = true := by rw [bne, t6]; rfl
                  have hm : mayF a f = false := by unfold mayF; rw [t1, t2, t3, t4, t5, t6]; rfl
                  have hn : preB a fs (k + 1) = false := by rw [HS.out, hm]; rfl
                  have HR := Lib.hid (preB_stop a fs hn fs.length (by omega))
                  clear hm hn
                  go_wp2
                  go_ret
                  exact ⟨ret_bool HR.out.symm, HBr.alloc (by omega) _⟩
              · have hm : mayF a f = true := by unfold mayF; rw [t1, t2, t3, t4, t5]; rfl
                obtain ⟨wp, rfl⟩ : ∃ wp : World, wp = wr := ⟨_, rfl⟩
                have hs2 := HS.out.trans (by rw [hm, Bool.true_and] : _ = !namesB (fs.take k) f.blk)
                have HS2 := Lib.hid hs2
                clear hm hs2
                have hBw : Below w.heap.size w (wp.alloc (.cells #[.int .i64 f.blk, .bool false, .int .i64 f.aft] 107)) := HBr.alloc (by omega) _
                have hBw1 : Below w1.heap.size w1 (wp.alloc (.cells #[.int .i64 f.blk, .bool false, .int .i64 f.aft] 107)) := hBr.alloc (by omega) _
                go_wp2
                obtain ⟨wo, hwo⟩ : ∃ wo : World, wo = wp.alloc (.cells #[.int .i64 f.blk, .bool false, .int .i64 f.aft] 107) := ⟨_, rfl⟩
                have hz2 : wp.heap.size < wo.heap.size := by rw [hwo]; simp
                have z0 : wo.cell? ⟨wp.heap.size, 0, none⟩ = some (.int .i64 f.blk) := by rw [hwo]; simp
                rw [← hwo] at hBw hBw1 ⊢
                clear hwo
                go_loopw [7] (fun j wq => ∃ m : Nat, m ≤ k ∧ j = .int .i64 m ∧ Hid ((fs.take m).any (fun g => g.blk == f.blk) = false) ∧ Below wo.heap.size wo wq) (fun j _ => k - (intOf j).toNat)
                case atStart => exact ⟨0, Nat.zero_le _, rfl, Lib.hid (by simp), Below.refl _ _⟩
                case round =>
                  obtain ⟨m, hmk, rfl, N0, hBq⟩ := hrel
                  have hBq' := btr hBw hBw.size hBq
                  have hBq1 := btr hBw1 hBw1.size hBq
                  by_cases hmlt : m < k
                  · have hml : m < fs.length := by omega
                    obtain ⟨b2, o2, hA2, l2, q2⟩ := (H1.below hBq1).at_ (by omega)
                    cases hA2
                    obtain ⟨v1, v2, v3⟩ := q2 m fs[m] (by simp [hml])
                    obtain ⟨g, hg⟩ : ∃ g, fs[m] = g := ⟨_, rfl⟩
                    rw [hg] at v1 v2 v3
                    have HG2 := Lib.hid hg
                    have u0 := (hBq.cell (p := ⟨wp.heap.size, 0, none⟩) hz2).trans z0
                    have j0 : (0 : Int) ≤ (m : Int) := by omega
                    have j1 : (m : Int) < (fs.length : Int) := by omega
                    clear q2 hg
                    rcases (by cases hq : (g.blk == f.blk : Bool) <;> simp : (g.blk == f.blk) = true ∨ (g.blk == f.blk) = false) with s1 | s1
                    · have hn : preB a fs (k + 1) = false := by
                        rw [HS2.out, namesB, List.any_eq_true.2 ⟨g, by rw [← HG2.out]; exact List.mem_take_iff_getElem.2 ⟨m, by omega, rfl⟩, s1⟩]
                        rfl
                      have HR := Lib.hid (preB_stop a fs hn fs.length (by omega))
                      clear hn
                      go_wp2
                      go_quiet (fail)
                      go_wp2
                      go_ret
                      exact ⟨ret_bool HR.out.symm, below_dn hBq' _⟩
                    · have hr := (any_take (p := fun g => g.blk == f.blk) hml).trans (by rw [N0.out, HG2.out]; simp only [s1, Bool.false_or] : _ = false)
                      have HR := Lib.hid hr
                      clear hr
                      go_wp2
                      go_quiet (fail)
                      go_wp2
                      go_roundw
                      case rel => exact ⟨m + 1, by omega, by go_num, HR, below_dn hBq _⟩
                      case measure => simp [intOf]; omega
                  · have hmk' : m = k := by omega
                    subst hmk'
                    have hn : preB a fs (m + 1) = true := by rw [HS2.out, namesB, N0.out]; rfl
                    have HP := Lib.hid hn
                    clear hn
                    go_wp2
                    go_roundw
                    case rel => exact ⟨m + 1, by omega, by go_num, HP, hBq1⟩
                    case measure => simp [intOf]; omega
    · go_wp2
      have hr : preB a fs fs.length = true := by
        have hkk : k = fs.length := by omega
        rw [← hkk]
        exact H0.out
      go_ret
      exact ⟨ret_bool hr.symm, HBr⟩
end Go.Proofs.Ytcpniplfkillbaa
namespace Go.Proofs.Ytcpniplfkillbaa
open Go.ChangeShapes Go.WideShapes Go.ChangeAt Go.RowKit
theorem rThere_any (a b c d e x y : Int) (w : World) :
    Calls Try.prog 43 #[.agg #[.int .i64 a, .int .i64 b, .int .i64 c, .int .i64 d, .int .i64 e], .agg #[.int .i64 x, .int .i64 y]] w fun e' w' => e' = .returned (.bool (mayB a b c d e && thereB a b x y)) ∧ Below w.heap.size w w' := by
  cases hm : mayB a b c d e
  · have Hm := Lib.hid hm
    clear hm
    go_enter Try.func43, Try.ntmps43
    go_wp2_with (go_at_call 42; refine (rmay_any _ _ _ _ _ _).mono ?_; rw [Hm.out]; rintro e' w1 ⟨rfl, hb1⟩)
    go_ret
    exact ⟨by simp, below2 hb1⟩
  · obtain ⟨k1, k2, k3, k4, k7, k8, k5, k6, _⟩ := may_bd hm
    have Hm := Lib.hid hm
    clear hm
    go_enter Try.func43, Try.ntmps43
    go_wp2_with (first
      | (go_at_call 42; refine (rmay_any _ _ _ _ _ _).mono ?_; rw [Hm.out]; rintro e' w1 ⟨rfl, hb1⟩; obtain ⟨hc1, hf1⟩ := bcell hb1; have hz1 : w.heap.size + 1 < w1.heap.size := by { have := hb1.size; simp at this; omega }; have hz0 : w.heap.size < w1.heap.size := by { omega })
      | (go_at_call 68; refine (rin_any _ _ _ _).mono ?_; rintro e w' ⟨rfl, rfl⟩))
    all_goals
      go_ret
      exact ⟨by simp [thereB, *], below2 hb1⟩
theorem rNumber_any (a b c d e x y : Int) (w : World) :
    Calls Try.prog 23 #[.agg #[.int .i64 a, .int .i64 b, .int .i64 c, .int .i64 d, .int .i64 e], .agg #[.int .i64 x, .int .i64 y]] w fun e' w' => e' = .returned (.int .i64 (ifMay a b c d e (numberI a b x y))) ∧ Below w.heap.size w w' := by
  cases hm : mayB a b c d e
  · rw [ifMay_no _ hm]
    have Hm := Lib.hid hm
    clear hm
    go_enter Try.func23, Try.ntmps23
    go_wp2_with (go_at_call 42; refine (rmay_any _ _ _ _ _ _).mono ?_; rw [Hm.out]; rintro e' w1 ⟨rfl, hb1⟩)
    go_ret
    exact ⟨rfl, below2 hb1⟩
  · rw [ifMay_yes _ hm]
    obtain ⟨k1, k2, k3, k4, k7, k8, k5, k6, _⟩ := may_bd hm
    have Hm := Lib.hid hm
    clear hm
    cases ht : thereB a b x y
    · have hn : numberI a b x y = -1 := by simp [numberI, ht]
      rw [hn]
      clear hn
      have Ht := Lib.hid ht
      clear ht
      go_enter Try.func23, Try.ntmps23
      go_wp2_with (first
        | (go_at_call 42; refine (rmay_any _ _ _ _ _ _).mono ?_; rw [Hm.out]; rintro e' w1 ⟨rfl, hb1⟩; obtain ⟨hc1, hf1⟩ := bcell hb1)
        | (go_at_call 43; refine (rThere_any _ _ _ _ _ _ _ _).mono ?_; rw [Hm.out, Ht.out, Bool.true_and]; rintro e' w2 ⟨rfl, hb2⟩))
      go_ret
      exact ⟨rfl, (below2 hb1).trans (hb2.mono (by have := hb1.size; simp at this; omega))⟩
    · have hn : numberI a b x y = x * b + y := by simp [numberI, ht]
      rw [hn]
      clear hn
      obtain ⟨t1, t2, t3, t4⟩ := there_bd ht
      obtain ⟨p1, p2⟩ := mul_bd (x := x) (y := b) (lo := 0) (hi := 19) (by omega) (by omega) k3 k4 (by omega) (by omega)
      have Ht := Lib.hid ht
      clear ht
      go_enter Try.func23, Try.ntmps23
      go_wp2_with (first
        | (go_at_call 42; refine (rmay_any _ _ _ _ _ _).mono ?_; rw [Hm.out]; rintro e' w1 ⟨rfl, hb1⟩; obtain ⟨hc1, hf1⟩ := bcell hb1; have hz1 : w.heap.size + 1 < w1.heap.size := by { have := hb1.size; simp at this; omega }; have hz0 : w.heap.size < w1.heap.size := by { omega })
        | (go_at_call 43; refine (rThere_any _ _ _ _ _ _ _ _).mono ?_; rw [Hm.out, Ht.out, Bool.true_and]; rintro e' w2 ⟨rfl, hb2⟩; obtain ⟨hc2, hf2⟩ := bcell hb2))
      go_ret
      exact ⟨rfl, (below2 hb1).trans (hb2.mono (by have := hb1.size; simp at this; omega))⟩
end Go.Proofs.Ytcpniplfkillbaa
