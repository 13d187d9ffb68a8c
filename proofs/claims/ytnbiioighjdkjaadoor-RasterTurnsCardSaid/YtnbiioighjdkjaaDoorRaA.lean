/- share. -/
import Derived.Test.YtnbiioighjdkjaaDoorRaM
import Derived.Test.YtnbiioighjdkjaaDoorApp
import Derived.Test.YtnbiioighjdkjaaDoorTch
import Derived.Laws.BitsAllLaws
namespace Go.Proofs.YtnbiioighjdkjaaDoor
open Go.ChangeShapes Go.WideShapes Go.ChangeAt Go.RowKit
set_option linter.unusedSimpArgs false
set_option linter.unusedVariables false

open Ieee in
theorem read_abs {r : Nat} {s : Bool} {m : Nat} {i : Int} (h : DB.read r = .number s m i) : DB.read (r % 9223372036854775808) = .number false m i := by
  unfold Format.read at h ⊢
  rw [sw_db] at h ⊢
  dsimp only at h ⊢
  rw [Nat.mod_mod, show r % 9223372036854775808 / 9223372036854775808 % 2 = 0 by omega]
  obtain ⟨q, hq⟩ : ∃ q, r % 9223372036854775808 = q := ⟨_, rfl⟩
  rw [hq] at h ⊢
  by_cases h1 : q < DB.binade
  · rw [if_pos h1] at h ⊢
    cases h
    rfl
  · rw [if_neg h1] at h ⊢
    by_cases h2 : q < DB.infRung
    · rw [if_pos h2] at h ⊢
      cases h
      rfl
    · rw [if_neg h2] at h
      by_cases h3 : q = DB.infRung
      · rw [if_pos h3] at h
        cases h
      · rw [if_neg h3] at h
        cases h
theorem andnot_bits (b : Nat) (hb : b < 18446744073709551616) : bits .andNot .u64 (b : Int) 9223372036854775808 = ((b % 9223372036854775808 : Nat) : Int) := by
  have h := u64_andNot_nat b 9223372036854775808 hb (by decide)
  have e : b &&& (18446744073709551615 - 9223372036854775808) = b % 9223372036854775808 := by
    have := Nat.and_two_pow_sub_one_eq_mod b 63
    simpa using this
  rw [e] at h
  exact h
@[go_sem] theorem call_from (b : Nat) (w : World) : (callFunc 32 #[.int .u64 (b : Int)]).run Tryd.prog w = .ok (.value (.float .f64 b)) w := by
  rw [run_callFunc_extern Tryd.func32 (by kernel_rfl) (by kernel_rfl) (by kernel_rfl) (e := Extern.MathFloatBits.float64frombits) (by kernel_rfl)]
  rfl
theorem abs_any (b : Nat) (w : World) (hb : b < 18446744073709551616) : Calls Tryd.prog 25 #[.float .f64 b] w fun e' w' => e' = .returned (.float .f64 (b % 9223372036854775808)) ∧ w = w' := by
  have h1 := andnot_bits b hb
  obtain ⟨q, hq⟩ : ∃ q, b % 9223372036854775808 = q := ⟨_, rfl⟩
  rw [hq] at h1 ⊢
  clear hq
  go_enter Tryd.func25, Tryd.ntmps25
  go_wp2
  go_ret
  exact ⟨rfl, rfl⟩
theorem infoC : (Tryd.prog.info? 35).map (fun i => (i.zero, i.size, i.bytes)) = some (some (.complex .f64 0 0), 1, 16) := by kernel_rfl
theorem build_onec (a b : Nat) (w : World) : (Instr.buildSlice 32 1 #[(0, .complex .f64 a b)]).run Tryd.prog w = .ok (.slice (some ⟨w.heap.size, 0, none⟩) 1 1) (w.alloc (.cells #[.complex .f64 a b] 35)) := by kernel_rfl
theorem wp_build1c {w : World} {o : Oper} {a : Act} {K : Act → World → Prop} {Q : Exit → Act → World → Prop} (x : Operand) (hop : o.op = Op.buildSlice 32 1 #[(0, x)])
    (b c : Nat) (hx : a.eval x = .complex .f64 b c)
    (hK : ∀ w' g, Blk w' g 35 #[.complex .f64 b c] → w.heap.size ≤ g → Below w.heap.size w w' → K (a.put o.dst (.slice (some ⟨g, 0, none⟩) 1 1)) w') : Oper.wp Tryd.prog o a w K Q := by
  have hrun := build_onec b c w
  unfold Oper.wp
  simp [execOp, hop, hx, hrun, Result.andThen]
  exact hK _ _ (Blk.new_ _ _ _) (Nat.le_refl _) ((Below.refl _ _).alloc (Nat.le_refl _) _)
theorem own_below {w w' : World} {base : Nat} {e : TypeId} {size n : Nat} {v : Value} {xs : List Value} (h : w.ownsRow base e size v n xs) (hb : Below w.heap.size w w') : w'.ownsRow base e size v n xs :=
  h.kept (row := none) ⟨hb.os, hb.tape, hb.output, hb.size, fun k hk _ => hb.block k hk⟩ (by cases v.ownBlock <;> simp)
theorem own_rowC {w : World} {base n : Nat} {t : TypeId} {v : Value} {xs : List Value} (h : w.ownsRow base t 1 v n xs) (hn : 1 ≤ n) : ∃ g c, v = .slice (some ⟨g, 0, none⟩) n c ∧ RowT w g t xs ∧ base ≤ g ∧ n ≤ c ∧ c ≤ maxLen := by
  obtain ⟨hl, h'⟩ := h
  rcases h' with ⟨_, h0⟩ | ⟨g, cap, cur, rfl, hb, hh, hnc, hcm, hsz, ht⟩
  · rw [h0] at hl
    simp at hl
    omega
  · refine ⟨g, cap, rfl, ⟨cur.toList.drop (n * 1), ?_⟩, hb, hnc, hcm⟩
    unfold Blk
    rw [← ht, List.take_append_drop]
    exact hh

theorem abs_F (z : Int) (hz : Sm z) : F z % 9223372036854775808 = F z.natAbs := by
  by_cases h0 : z = 0
  · subst h0; rfl
  · obtain ⟨a, b⟩ := rg_bd (n := z.natAbs) (by omega) hz
    have hl := log2_le (n := z.natAbs) (by omega) hz
    obtain ⟨c, d⟩ := rung_num z.natAbs.log2 (z.natAbs * 2 ^ (52 - z.natAbs.log2)) hl a b
    unfold F
    rw [if_neg h0, if_neg (by omega), Int.natAbs_natCast]
    rw [decide_eq_false (by omega : ¬ ((z.natAbs : Nat) : Int) < 0)]
    unfold rg
    unfold Ieee.Format.word
    rw [sw_db]
    cases decide (z < 0)
    · simp
      omega
    · simp
      omega
theorem toInt_F (z : Int) (hz : Sm z) : floatToIntVal .f64 (F z) .i64 = some z := by
  have h := toInt_val ((IsI.f z).val hz)
  have h2 : (FloatKind.f64.decode (F z)).toInt .zero = some z := h
  unfold floatToIntVal
  rw [h2]
  have : -9007199254740992 < z ∧ z < 9007199254740992 := by unfold Sm at hz; omega
  have e1 : IntKind.i64.min = -9223372036854775808 := rfl
  have e2 : IntKind.i64.max = 9223372036854775807 := rfl
  show (if IntKind.i64.min ≤ z ∧ z ≤ IntKind.i64.max then some z else none) = some z
  rw [if_pos (by rw [e1, e2]; omega)]
theorem share_any (d k n : Int) (w : World) (hd : -1000 ≤ d ∧ d ≤ 1000) (hk : 0 ≤ k ∧ k ≤ 1000) (hn : 1 ≤ n ∧ n ≤ 1000) (hkn : k ≤ n) (S : Int) (hS0 : shareZ d k n = S) : Calls Tryd.prog 26 #[.float .f64 (F d), .int .i64 k, .int .i64 n] w fun e' w' => e' = .returned (.float .f64 (F S)) ∧ w = w' := by
  have hconv := run_convert_float_int (P := Tryd.prog) w 49 3 .f64 .i64 (F d) d (by rfl) (by rfl) (toInt_F d (by unfold Sm; omega))
  have hf := fdiv_of (a := 2 * k * d + n) (c := 2 * n) (by omega)
  have hb := share_bd d n k (by omega) (by omega) hkn
  unfold shareZ at hS0 hb
  rw [hS0] at hf hb
  have hM0 : -2000000 ≤ 2 * k * d ∧ 2 * k * d ≤ 2000000 := by
    have h1 : k * d ≤ 1000 * 1000 := by
      rcases Int.le_total 0 d with h | h
      · exact Int.mul_le_mul hk.2 hd.2 h (by omega)
      · have := Int.mul_nonpos_of_nonneg_of_nonpos hk.1 h; omega
    have h2 : -(1000 * 1000) ≤ k * d := by
      rcases Int.le_total 0 d with h | h
      · have := Int.mul_nonneg hk.1 h; omega
      · have : k * (-d) ≤ 1000 * 1000 := Int.mul_le_mul hk.2 (by omega) (by omega) (by omega)
        rw [Int.mul_neg] at this
        omega
    rw [show 2 * k * d = 2 * (k * d) by grind]
    omega
  obtain ⟨M, hM⟩ : ∃ M, 2 * k * d = M := ⟨_, rfl⟩
  rw [hM] at hf hM0
  obtain ⟨Q, hQ⟩ : ∃ Q, (M + n).tdiv (2 * n) = Q := ⟨_, rfl⟩
  obtain ⟨R, hR⟩ : ∃ R, (M + n).tmod (2 * n) = R := ⟨_, rfl⟩
  rw [hQ, hR] at hf
  have hSb : -1000 ≤ S ∧ S ≤ 1000 := by
    rcases Int.le_total 0 d with h | h
    · have := hb.1 h; omega
    · have := hb.2 h; omega
  have hf1 := ofInt_c S (by unfold Sm; omega)
  have hn0 : (2 * n == 0) = false := by simp; omega
  have hn1 : ¬ 2 * n = 0 := by omega
  clear hb hS0
  by_cases h0 : R < 0
  · rw [if_pos h0] at hf
    go_enter Tryd.func26, Tryd.ntmps26
    go_wp2_with fail
    go_ret
    exact ⟨rfl, rfl⟩
  · rw [if_neg h0] at hf
    subst hf
    go_enter Tryd.func26, Tryd.ntmps26
    go_wp2_with fail
    go_ret
    exact ⟨rfl, rfl⟩
end Go.Proofs.YtnbiioighjdkjaaDoor
