/- In the tied seat: Box. -/
import Derived.Test.YtnbiioighjdkjaaDoorRaWl
import Derived.Test.YtnbiioighjdkjaaDoorRaW
namespace Go.Proofs.YtnbiioighjdkjaaDoor
open Go.ChangeShapes Go.WideShapes Go.ChangeAt Go.RowKit
set_option linter.unusedSimpArgs false
set_option linter.unusedVariables false

theorem results_tmp5 {fn : Func} {t u v x y : Tmp} (h : fn.results = #[.tmp t, .tmp u, .tmp v, .tmp x, .tmp y]) (tmps : Array Value) (P : Program) (w : World) :
    (results fn tmps).run P w = .ok (.tuple #[tmps.getD t undef, tmps.getD u undef, tmps.getD v undef, tmps.getD x undef, tmps.getD y undef]) w := by
  simp [results, h]
def topZ (f : Nat → Nat) : Nat → Int
  | 0 => -1
  | n + 1 => if f n = 0 then topZ f n else if topZ f n < 0 then (n : Int) else topZ f n
def botZ (f : Nat → Nat) : Nat → Int
  | 0 => -1
  | n + 1 => if f n = 0 then botZ f n else (n : Int)
theorem topZ_none (f : Nat → Nat) : ∀ n, (∀ j, j < n → f j = 0) → topZ f n = -1
  | 0, _ => rfl
  | n + 1, h => by
    unfold topZ
    rw [if_pos (h n (by omega))]
    exact topZ_none f n (fun j hj => h j (by omega))
theorem topZ_first (f : Nat → Nat) (y : Nat) : ∀ n, First f n y → topZ f n = (y : Int)
  | 0, h => by have := h.2.1; omega
  | n + 1, h => by
    unfold topZ
    by_cases e : y = n
    · subst e
      rw [if_neg h.1, topZ_none f y h.2.2, if_pos (by decide)]
    · have ih := topZ_first f y n ⟨h.1, by have := h.2.1; omega, h.2.2⟩
      rw [ih, if_neg (by omega : ¬ (y : Int) < 0)]
      split <;> rfl
theorem botZ_last (f : Nat → Nat) (y : Nat) : ∀ n, Last f n y → botZ f n = (y : Int)
  | 0, h => by have := h.2.1; omega
  | n + 1, h => by
    unfold botZ
    by_cases e : y = n
    · subst e
      rw [if_neg h.1]
    · rw [if_pos (h.2.2 n (by have := h.2.1; omega) (by omega))]
      exact botZ_last f y n ⟨h.1, by have := h.2.1; omega, fun j h1 h2 => h.2.2 j h1 (by omega)⟩
theorem orN_lt (f : Nat → Nat) : ∀ n, (∀ y, f y < 18446744073709551616) → orN f n < 18446744073709551616
  | 0, _ => by unfold orN; decide
  | n + 1, h => Nat.or_lt_two_pow (n := 64) (orN_lt f n h) (h n)
set_option maxRecDepth 100000 in
set_option maxHeartbeats 4000000 in
theorem box_no (gr H c : Nat) (f : Nat → Nat) (w : World) (hR : RowT w gr 29 (rowsV f H)) (hH : H ≤ 64) (hf : Hid (∀ y, f y < 18446744073709551616)) (h0 : Hid (orN f H = 0)) : Calls Tryd.prog 7 #[.slice (some ⟨gr, 0, none⟩) H c] w fun e' w' => e' = .returned (.tuple #[.int .i64 0, .int .i64 0, .int .i64 0, .int .i64 0, .bool false]) ∧ w = w' := by
  have HR := Lib.hid hR
  clear hR
  go_enter Tryd.func7, Tryd.ntmps7
  go_wp2_with fail
  go_loopw [7, 8, 9, 14] (fun s7 s8 s9 s14 wr => ∃ (i a : Nat) (tp bt : Int), i ≤ H ∧ s14 = .int .i64 (i : Int) ∧ s7 = .int .u64 (a : Int) ∧ s8 = .int .i64 tp ∧ s9 = .int .i64 bt ∧ Hid (orN f i = a ∧ topZ f i = tp ∧ botZ f i = bt) ∧ wr = w) (fun _ _ _ s14 _ => H - (intOf s14).toNat)
  case atStart => exact ⟨0, 0, -1, -1, by omega, rfl, rfl, rfl, rfl, Lib.hid ⟨rfl, rfl, rfl⟩, (by first | rfl | trivial)⟩
  case round =>
    obtain ⟨i, a, tp, bt, hi, rfl, rfl, rfl, rfl, HA, rfl⟩ := hrel
    by_cases hlt : i < H
    · obtain ⟨r, hr⟩ : ∃ r, f i = r := ⟨_, rfl⟩
      have c0 : wr.cell? ⟨gr, i, none⟩ = some (.int .u64 (r : Int)) := by rw [← hr]; exact HR.out.cell_ (rowsV_at f H i hlt)
      have i0 : (0 : Int) ≤ (i : Int) := by omega
      have i1 : (i : Int) < (H : Int) := by omega
      have hal : a < 18446744073709551616 := by rw [← HA.out.1]; exact orN_lt f i hf.out
      have hrl : r < 18446744073709551616 := by rw [← hr]; exact hf.out i
      have HRR := Lib.hid hr
      clear hr
      by_cases hz : r = 0
      · have HA2 : Hid (orN f (i + 1) = a ∧ topZ f (i + 1) = tp ∧ botZ f (i + 1) = bt) := Lib.hid ⟨by unfold orN; rw [HRR.out, hz, Nat.or_zero]; exact HA.out.1, by unfold topZ; rw [if_pos (by rw [HRR.out]; exact hz)]; exact HA.out.2.1, by unfold botZ; rw [if_pos (by rw [HRR.out]; exact hz)]; exact HA.out.2.2⟩
        have z1 : ((r : Int) == 0) = true := by rw [hz]; rfl
        clear HRR HA hz hal hrl
        go_wp2_with fail
        go_roundw
        case rel => exact ⟨i + 1, a, tp, bt, by omega, by go_num, rfl, rfl, rfl, HA2, (by first | rfl | trivial)⟩
        case measure => simp [intOf]; omega
      · obtain ⟨a2, ha2⟩ : ∃ a2, a ||| r = a2 := ⟨_, rfl⟩
        have eo : bits .or .u64 (a : Int) (r : Int) = (a2 : Int) := by rw [← ha2]; exact u64_or_nat a r hal hrl
        have z1 : ((r : Int) == 0) = false := by simp; omega
        have HO : Hid (orN f (i + 1) = a2 ∧ botZ f (i + 1) = (i : Int)) := Lib.hid ⟨by unfold orN; rw [HRR.out, HA.out.1]; exact ha2, by unfold botZ; rw [if_neg (by rw [HRR.out]; exact hz)]⟩
        by_cases hn : tp < 0
        · have HT2 : Hid (topZ f (i + 1) = (i : Int)) := Lib.hid (by unfold topZ; rw [if_neg (by rw [HRR.out]; exact hz), HA.out.2.1, if_pos hn])
          clear HRR HA hz ha2 hal hrl
          go_wp2_with fail
          go_roundw
          case rel => exact ⟨i + 1, a2, (i : Int), (i : Int), by omega, by go_num, rfl, rfl, rfl, Lib.hid ⟨HO.out.1, HT2.out, HO.out.2⟩, (by first | rfl | trivial)⟩
          case measure => simp [intOf]; omega
        · have HT2 : Hid (topZ f (i + 1) = tp) := Lib.hid (by unfold topZ; rw [if_neg (by rw [HRR.out]; exact hz), HA.out.2.1, if_neg hn])
          have hn2 : ¬ tp < 0 := hn
          clear HRR HA hz ha2 hal hrl
          go_wp2_with fail
          go_roundw
          case rel => exact ⟨i + 1, a2, tp, (i : Int), by omega, by go_num, rfl, rfl, rfl, Lib.hid ⟨HO.out.1, HT2.out, HO.out.2⟩, (by first | rfl | trivial)⟩
          case measure => simp [intOf]; omega
    · obtain rfl : i = H := by omega
      obtain rfl : a = 0 := by rw [← HA.out.1]; exact h0.out
      clear HA
      go_wp2_with fail
      (try simp only [Exit.inBlock, Exit.then])
      refine bodyPost_ret (results_tmp5 rfl _ _ _) rfl ?_
      exact ⟨rfl, rfl⟩

set_option maxRecDepth 100000 in
set_option maxHeartbeats 4000000 in
theorem box_yes (gr H c : Nat) (f : Nat → Nat) (w : World) (hR : RowT w gr 29 (rowsV f H)) (hH : H ≤ 64) (hf : Hid (∀ y, f y < 18446744073709551616)) (x0 y0 x1 y1 : Nat) (hb : Hid (BoxIs f H x0 y0 x1 y1)) (hT : DbTab w) : Calls Tryd.prog 7 #[.slice (some ⟨gr, 0, none⟩) H c] w fun e' w' => e' = .returned (.tuple #[.int .i64 (x0 : Int), .int .i64 (y0 : Int), .int .i64 (x1 : Int), .int .i64 (y1 : Int), .bool true]) ∧ w = w' := by
  have HR := Lib.hid hR
  have HDB := Lib.hid hT
  clear hR hT
  go_enter Tryd.func7, Tryd.ntmps7
  go_wp2_with fail
  go_loopw [7, 8, 9, 14] (fun s7 s8 s9 s14 wr => ∃ (i a : Nat) (tp bt : Int), i ≤ H ∧ s14 = .int .i64 (i : Int) ∧ s7 = .int .u64 (a : Int) ∧ s8 = .int .i64 tp ∧ s9 = .int .i64 bt ∧ Hid (orN f i = a ∧ topZ f i = tp ∧ botZ f i = bt) ∧ wr = w) (fun _ _ _ s14 _ => H - (intOf s14).toNat)
  case atStart => exact ⟨0, 0, -1, -1, by omega, rfl, rfl, rfl, rfl, Lib.hid ⟨rfl, rfl, rfl⟩, (by first | rfl | trivial)⟩
  case round =>
    obtain ⟨i, a, tp, bt, hi, rfl, rfl, rfl, rfl, HA, rfl⟩ := hrel
    by_cases hlt : i < H
    · obtain ⟨r, hr⟩ : ∃ r, f i = r := ⟨_, rfl⟩
      have c0 : wr.cell? ⟨gr, i, none⟩ = some (.int .u64 (r : Int)) := by rw [← hr]; exact HR.out.cell_ (rowsV_at f H i hlt)
      have i0 : (0 : Int) ≤ (i : Int) := by omega
      have i1 : (i : Int) < (H : Int) := by omega
      have hal : a < 18446744073709551616 := by rw [← HA.out.1]; exact orN_lt f i hf.out
      have hrl : r < 18446744073709551616 := by rw [← hr]; exact hf.out i
      have HRR := Lib.hid hr
      clear hr
      by_cases hz : r = 0
      · have HA2 : Hid (orN f (i + 1) = a ∧ topZ f (i + 1) = tp ∧ botZ f (i + 1) = bt) := Lib.hid ⟨by unfold orN; rw [HRR.out, hz, Nat.or_zero]; exact HA.out.1, by unfold topZ; rw [if_pos (by rw [HRR.out]; exact hz)]; exact HA.out.2.1, by unfold botZ; rw [if_pos (by rw [HRR.out]; exact hz)]; exact HA.out.2.2⟩
        have z1 : ((r : Int) == 0) = true := by rw [hz]; rfl
        clear HRR HA hz hal hrl
        go_wp2_with fail
        go_roundw
        case rel => exact ⟨i + 1, a, tp, bt, by omega, by go_num, rfl, rfl, rfl, HA2, (by first | rfl | trivial)⟩
        case measure => simp [intOf]; omega
      · obtain ⟨a2, ha2⟩ : ∃ a2, a ||| r = a2 := ⟨_, rfl⟩
        have eo : bits .or .u64 (a : Int) (r : Int) = (a2 : Int) := by rw [← ha2]; exact u64_or_nat a r hal hrl
        have z1 : ((r : Int) == 0) = false := by simp; omega
        have HO : Hid (orN f (i + 1) = a2 ∧ botZ f (i + 1) = (i : Int)) := Lib.hid ⟨by unfold orN; rw [HRR.out, HA.out.1]; exact ha2, by unfold botZ; rw [if_neg (by rw [HRR.out]; exact hz)]⟩
        by_cases hn : tp < 0
        · have HT2 : Hid (topZ f (i + 1) = (i : Int)) := Lib.hid (by unfold topZ; rw [if_neg (by rw [HRR.out]; exact hz), HA.out.2.1, if_pos hn])
          clear HRR HA hz ha2 hal hrl
          go_wp2_with fail
          go_roundw
          case rel => exact ⟨i + 1, a2, (i : Int), (i : Int), by omega, by go_num, rfl, rfl, rfl, Lib.hid ⟨HO.out.1, HT2.out, HO.out.2⟩, (by first | rfl | trivial)⟩
          case measure => simp [intOf]; omega
        · have HT2 : Hid (topZ f (i + 1) = tp) := Lib.hid (by unfold topZ; rw [if_neg (by rw [HRR.out]; exact hz), HA.out.2.1, if_neg hn])
          have hn2 : ¬ tp < 0 := hn
          clear HRR HA hz ha2 hal hrl
          go_wp2_with fail
          go_roundw
          case rel => exact ⟨i + 1, a2, tp, (i : Int), by omega, by go_num, rfl, rfl, rfl, Lib.hid ⟨HO.out.1, HT2.out, HO.out.2⟩, (by first | rfl | trivial)⟩
          case measure => simp [intOf]; omega
    · obtain rfl : i = H := by omega
      obtain rfl : tp = (y0 : Int) := by rw [← HA.out.2.1]; exact topZ_first f y0 _ hb.out.y0
      obtain rfl : bt = (y1 : Int) := by rw [← HA.out.2.2]; exact botZ_last f y1 _ hb.out.y1
      have HLO : Hid (LowB a x0) := Lib.hid (by rw [← HA.out.1]; exact hb.out.x0)
      have HHI : Hid (HighB a x1) := Lib.hid (by rw [← HA.out.1]; exact hb.out.x1)
      have hal : a < 18446744073709551616 := by rw [← HA.out.1]; exact orN_lt f i hf.out
      have HL : Hid (lenN a = x1 + 1) := Lib.hid (len_high HHI.out)
      have z1 : ((a : Int) == 0) = false := by
        have := bit_ne HLO.out.1
        simp
        omega
      have hx1 : x1 < 64 := bit_lt (W := 64) hal HHI.out.1
      have ew : IntKind.i64.wrap (((x1 + 1 : Nat) : Int) - 1) = (x1 : Int) := by rw [show ((x1 + 1 : Nat) : Int) - 1 = (x1 : Int) by omega]; exact wrapS _ (by omega) (by omega)
      clear HA
      go_wp2_with (first
        | (go_at_call 19; ((with_reducible refine (tz_any a x0 _ hal HLO.out HDB.out).mono ?_); rintro e' wN ⟨rfl, rfl⟩; skip))
        | (go_at_call 20; refine (len_any a _ hal).mono ?_; rw [HL.out]; rintro e' wN ⟨rfl, rfl⟩))
      (try simp only [Exit.inBlock, Exit.then])
      refine bodyPost_ret (results_tmp5 rfl _ _ _) rfl ?_
      exact ⟨rfl, rfl⟩

end Go.Proofs.YtnbiioighjdkjaaDoor
