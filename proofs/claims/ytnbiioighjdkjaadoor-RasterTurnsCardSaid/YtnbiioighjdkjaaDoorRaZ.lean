/- Rows that may lie anywhere, or be none: Turn, Box, Count, sameRows. -/
import Derived.Test.YtnbiioighjdkjaaDoorRaY
namespace Go.Proofs.YtnbiioighjdkjaaDoor
open Go.ChangeShapes Go.WideShapes Go.ChangeAt Go.RowKit
set_option linter.unusedSimpArgs false
set_option linter.unusedVariables false

/-- The slice at A holds H rows of f. -/
def RowO (w : World) (A : Option Addr) (H : Nat) (f : Nat → Nat) : Prop := H = 0 ∨ ∃ gr off, A = some ⟨gr, off, none⟩ ∧ gr < w.heap.size ∧ ∀ k, k < H → w.cell? ⟨gr, off + k, none⟩ = some (.int .u64 ((f k : Nat) : Int))
theorem RowO.next {w w' : World} {A : Option Addr} {H : Nat} {f : Nat → Nat} (h : RowO w A H f) (hb : Below w.heap.size w w') : RowO w' A H f := by
  rcases h with h | ⟨gr, off, e, hl, hc⟩
  · exact Or.inl h
  · exact Or.inr ⟨gr, off, e, Nat.lt_of_lt_of_le hl hb.size, fun k hk => (hb.cell (p := ⟨gr, off + k, none⟩) hl).trans (hc k hk)⟩
theorem RowO.of_row {w : World} {g H : Nat} {f : Nat → Nat} (h : RowT w g 29 (rowsV f H)) : RowO w (some ⟨g, 0, none⟩) H f :=
  Or.inr ⟨g, 0, rfl, h.lt, fun k hk => by rw [Nat.zero_add]; exact h.cell_ (rowsV_at f H k hk)⟩
theorem RowO.congr {w : World} {A : Option Addr} {H : Nat} {f f' : Nat → Nat} (h : RowO w A H f) (e : ∀ y, y < H → f y = f' y) : RowO w A H f' := by
  rcases h with h | ⟨gr, off, ea, hl, hc⟩
  · exact Or.inl h
  · exact Or.inr ⟨gr, off, ea, hl, fun k hk => by rw [← e k hk]; exact hc k hk⟩
set_option maxRecDepth 100000 in
set_option maxHeartbeats 4000000 in
theorem count_o (f : Nat → Nat) (H cc : Nat) (A : Option Addr) (S : Nat) (w : World) (hH : H ≤ 80) (hR : RowO w A H f) (hf : Hid (∀ y, f y < 18446744073709551616)) (hS : Hid (sumN (fun y => popN (f y)) H = S)) : Calls Tryd.prog 11 #[.slice A H cc] w fun e' w' => e' = .returned (.int .i64 (S : Int)) ∧ w = w' := by
  have HR := Lib.hid hR
  clear hR
  go_enter Tryd.func11, Tryd.ntmps11
  go_wp2
  go_loopw [3, 8] (fun s3 s8 wr => ∃ (i m : Nat), i ≤ H ∧ s8 = .int .i64 (i : Int) ∧ s3 = .int .i64 (m : Int) ∧ Hid (sumN (fun y => popN (f y)) i = m) ∧ wr = w) (fun _ s8 _ => H - (intOf s8).toNat)
  case atStart => exact ⟨0, 0, by omega, rfl, rfl, Lib.hid rfl, (by first | rfl | trivial)⟩
  case round =>
    obtain ⟨i, m, hi, rfl, rfl, hm, rfl⟩ := hrel
    by_cases hlt : i < H
    · obtain ⟨gr, off, rfl, hgr, hc⟩ := HR.out.resolve_left (by omega)
      have c0 : wr.cell? ⟨gr, off + i, none⟩ = some (.int .u64 ((f i : Nat) : Int)) := hc i hlt
      clear hc
      have i0 : (0 : Int) ≤ (i : Int) := by omega
      have i1 : (i : Int) < (H : Int) := by omega
      obtain ⟨p, hp⟩ : ∃ p, popN (f i) = p := ⟨_, rfl⟩
      have hp64 : p ≤ 64 := by rw [← hp]; exact popN_le _
      have hm64 : m ≤ 5120 := by
        have := sumN_bd (fun y => popN (f y)) 64 i (fun y => popN_le _)
        rw [hm.out] at this
        omega
      have HM : Hid (sumN (fun y => popN (f y)) (i + 1) = m + p) := Lib.hid (by rw [← hm.out, ← hp]; rfl)
      have HP := Lib.hid hp
      clear hp hm
      go_wp2_with (go_at_call 23; go_loud (refine (ones_any (f i) _ (hf.out i)).mono ?_; rw [HP.out]; rintro e' wN ⟨rfl, rfl⟩))
      go_roundw
      case rel => exact ⟨i + 1, m + p, by omega, by go_num, (by first | rfl | go_num | simp), HM, (by first | rfl | trivial)⟩
      case measure => simp [intOf]; omega
    · obtain rfl : i = H := by omega
      obtain rfl : m = S := by rw [← hm.out, ← hS.out]
      go_wp2
      go_ret
      exact ⟨rfl, rfl⟩

set_option maxRecDepth 100000 in
set_option maxHeartbeats 4000000 in
theorem box_no_o (A : Option Addr) (H c : Nat) (f : Nat → Nat) (w : World) (hR : RowO w A H f) (hH : H ≤ 80) (hf : Hid (∀ y, f y < 18446744073709551616)) (h0 : Hid (orN f H = 0)) : Calls Tryd.prog 7 #[.slice A H c] w fun e' w' => e' = .returned (.tuple #[.int .i64 0, .int .i64 0, .int .i64 0, .int .i64 0, .bool false]) ∧ w = w' := by
  have HR := Lib.hid hR
  clear hR
  go_enter Tryd.func7, Tryd.ntmps7
  go_wp2_with fail
  go_loopw [7, 8, 9, 14] (fun s7 s8 s9 s14 wr => ∃ (i a : Nat) (tp bt : Int), i ≤ H ∧ s14 = .int .i64 (i : Int) ∧ s7 = .int .u64 (a : Int) ∧ s8 = .int .i64 tp ∧ s9 = .int .i64 bt ∧ Hid (orN f i = a ∧ topZ f i = tp ∧ botZ f i = bt) ∧ wr = w) (fun _ _ _ s14 _ => H - (intOf s14).toNat)
  case atStart => exact ⟨0, 0, -1, -1, by omega, rfl, rfl, rfl, rfl, Lib.hid ⟨rfl, rfl, rfl⟩, (by first | rfl | trivial)⟩
  case round =>
    obtain ⟨i, a, tp, bt, hi, rfl, rfl, rfl, rfl, HA, rfl⟩ := hrel
    by_cases hlt : i < H
    · obtain ⟨r, hr⟩ : ∃ r, f i = r := ⟨_, rfl⟩
      obtain ⟨gr, off, rfl, hgr, hc⟩ := HR.out.resolve_left (by omega)
      have c0 : wr.cell? ⟨gr, off + i, none⟩ = some (.int .u64 (r : Int)) := by rw [← hr]; exact hc i hlt
      clear hc
      have i0 : (0 : Int) ≤ (i : Int) := by omega
      have i1 : (i : Int) < (H : Int) := by omega
      have hal : a < 18446744073709551616 := by rw [← HA.out.1]; exact orN_lt f i hf.out
      have hrl : r < 18446744073709551616 := by rw [← hr]; exact hf.out i
      have HRR := Lib.hid hr
      clear hr
      by_cases hz : r = 0
      · have HA2 : Hid (orN f (i + 1) = a ∧ topZ f (i + 1) = tp ∧ botZ f (i + 1) = bt) := Lib.hid ⟨by unfold orN; rw [HRR.out, hz, Nat.or_zero]; exact HA.out.1, by unfold topZ; rw [if_pos (by rw [HRR.out]; exact hz)]; exact HA.out.2.1, by unfold botZ; rw [if_pos (by rw [HRR.out]; exact hz)]; exact HA.out.2.2⟩
        have z1 : ((r : Int) == 0) = true := by rw [hz]; rfl
        clear HRR HA hz hal hrl
        go_wp2_with fail
        go_roundw
        case rel => exact ⟨i + 1, a, tp, bt, by omega, by go_num, rfl, rfl, rfl, HA2, (by first | rfl | trivial)⟩
        case measure => simp [intOf]; omega
      · obtain ⟨a2, ha2⟩ : ∃ a2, a ||| r = a2 := ⟨_, rfl⟩
        have eo : bits .or .u64 (a : Int) (r : Int) = (a2 : Int) := by rw [← ha2]; exact u64_or_nat a r hal hrl
        have z1 : ((r : Int) == 0) = false := by simp; omega
        have HO : Hid (orN f (i + 1) = a2 ∧ botZ f (i + 1) = (i : Int)) := Lib.hid ⟨by unfold orN; rw [HRR.out, HA.out.1]; exact ha2, by unfold botZ; rw [if_neg (by rw [HRR.out]; exact hz)]⟩
        by_cases hn : tp < 0
        · have HT2 : Hid (topZ f (i + 1) = (i : Int)) := Lib.hid (by unfold topZ; rw [if_neg (by rw [HRR.out]; exact hz), HA.out.2.1, if_pos hn])
          clear HRR HA hz ha2 hal hrl
          go_wp2_with fail
          go_roundw
          case rel => exact ⟨i + 1, a2, (i : Int), (i : Int), by omega, by go_num, rfl, rfl, rfl, Lib.hid ⟨HO.out.1, HT2.out, HO.out.2⟩, (by first | rfl | trivial)⟩
          case measure => simp [intOf]; omega
        · have HT2 : Hid (topZ f (i + 1) = tp) := Lib.hid (by unfold topZ; rw [if_neg (by rw [HRR.out]; exact hz), HA.out.2.1, if_neg hn])
          have hn2 : ¬ tp < 0 := hn
          clear HRR HA hz ha2 hal hrl
          go_wp2_with fail
          go_roundw
          case rel => exact ⟨i + 1, a2, tp, (i : Int), by omega, by go_num, rfl, rfl, rfl, Lib.hid ⟨HO.out.1, HT2.out, HO.out.2⟩, (by first | rfl | trivial)⟩
          case measure => simp [intOf]; omega
    · obtain rfl : i = H := by omega
      obtain rfl : a = 0 := by rw [← HA.out.1]; exact h0.out
      clear HA
      go_wp2_with fail
      (try simp only [Exit.inBlock, Exit.then])
      refine bodyPost_ret (results_tmp5 rfl _ _ _) rfl ?_
      exact ⟨rfl, rfl⟩

set_option maxRecDepth 100000 in
set_option maxHeartbeats 4000000 in
theorem box_yes_o (A : Option Addr) (H c : Nat) (f : Nat → Nat) (w : World) (hR : RowO w A H f) (hH : H ≤ 80) (hf : Hid (∀ y, f y < 18446744073709551616)) (x0 y0 x1 y1 : Nat) (hb : Hid (BoxIs f H x0 y0 x1 y1)) (hT : DbTab w) : Calls Tryd.prog 7 #[.slice A H c] w fun e' w' => e' = .returned (.tuple #[.int .i64 (x0 : Int), .int .i64 (y0 : Int), .int .i64 (x1 : Int), .int .i64 (y1 : Int), .bool true]) ∧ w = w' := by
  have HR := Lib.hid hR
  have HDB := Lib.hid hT
  clear hR hT
  go_enter Tryd.func7, Tryd.ntmps7
  go_wp2_with fail
  go_loopw [7, 8, 9, 14] (fun s7 s8 s9 s14 wr => ∃ (i a : Nat) (tp bt : Int), i ≤ H ∧ s14 = .int .i64 (i : Int) ∧ s7 = .int .u64 (a : Int) ∧ s8 = .int .i64 tp ∧ s9 = .int .i64 bt ∧ Hid (orN f i = a ∧ topZ f i = tp ∧ botZ f i = bt) ∧ wr = w) (fun _ _ _ s14 _ => H - (intOf s14).toNat)
  case atStart => exact ⟨0, 0, -1, -1, by omega, rfl, rfl, rfl, rfl, Lib.hid ⟨rfl, rfl, rfl⟩, (by first | rfl | trivial)⟩
  case round =>
    obtain ⟨i, a, tp, bt, hi, rfl, rfl, rfl, rfl, HA, rfl⟩ := hrel
    by_cases hlt : i < H
    · obtain ⟨r, hr⟩ : ∃ r, f i = r := ⟨_, rfl⟩
      obtain ⟨gr, off, rfl, hgr, hc⟩ := HR.out.resolve_left (by omega)
      have c0 : wr.cell? ⟨gr, off + i, none⟩ = some (.int .u64 (r : Int)) := by rw [← hr]; exact hc i hlt
      clear hc
      have i0 : (0 : Int) ≤ (i : Int) := by omega
      have i1 : (i : Int) < (H : Int) := by omega
      have hal : a < 18446744073709551616 := by rw [← HA.out.1]; exact orN_lt f i hf.out
      have hrl : r < 18446744073709551616 := by rw [← hr]; exact hf.out i
      have HRR := Lib.hid hr
      clear hr
      by_cases hz : r = 0
      · have HA2 : Hid (orN f (i + 1) = a ∧ topZ f (i + 1) = tp ∧ botZ f (i + 1) = bt) := Lib.hid ⟨by unfold orN; rw [HRR.out, hz, Nat.or_zero]; exact HA.out.1, by unfold topZ; rw [if_pos (by rw [HRR.out]; exact hz)]; exact HA.out.2.1, by unfold botZ; rw [if_pos (by rw [HRR.out]; exact hz)]; exact HA.out.2.2⟩
        have z1 : ((r : Int) == 0) = true := by rw [hz]; rfl
        clear HRR HA hz hal hrl
        go_wp2_with fail
        go_roundw
        case rel => exact ⟨i + 1, a, tp, bt, by omega, by go_num, rfl, rfl, rfl, HA2, (by first | rfl | trivial)⟩
        case measure => simp [intOf]; omega
      · obtain ⟨a2, ha2⟩ : ∃ a2, a ||| r = a2 := ⟨_, rfl⟩
        have eo : bits .or .u64 (a : Int) (r : Int) = (a2 : Int) := by rw [← ha2]; exact u64_or_nat a r hal hrl
        have z1 : ((r : Int) == 0) = false := by simp; omega
        have HO : Hid (orN f (i + 1) = a2 ∧ botZ f (i + 1) = (i : Int)) := Lib.hid ⟨by unfold orN; rw [HRR.out, HA.out.1]; exact ha2, by unfold botZ; rw [if_neg (by rw [HRR.out]; exact hz)]⟩
        by_cases hn : tp < 0
        · have HT2 : Hid (topZ f (i + 1) = (i : Int)) := Lib.hid (by unfold topZ; rw [if_neg (by rw [HRR.out]; exact hz), HA.out.2.1, if_pos hn])
          clear HRR HA hz ha2 hal hrl
          go_wp2_with fail
          go_roundw
          case rel => exact ⟨i + 1, a2, (i : Int), (i : Int), by omega, by go_num, rfl, rfl, rfl, Lib.hid ⟨HO.out.1, HT2.out, HO.out.2⟩, (by first | rfl | trivial)⟩
          case measure => simp [intOf]; omega
        · have HT2 : Hid (topZ f (i + 1) = tp) := Lib.hid (by unfold topZ; rw [if_neg (by rw [HRR.out]; exact hz), HA.out.2.1, if_neg hn])
          have hn2 : ¬ tp < 0 := hn
          clear HRR HA hz ha2 hal hrl
          go_wp2_with fail
          go_roundw
          case rel => exact ⟨i + 1, a2, tp, (i : Int), by omega, by go_num, rfl, rfl, rfl, Lib.hid ⟨HO.out.1, HT2.out, HO.out.2⟩, (by first | rfl | trivial)⟩
          case measure => simp [intOf]; omega
    · obtain rfl : i = H := by omega
      obtain rfl : tp = (y0 : Int) := by rw [← HA.out.2.1]; exact topZ_first f y0 _ hb.out.y0
      obtain rfl : bt = (y1 : Int) := by rw [← HA.out.2.2]; exact botZ_last f y1 _ hb.out.y1
      have HLO : Hid (LowB a x0) := Lib.hid (by rw [← HA.out.1]; exact hb.out.x0)
      have HHI : Hid (HighB a x1) := Lib.hid (by rw [← HA.out.1]; exact hb.out.x1)
      have hal : a < 18446744073709551616 := by rw [← HA.out.1]; exact orN_lt f i hf.out
      have HL : Hid (lenN a = x1 + 1) := Lib.hid (len_high HHI.out)
      have z1 : ((a : Int) == 0) = false := by
        have := bit_ne HLO.out.1
        simp
        omega
      have hx1 : x1 < 64 := bit_lt (W := 64) hal HHI.out.1
      have ew : IntKind.i64.wrap (((x1 + 1 : Nat) : Int) - 1) = (x1 : Int) := by rw [show ((x1 + 1 : Nat) : Int) - 1 = (x1 : Int) by omega]; exact wrapS _ (by omega) (by omega)
      clear HA
      go_wp2_with (first
        | (go_at_call 19; go_loud (((with_reducible refine (tz_any a x0 _ hal HLO.out HDB.out).mono ?_); rintro e' wN ⟨rfl, rfl⟩; skip)))
        | (go_at_call 20; go_loud (refine (len_any a _ hal).mono ?_; rw [HL.out]; rintro e' wN ⟨rfl, rfl⟩)))
      (try simp only [Exit.inBlock, Exit.then])
      refine bodyPost_ret (results_tmp5 rfl _ _ _) rfl ?_
      exact ⟨rfl, rfl⟩

set_option maxRecDepth 100000 in
set_option maxHeartbeats 4000000 in
theorem turn_o (A : Option Addr) (H c : Nat) (f : Nat → Nat) (WN : Nat) (w : World) (hR : RowO w A H f) (hH : H ≤ 64) (hW : 1 ≤ WN ∧ WN ≤ 64) (hf : Hid (∀ y, f y < 18446744073709551616)) : Calls Tryd.prog 6 #[.slice A H c, .int .i64 (WN : Int)] w fun e' w' => (∃ g, e' = .returned (.slice (some ⟨g, 0, none⟩) WN WN) ∧ RowT w' g 29 (rowsV (turnF f H) WN) ∧ w.heap.size ≤ g) ∧ Below w.heap.size w w' := by
  obtain ⟨ti1, hi1, hy0, hy1, hy2⟩ := info_parts infoU64
  have HR := Lib.hid hR
  have HWI : Hid ((decide (1 ≤ (WN : Int)) && decide ((WN : Int) ≤ 64)) = true) := Lib.hid (by rw [decide_eq_true (by omega), decide_eq_true (by omega)]; rfl)
  have gH : ¬ (64 : Int) < (H : Int) := by omega
  have gW : (0 : Int) ≤ (WN : Int) := by omega
  clear hR
  go_enter Tryd.func6, Tryd.ntmps6
  go_wp2_with (first
    | (go_at_call 18; go_loud (((with_reducible refine (within_b (WN : Int) 64 true _ HWI).mono ?_); rintro e' wN ⟨rfl, rfl⟩; skip)))
    | (at_make; go_loud (refine wpList_make_full _ rfl _ _ 22 rfl w.heap.size 29 ti1 (.int .u64 0) 1 Tryd.underlying22 hi1 hy0 hy1 _ _ _ _ WN rfl rfl rfl rfl (by rw [hy2]; omega) (by unfold maxLen; omega) (Nat.le_refl _) ?_; intro w1 hown1 hgrow1)))
  have hBm : Below w.heap.size w w1 := (Below.refl _ _).grown hgrow1 (Nat.le_refl _) (fun j hj => by cases hj)
  rw [toList_of_made] at hown1
  have hT1 : RowT w1 w.heap.size 29 (rowsV (turnA f H 0) WN) := own_rowS hown1
  clear hown1 hgrow1
  go_loopw [21] (fun s21 wr => ∃ (y : Nat), y ≤ H ∧ s21 = .int .i64 (y : Int) ∧ RowT wr w.heap.size 29 (rowsV (turnA f H y) WN) ∧ Below w.heap.size w wr) (fun s21 _ => H - (intOf s21).toNat)
  case atStart => exact ⟨0, by omega, rfl, hT1, hBm⟩
  case round =>
    clear hT1 hBm
    obtain ⟨y, hy, rfl, hT, hB⟩ := hrel
    by_cases hlt : y < H
    · obtain ⟨gr, off, rfl, hgr, hc⟩ := HR.out.resolve_left (by omega)
      have c0 : wr.cell? ⟨gr, off + y, none⟩ = some (.int .u64 ((f y : Nat) : Int)) := (hB.cell (p := ⟨gr, off + y, none⟩) hgr).trans (hc y hlt)
      clear hc
      have y0 : (0 : Int) ≤ (y : Int) := by omega
      have y1 : (y : Int) < (H : Int) := by omega
      have HT := Lib.hid hT
      clear hT
      go_wp2
      have hT : RowT wr w.heap.size 29 (rowsV (midF f H y 0) WN) := by
        have e : rowsV (midF f H y 0) WN = rowsV (turnA f H y) WN := rowsV_eq (fun k _ => by unfold midF; rw [if_neg (by omega)])
        rw [e]
        exact HT.out
      go_loopw [28] (fun s28 wq => ∃ (x : Nat), x ≤ WN ∧ s28 = .int .i64 (x : Int) ∧ RowT wq w.heap.size 29 (rowsV (midF f H y x) WN) ∧ Below w.heap.size w wq) (fun s28 _ => WN - (intOf s28).toNat)
      case atStart => exact ⟨0, by omega, rfl, (by first | exact hT | exact RowT.like_ hT), (by first | exact hB | exact hB.drew)⟩
      case round =>
        clear hT hB c0
        obtain ⟨x, hx, rfl, hT, hB⟩ := hrel
        by_cases hlx : x < WN
        · obtain ⟨zv, hzv⟩ : ∃ z, turnA f H y x = z := ⟨_, rfl⟩
          have d0 : wr.cell? ⟨w.heap.size, x, none⟩ = some (.int .u64 ((zv : Nat) : Int)) := hT.cell_ (by rw [rowsV_at _ _ _ hlx]; unfold midF; rw [if_neg (by omega), hzv])
          have f0 := hT.free x
          have x0 : (0 : Int) ≤ (x : Int) := by omega
          have x1 : (x : Int) < (WN : Int) := by omega
          have x64 : x < 64 := by omega
          obtain ⟨q, hq⟩ : ∃ q, f y >>> x &&& 1 = q := ⟨_, rfl⟩
          obtain ⟨s, hs⟩ : ∃ s, H - 1 - y = s := ⟨_, rfl⟩
          obtain ⟨nv, hnv⟩ : ∃ v, zv ||| (q <<< s) = v := ⟨_, rfl⟩
          have hzl : zv < 18446744073709551616 := by rw [← hzv]; exact turnA_lt f H y x hy hH
          have hq1 : q ≤ 1 := by rw [← hq]; exact Nat.and_le_right
          have ew : IntKind.i64.wrap ((H : Int) - 1) = (H : Int) - 1 := wrapS _ (by omega) (by omega)
          have ew2 : IntKind.i64.wrap ((H : Int) - 1 - (y : Int)) = (s : Int) := by rw [show (H : Int) - 1 - (y : Int) = (s : Int) by omega]; exact wrapS _ (by omega) (by omega)
          have hs63 : s ≤ 63 := by omega
          have HV : Hid (bits .or .u64 (zv : Int) (IntKind.u64.wrap (bits .and .u64 (((f y : Nat) : Int) / 2 ^ x) 1 * 2 ^ s)) = (nv : Int)) := Lib.hid (by
            have a1 : ((f y : Nat) : Int) / 2 ^ x = ((f y >>> x : Nat) : Int) := by rw [Nat.shiftRight_eq_div_pow]; push_cast; rfl
            have a2 : f y >>> x < 18446744073709551616 := by rw [Nat.shiftRight_eq_div_pow]; exact Nat.lt_of_le_of_lt (Nat.div_le_self _ _) (hf.out y)
            have a3 : bits .and .u64 ((f y >>> x : Nat) : Int) 1 = (q : Int) := by rw [← hq]; exact u64_and_nat (f y >>> x) 1 a2 (by decide)
            have a4 : (q : Int) * 2 ^ s = ((q <<< s : Nat) : Int) := by rw [Nat.shiftLeft_eq]; push_cast; rfl
            have a5 : q <<< s < 18446744073709551616 := by
              rw [Nat.shiftLeft_eq]
              exact Nat.lt_of_le_of_lt (Nat.mul_le_mul hq1 (Nat.pow_le_pow_right (by decide) hs63)) (by decide)
            rw [a1, a3, a4, wrap_u64 _ a5, u64_or_nat _ _ hzl a5, hnv])
          have HT2 := Lib.hid hT
          have HZ := Lib.hid (And.intro hzv (And.intro hq (And.intro hs hnv)))
          clear hT hzv hq hs hnv
          go_upto_region 10 with fail
          refine wp_region_noPanic ?_
          refine wp_region_held_drew (S := (fun _ => True)) (by kernel_rfl) ?_ (fun hHeld => ?_)
          · exact trivial
          refine wpAnyH_take (i := 0) (oi := { dst := some 31, op := Op.move (Operand.tmp 5), type := 22, pos := "raster.go:134", after := #[], guard := none }) (v := ?_) rfl (by kernel_rfl) (by kernel_rfl) (by kernel_rfl) (fun _ _ _ h => h) (Or.inl ⟨by rfl, ?_⟩) (by assumption) ?_
          rotate_left
          · (intro wS hSw; (try dsimp only at hSw); go_simp; (try with_reducible rfl))
          try simp only [Act.put, List.setIfInBounds_toArray, List.set_cons_zero, List.set_cons_succ]
          refine wpAnyH_take (i := 1) (oi := { dst := some 32, op := Op.move (Operand.tmp 8), type := 3, pos := "raster.go:134", after := #[], guard := none }) (v := ?_) rfl (by kernel_rfl) (by kernel_rfl) (by kernel_rfl) (fun _ _ _ h => h) (Or.inl ⟨by rfl, ?_⟩) (by assumption) ?_
          rotate_left
          · (intro wS hSw; (try dsimp only at hSw); go_simp; (try with_reducible rfl))
          try simp only [Act.put, List.setIfInBounds_toArray, List.set_cons_zero, List.set_cons_succ]
          refine wpAnyH_take (i := 2) (oi := { dst := some 33, op := Op.indexAddr 22 (Operand.tmp 31) (Operand.tmp 32), type := 0, pos := "raster.go:134", after := #[{ on := 0, ground := Ground.data }, { on := 1, ground := Ground.data }], guard := none }) (v := ?_) rfl (by kernel_rfl) (by kernel_rfl) (by kernel_rfl) (fun _ _ _ h => h) (Or.inl ⟨by rfl, ?_⟩) (by assumption) ?_
          rotate_left
          · (intro wS hSw; (try dsimp only at hSw); go_simp; (try with_reducible rfl))
          try simp only [Act.put, List.setIfInBounds_toArray, List.set_cons_zero, List.set_cons_succ]
          refine wpAnyH_take (i := 4) (oi := { dst := some 35, op := Op.move (Operand.tmp 7), type := 29, pos := "raster.go:134", after := #[], guard := none }) (v := ?_) rfl (by kernel_rfl) (by kernel_rfl) (by kernel_rfl) (fun _ _ _ h => h) (Or.inl ⟨by rfl, ?_⟩) (by assumption) ?_
          rotate_left
          · (intro wS hSw; (try dsimp only at hSw); go_simp; (try with_reducible rfl))
          try simp only [Act.put, List.setIfInBounds_toArray, List.set_cons_zero, List.set_cons_succ]
          refine wpAnyH_take (i := 5) (oi := { dst := some 36, op := Op.move (Operand.tmp 8), type := 3, pos := "raster.go:134", after := #[], guard := none }) (v := ?_) rfl (by kernel_rfl) (by kernel_rfl) (by kernel_rfl) (fun _ _ _ h => h) (Or.inl ⟨by rfl, ?_⟩) (by assumption) ?_
          rotate_left
          · (intro wS hSw; (try dsimp only at hSw); go_simp; (try with_reducible rfl))
          try simp only [Act.put, List.setIfInBounds_toArray, List.set_cons_zero, List.set_cons_succ]
          refine wpAnyH_take (i := 6) (oi := { dst := some 37, op := Op.binOp BinOp.shr 29 (Operand.tmp 35) (Operand.tmp 36) 3, type := 29, pos := "raster.go:134", after := #[{ on := 4, ground := Ground.data }, { on := 5, ground := Ground.data }], guard := none }) (v := ?_) rfl (by kernel_rfl) (by kernel_rfl) (by kernel_rfl) (fun _ _ _ h => h) (Or.inl ⟨by rfl, ?_⟩) (by assumption) ?_
          rotate_left
          · (intro wS hSw; (try dsimp only at hSw); go_simp; (try with_reducible rfl))
          try simp only [Act.put, List.setIfInBounds_toArray, List.set_cons_zero, List.set_cons_succ]
          refine wpAnyH_take (i := 7) (oi := { dst := some 38, op := Op.binOp BinOp.and 29 (Operand.tmp 37) (Operand.const (Value.int IntKind.u64 1)) 29, type := 29, pos := "raster.go:134", after := #[{ on := 6, ground := Ground.data }], guard := none }) (v := ?_) rfl (by kernel_rfl) (by kernel_rfl) (by kernel_rfl) (fun _ _ _ h => h) (Or.inl ⟨by rfl, ?_⟩) (by assumption) ?_
          rotate_left
          · (intro wS hSw; (try dsimp only at hSw); go_simp; (try with_reducible rfl))
          try simp only [Act.put, List.setIfInBounds_toArray, List.set_cons_zero, List.set_cons_succ]
          refine wpAnyH_take (i := 8) (oi := { dst := some 39, op := Op.move (Operand.tmp 0), type := 22, pos := "raster.go:134", after := #[], guard := none }) (v := ?_) rfl (by kernel_rfl) (by kernel_rfl) (by kernel_rfl) (fun _ _ _ h => h) (Or.inl ⟨by rfl, ?_⟩) (by assumption) ?_
          rotate_left
          · (intro wS hSw; (try dsimp only at hSw); go_simp; (try with_reducible rfl))
          try simp only [Act.put, List.setIfInBounds_toArray, List.set_cons_zero, List.set_cons_succ]
          refine wpAnyH_take (i := 9) (oi := { dst := some 40, op := Op.call { callee := Callee.builtin Builtin.len, args := #[Operand.tmp 39], argTypes := #[22] }, type := 3, pos := "raster.go:134", after := #[{ on := 8, ground := Ground.data }], guard := none }) (v := ?_) rfl (by kernel_rfl) (by kernel_rfl) (by kernel_rfl) (fun _ _ _ h => h) (Or.inl ⟨by rfl, ?_⟩) (by assumption) ?_
          rotate_left
          · (intro wS hSw; (try dsimp only at hSw); go_simp; (try with_reducible rfl))
          try simp only [Act.put, List.setIfInBounds_toArray, List.set_cons_zero, List.set_cons_succ]
          refine wpAnyH_take (i := 10) (oi := { dst := some 41, op := Op.binOp BinOp.sub 3 (Operand.tmp 40) (Operand.const (Value.int IntKind.i64 1)) 3, type := 3, pos := "raster.go:134", after := #[{ on := 9, ground := Ground.data }], guard := none }) (v := ?_) rfl (by kernel_rfl) (by kernel_rfl) (by kernel_rfl) (fun _ _ _ h => h) (Or.inl ⟨by rfl, ?_⟩) (by assumption) ?_
          rotate_left
          · (intro wS hSw; (try dsimp only at hSw); go_simp; (try with_reducible rfl))
          try simp only [Act.put, List.setIfInBounds_toArray, List.set_cons_zero, List.set_cons_succ]
          refine wpAnyH_take (i := 11) (oi := { dst := some 42, op := Op.move (Operand.tmp 6), type := 3, pos := "raster.go:134", after := #[], guard := none }) (v := ?_) rfl (by kernel_rfl) (by kernel_rfl) (by kernel_rfl) (fun _ _ _ h => h) (Or.inl ⟨by rfl, ?_⟩) (by assumption) ?_
          rotate_left
          · (intro wS hSw; (try dsimp only at hSw); go_simp; (try with_reducible rfl))
          try simp only [Act.put, List.setIfInBounds_toArray, List.set_cons_zero, List.set_cons_succ]
          refine wpAnyH_take (i := 12) (oi := { dst := some 43, op := Op.binOp BinOp.sub 3 (Operand.tmp 41) (Operand.tmp 42) 3, type := 3, pos := "raster.go:134", after := #[{ on := 10, ground := Ground.data }, { on := 11, ground := Ground.data }], guard := none }) (v := ?_) rfl (by kernel_rfl) (by kernel_rfl) (by kernel_rfl) (fun _ _ _ h => h) (Or.inl ⟨by rfl, ?_⟩) (by assumption) ?_
          rotate_left
          · (intro wS hSw; (try dsimp only at hSw); go_simp; (try with_reducible rfl))
          try simp only [Act.put, List.setIfInBounds_toArray, List.set_cons_zero, List.set_cons_succ]
          refine wpAnyH_take (i := 13) (oi := { dst := some 44, op := Op.binOp BinOp.shl 29 (Operand.tmp 38) (Operand.tmp 43) 3, type := 29, pos := "raster.go:134", after := #[{ on := 7, ground := Ground.data }, { on := 12, ground := Ground.data }], guard := none }) (v := ?_) rfl (by kernel_rfl) (by kernel_rfl) (by kernel_rfl) (fun _ _ _ h => h) (Or.inl ⟨by rfl, ?_⟩) (by assumption) ?_
          rotate_left
          · (intro wS hSw; (try dsimp only at hSw); go_simp; (try with_reducible rfl))
          try simp only [Act.put, List.setIfInBounds_toArray, List.set_cons_zero, List.set_cons_succ]
          refine wpAnyH_ready (rs := [3]) (by kernel_rfl) (by simp) ?_
          refine AllReadyH.cons (o := { dst := some 34, op := Op.load 29 (Operand.tmp 33), type := 29, pos := "raster.go:134", after := #[{ on := 2, ground := Ground.data }], guard := none }) rfl (fun K hK => ?_) AllReadyH.nil
          go_simp
          refine hK.out _ _ ?_ (fun hNew => ?_)
          · exact trivial
          clear hK K hHeld
          have hHeld := hNew
          clear hNew
          try simp only [Act.put, List.setIfInBounds_toArray, List.set_cons_zero, List.set_cons_succ]
          refine wpAnyH_take (i := 14) (oi := { dst := some 45, op := Op.binOp BinOp.or 29 (Operand.tmp 34) (Operand.tmp 44) 29, type := 29, pos := "raster.go:134", after := #[{ on := 3, ground := Ground.data }, { on := 13, ground := Ground.data }], guard := none }) (v := ?_) rfl (by kernel_rfl) (by kernel_rfl) (by kernel_rfl) (fun _ _ _ h => h) (Or.inl ⟨by rfl, ?_⟩) (by assumption) ?_
          rotate_left
          · (intro wS hSw; (try dsimp only at hSw); go_simp; (try with_reducible rfl))
          try simp only [Act.put, List.setIfInBounds_toArray, List.set_cons_zero, List.set_cons_succ]
          refine wpAnyH_take (i := 15) (oi := { dst := some 46, op := Op.indexAddr 22 (Operand.tmp 31) (Operand.tmp 32), type := 0, pos := "raster.go:134", after := #[{ on := 0, ground := Ground.data }, { on := 1, ground := Ground.data }, { on := 0, ground := Ground.phase }, { on := 1, ground := Ground.phase }, { on := 2, ground := Ground.phase }, { on := 3, ground := Ground.phase }, { on := 4, ground := Ground.phase }, { on := 5, ground := Ground.phase }, { on := 6, ground := Ground.phase }, { on := 7, ground := Ground.phase }, { on := 8, ground := Ground.phase }, { on := 9, ground := Ground.phase }, { on := 10, ground := Ground.phase }, { on := 11, ground := Ground.phase }, { on := 12, ground := Ground.phase }, { on := 13, ground := Ground.phase }, { on := 14, ground := Ground.phase }], guard := none }) (v := ?_) rfl (by kernel_rfl) (by kernel_rfl) (by kernel_rfl) (fun _ _ _ h => h) (Or.inl ⟨by rfl, ?_⟩) (by assumption) ?_
          rotate_left
          · (intro wS hSw; (try dsimp only at hSw); go_simp; (try with_reducible rfl))
          try simp only [Act.put, List.setIfInBounds_toArray, List.set_cons_zero, List.set_cons_succ]
          refine wpAnyH_ready (rs := [16]) (by kernel_rfl) (by simp) ?_
          refine AllReadyH.cons (o := { dst := none, op := Op.store 29 (Operand.tmp 46) (Operand.tmp 45), type := 0, pos := "raster.go:134", after := #[{ on := 15, ground := Ground.data }, { on := 14, ground := Ground.data }, { on := 0, ground := Ground.phase }, { on := 1, ground := Ground.phase }, { on := 2, ground := Ground.phase }, { on := 3, ground := Ground.phase }, { on := 4, ground := Ground.phase }, { on := 5, ground := Ground.phase }, { on := 6, ground := Ground.phase }, { on := 7, ground := Ground.phase }, { on := 8, ground := Ground.phase }, { on := 9, ground := Ground.phase }, { on := 10, ground := Ground.phase }, { on := 11, ground := Ground.phase }, { on := 12, ground := Ground.phase }, { on := 13, ground := Ground.phase }, { on := 14, ground := Ground.phase }], guard := none }) rfl (fun K hK => ?_) AllReadyH.nil
          go_simp
          refine hK.out _ _ ?_ (fun hNew => ?_)
          · exact trivial
          clear hK K hHeld
          have hHeld := hNew
          clear hNew
          try simp only [Act.put, List.setIfInBounds_toArray, List.set_cons_zero, List.set_cons_succ]
          refine wpAnyH_done (by kernel_rfl) ?_ _
          refine NoPanic.normal ?_
          go_wp2_with fail
          rw [HV.out]
          go_roundw
          case rel => exact ⟨x + 1, by omega, by go_num, (by
            have e : rowsV (midF f H y (x + 1)) WN = (rowsV (midF f H y x) WN).set x (.int .u64 ((nv : Nat) : Int)) := by
              rw [rowsV_set _ _ _ _ hlx]
              refine rowsV_eq (fun k _ => ?_)
              unfold midF
              by_cases hk : k = x
              · subst hk
                rw [if_pos rfl, if_pos (by omega)]
                show turnA f H y k ||| _ = nv
                rw [HZ.out.1, HZ.out.2.1, HZ.out.2.2.1, HZ.out.2.2.2]
              · rw [if_neg hk]
                by_cases hk2 : k < x
                · rw [if_pos hk2, if_pos (by omega)]
                · rw [if_neg hk2, if_neg (by omega)]
            rw [e]
            first | exact HT2.out.set_ (by rw [rowsV_len]; exact hlx) _ | exact RowT.like_ (HT2.out.set_ (by rw [rowsV_len]; exact hlx) _)), (by first | exact hB.setCell (Nat.le_refl _) _ | exact (hB.setCell (Nat.le_refl _) _).drew)⟩
          case measure => simp [intOf]; omega
        · obtain rfl : x = WN := by omega
          have HT2 := Lib.hid hT
          clear hT
          go_wp2
          go_roundw
          case rel => exact ⟨y + 1, by omega, by go_num, (by
            have e : rowsV (midF f H y x) x = rowsV (turnA f H (y + 1)) x := rowsV_eq (fun k hk => by unfold midF; rw [if_pos hk])
            rw [← e]
            exact HT2.out), hB⟩
          case measure => simp [intOf]; omega
    · obtain rfl : y = H := by omega
      have HT := Lib.hid hT
      clear hT
      go_wp2
      go_ret
      exact ⟨⟨_, rfl, HT.out, Nat.le_refl _⟩, hB⟩
set_option maxRecDepth 100000 in
set_option maxHeartbeats 4000000 in
theorem same_o (f : Nat → Nat) (H : Nat) (A B : Option Addr) (c1 c2 : Nat) (w : World) (hH : H ≤ 80) (h1 : RowO w A H f) (h2 : RowO w B H f) : Calls Tryd.prog 9 #[.slice A H c1, .slice B H c2] w fun e' w' => e' = .returned (.bool true) ∧ Below w.heap.size w w' := by
  have H1 := Lib.hid h1
  have H2 := Lib.hid h2
  clear h1 h2
  go_enter Tryd.func9, Tryd.ntmps9
  go_wp2
  go_loopw [5] (fun s5 wr => ∃ k : Nat, k ≤ H ∧ s5 = .int .i64 (k : Int) ∧ Below w.heap.size w wr) (fun s5 _ => H - (intOf s5).toNat)
  case atStart => exact ⟨0, Nat.zero_le _, rfl, Below.refl _ _⟩
  case round =>
    obtain ⟨k, hk, rfl, hB⟩ := hrel
    by_cases hlt : k < H
    · obtain ⟨g1, o1, rfl, l1, hc1⟩ := H1.out.resolve_left (by omega)
      obtain ⟨g2, o2, rfl, l2, hc2⟩ := H2.out.resolve_left (by omega)
      have cx : wr.cell? ⟨g1, o1 + k, none⟩ = some (.int .u64 ((f k : Nat) : Int)) := (hB.cell (p := ⟨g1, o1 + k, none⟩) l1).trans (hc1 k hlt)
      have cy : wr.cell? ⟨g2, o2 + k, none⟩ = some (.int .u64 ((f k : Nat) : Int)) := (hB.cell (p := ⟨g2, o2 + k, none⟩) l2).trans (hc2 k hlt)
      clear hc1 hc2
      have k0 : (0 : Int) ≤ (k : Int) := by omega
      have k1 : (k : Int) < (H : Int) := by omega
      go_upto_region 6 with fail
      refine wp_region_noPanic ?_
      refine wp_region_held_drew (S := (fun w' => w'.cell? ⟨g1, o1 + k, none⟩ = some (.int .u64 ((f k : Nat) : Int)) ∧ w'.cell? ⟨g2, o2 + k, none⟩ = some (.int .u64 ((f k : Nat) : Int)))) (by kernel_rfl) ?_ (fun hHeld => ?_)
      · (first | exact ⟨cx, cy⟩ | assumption)
      refine wpAnyH_take (i := 0) (oi := { dst := some 17, op := Op.move (Operand.tmp 0), type := 22, pos := "law.go:29", after := #[], guard := none }) (v := ?_) rfl (by kernel_rfl) (by kernel_rfl) (by kernel_rfl) (fun _ _ _ h => h) (Or.inl ⟨by rfl, ?_⟩) (by assumption) ?_
      rotate_left
      · (intro wS hSw; (try dsimp only at hSw); go_simp; (try with_reducible rfl))
      try simp only [Act.put, List.setIfInBounds_toArray, List.set_cons_zero, List.set_cons_succ]
      refine wpAnyH_take (i := 1) (oi := { dst := some 18, op := Op.move (Operand.tmp 5), type := 3, pos := "law.go:29", after := #[], guard := none }) (v := ?_) rfl (by kernel_rfl) (by kernel_rfl) (by kernel_rfl) (fun _ _ _ h => h) (Or.inl ⟨by rfl, ?_⟩) (by assumption) ?_
      rotate_left
      · (intro wS hSw; (try dsimp only at hSw); go_simp; (try with_reducible rfl))
      try simp only [Act.put, List.setIfInBounds_toArray, List.set_cons_zero, List.set_cons_succ]
      refine wpAnyH_take (i := 2) (oi := { dst := some 19, op := Op.indexAddr 22 (Operand.tmp 17) (Operand.tmp 18), type := 0, pos := "law.go:29", after := #[{ on := 0, ground := Ground.data }, { on := 1, ground := Ground.data }], guard := none }) (v := ?_) rfl (by kernel_rfl) (by kernel_rfl) (by kernel_rfl) (fun _ _ _ h => h) (Or.inl ⟨by rfl, ?_⟩) (by assumption) ?_
      rotate_left
      · (intro wS hSw; (try dsimp only at hSw); go_simp; (try with_reducible rfl))
      try simp only [Act.put, List.setIfInBounds_toArray, List.set_cons_zero, List.set_cons_succ]
      refine wpAnyH_take (i := 3) (oi := { dst := some 20, op := Op.load 29 (Operand.tmp 19), type := 29, pos := "law.go:29", after := #[{ on := 2, ground := Ground.data }], guard := none }) (v := ?_) rfl (by kernel_rfl) (by kernel_rfl) (by kernel_rfl) (fun _ _ _ h => h) (Or.inl ⟨by rfl, ?_⟩) (by assumption) ?_
      rotate_left
      · (intro wS hSw; (try dsimp only at hSw); go_simp; (try with_reducible rfl))
      try simp only [Act.put, List.setIfInBounds_toArray, List.set_cons_zero, List.set_cons_succ]
      refine wpAnyH_take (i := 4) (oi := { dst := some 21, op := Op.move (Operand.tmp 1), type := 22, pos := "law.go:29", after := #[], guard := none }) (v := ?_) rfl (by kernel_rfl) (by kernel_rfl) (by kernel_rfl) (fun _ _ _ h => h) (Or.inl ⟨by rfl, ?_⟩) (by assumption) ?_
      rotate_left
      · (intro wS hSw; (try dsimp only at hSw); go_simp; (try with_reducible rfl))
      try simp only [Act.put, List.setIfInBounds_toArray, List.set_cons_zero, List.set_cons_succ]
      refine wpAnyH_take (i := 5) (oi := { dst := some 22, op := Op.move (Operand.tmp 5), type := 3, pos := "law.go:29", after := #[], guard := none }) (v := ?_) rfl (by kernel_rfl) (by kernel_rfl) (by kernel_rfl) (fun _ _ _ h => h) (Or.inl ⟨by rfl, ?_⟩) (by assumption) ?_
      rotate_left
      · (intro wS hSw; (try dsimp only at hSw); go_simp; (try with_reducible rfl))
      try simp only [Act.put, List.setIfInBounds_toArray, List.set_cons_zero, List.set_cons_succ]
      refine wpAnyH_take (i := 6) (oi := { dst := some 23, op := Op.indexAddr 22 (Operand.tmp 21) (Operand.tmp 22), type := 0, pos := "law.go:29", after := #[{ on := 4, ground := Ground.data }, { on := 5, ground := Ground.data }], guard := none }) (v := ?_) rfl (by kernel_rfl) (by kernel_rfl) (by kernel_rfl) (fun _ _ _ h => h) (Or.inl ⟨by rfl, ?_⟩) (by assumption) ?_
      rotate_left
      · (intro wS hSw; (try dsimp only at hSw); go_simp; (try with_reducible rfl))
      try simp only [Act.put, List.setIfInBounds_toArray, List.set_cons_zero, List.set_cons_succ]
      refine wpAnyH_take (i := 7) (oi := { dst := some 24, op := Op.load 29 (Operand.tmp 23), type := 29, pos := "law.go:29", after := #[{ on := 6, ground := Ground.data }], guard := none }) (v := ?_) rfl (by kernel_rfl) (by kernel_rfl) (by kernel_rfl) (fun _ _ _ h => h) (Or.inl ⟨by rfl, ?_⟩) (by assumption) ?_
      rotate_left
      · (intro wS hSw; (try dsimp only at hSw); go_simp; (try with_reducible rfl))
      try simp only [Act.put, List.setIfInBounds_toArray, List.set_cons_zero, List.set_cons_succ]
      refine wpAnyH_take (i := 8) (oi := { dst := some 25, op := Op.binOp BinOp.neq 29 (Operand.tmp 20) (Operand.tmp 24) 29, type := 4, pos := "law.go:29", after := #[{ on := 3, ground := Ground.data }, { on := 7, ground := Ground.data }], guard := none }) (v := ?_) rfl (by kernel_rfl) (by kernel_rfl) (by kernel_rfl) (fun _ _ _ h => h) (Or.inl ⟨by rfl, ?_⟩) (by assumption) ?_
      rotate_left
      · (intro wS hSw; (try dsimp only at hSw); go_simp; (try with_reducible rfl))
      try simp only [Act.put, List.setIfInBounds_toArray, List.set_cons_zero, List.set_cons_succ]
      refine wpAnyH_done (by kernel_rfl) ?_ _
      refine NoPanic.normal ?_
      go_wp2_with fail
      go_roundw
      case rel => exact ⟨k + 1, by omega, by go_num, (by first | exact hB | exact hB.drew)⟩
      case measure => simp [intOf]; omega
    · obtain rfl : k = H := by omega
      go_wp2
      go_ret
      exact ⟨rfl, hB⟩
set_option maxRecDepth 100000 in
set_option maxHeartbeats 4000000 in
theorem turn_ref (A : Option Addr) (H c : Nat) (W : Int) (w : World) (hb : ¬ (1 ≤ W ∧ W ≤ 64) ∨ 64 < H) : Calls Tryd.prog 6 #[.slice A H c, .int .i64 W] w fun e' w' => e' = .returned (.slice none 0 0) ∧ w = w' := by
  by_cases hW : 1 ≤ W ∧ W ≤ 64
  · have gH : (64 : Int) < (H : Int) := by omega
    have HWI : Hid ((decide (1 ≤ W) && decide (W ≤ 64)) = true) := Lib.hid (by rw [decide_eq_true (by omega), decide_eq_true (by omega)]; rfl)
    clear hb hW
    go_enter Tryd.func6, Tryd.ntmps6
    go_wp2_with (go_at_call 18; go_loud (((with_reducible refine (within_b W 64 true _ HWI).mono ?_); rintro e' wN ⟨rfl, rfl⟩; skip)))
    go_ret
    exact ⟨rfl, rfl⟩
  · have HWI : Hid ((decide (1 ≤ W) && decide (W ≤ 64)) = false) := Lib.hid (by rw [Bool.and_eq_false_iff, decide_eq_false_iff_not, decide_eq_false_iff_not]; omega)
    clear hb hW
    go_enter Tryd.func6, Tryd.ntmps6
    go_wp2_with (go_at_call 18; go_loud (((with_reducible refine (within_b W 64 false _ HWI).mono ?_); rintro e' wN ⟨rfl, rfl⟩; skip)))
    go_ret
    exact ⟨rfl, rfl⟩
/-! ### chapter 25's own -/
theorem bit_val (v x : Nat) : v >>> x &&& 1 = (v.testBit x).toNat := by
  rw [Nat.testBit_eq_decide_div_mod_eq, Nat.and_one_is_mod, Nat.shiftRight_eq_div_pow]
  rcases Nat.mod_two_eq_zero_or_one (v / 2 ^ x) with h | h <;> simp [h]
set_option maxRecDepth 100000 in
set_option maxHeartbeats 4000000 in
theorem bit_o (A : Option Addr) (H c x y : Nat) (f : Nat → Nat) (b : Bool) (w : World) (hR : RowO w A H f) (hx : x ≤ 63) (hy : y < H) (hf : Hid (∀ y, f y < 18446744073709551616)) (hb : Hid ((f y).testBit x = b)) : Calls Tryd.prog 21 #[.slice A H c, .int .i64 (x : Int), .int .i64 (y : Int)] w fun e' w' => e' = .returned (.bool b) ∧ w = w' := by
  obtain ⟨gr, off, rfl, hgr, hc⟩ := hR.resolve_left (by omega)
  have c0 := hc y hy
  have y0 : (0 : Int) ≤ (y : Int) := by omega
  have y1 : (y : Int) < (H : Int) := by omega
  have x0 : (0 : Int) ≤ (x : Int) := by omega
  have x1 : (x : Int) ≤ 64 := by omega
  have a1 : ((f y : Nat) : Int) / 2 ^ x = ((f y >>> x : Nat) : Int) := by rw [Nat.shiftRight_eq_div_pow]; push_cast; rfl
  have a2 : f y >>> x < 18446744073709551616 := by rw [Nat.shiftRight_eq_div_pow]; exact Nat.lt_of_le_of_lt (Nat.div_le_self _ _) (hf.out y)
  have a3 : bits .and .u64 (((f y : Nat) : Int) / 2 ^ x) 1 = (((f y).testBit x).toNat : Int) := by rw [a1, ← bit_val]; exact u64_and_nat (f y >>> x) 1 a2 (by decide)
  rw [hb.out] at a3
  clear a1 a2 hc
  cases b
  · have a4 : bits .and .u64 (((f y : Nat) : Int) / 2 ^ x) 1 = 0 := a3
    clear a3
    go_enter Tryd.func21, Tryd.ntmps21
    go_wp2
    go_ret
    exact ⟨rfl, rfl⟩
  · have a4 : bits .and .u64 (((f y : Nat) : Int) / 2 ^ x) 1 = 1 := a3
    clear a3
    go_enter Tryd.func21, Tryd.ntmps21
    go_wp2
    go_ret
    exact ⟨rfl, rfl⟩
set_option maxRecDepth 100000 in
set_option maxHeartbeats 4000000 in
theorem rwithin (n lo hi : Int) (b : Bool) (w : World) (hb : Hid ((decide (lo ≤ n) && decide (n ≤ hi)) = b)) : Calls Tryd.prog 22 #[.int .i64 n, .int .i64 lo, .int .i64 hi] w fun e' w' => e' = .returned (.bool b) ∧ w = w' := by
  obtain rfl := hb.out
  by_cases h1 : lo ≤ n
  · by_cases h2 : n ≤ hi
    · have e : (decide (lo ≤ n) && decide (n ≤ hi)) = true := by rw [decide_eq_true h1, decide_eq_true h2]; rfl
      rw [e]
      go_enter Tryd.func22, Tryd.ntmps22
      go_wp2
      go_ret
      exact ⟨rfl, rfl⟩
    · have e : (decide (lo ≤ n) && decide (n ≤ hi)) = false := by rw [decide_eq_false h2, Bool.and_false]
      rw [e]
      go_enter Tryd.func22, Tryd.ntmps22
      go_wp2
      go_ret
      exact ⟨rfl, rfl⟩
  · have e : (decide (lo ≤ n) && decide (n ≤ hi)) = false := by rw [decide_eq_false h1, Bool.false_and]
    rw [e]
    go_enter Tryd.func22, Tryd.ntmps22
    go_wp2
    go_ret
    exact ⟨rfl, rfl⟩
end Go.Proofs.YtnbiioighjdkjaaDoor
