/- Floor; a quotient by one; sheets of one stroke; places. -/
import Derived.Test.YtnbiioighjdkjaaDoorRaB
namespace Go.Proofs.YtnbiioighjdkjaaDoor
open Go.ChangeShapes Go.WideShapes Go.ChangeAt Go.RowKit
set_option linter.unusedSimpArgs false
set_option linter.unusedVariables false

open Ieee in
theorem cut_down (s : Bool) (X d : Nat) (hd : d ≤ (X * 2 ^ d).log2 + 2) : Toward.down.cut s (X * 2 ^ d) d = X := by
  unfold Toward.cut
  dsimp only
  rw [Nat.min_eq_left hd, Nat.one_shiftLeft, Nat.mul_div_cancel _ (Nat.two_pow_pos d), Nat.mul_mod_left]
  simp
open Ieee in
theorem cut_down0 (s : Bool) (d : Nat) : Toward.down.cut s 0 d = 0 := by
  unfold Toward.cut
  simp
open Ieee in
theorem integral_down {d : Datum} {z : Int} (h : Val d z) : Val (d.integral .down) z ∧ (d.integral .down).neg = d.neg := by
  obtain ⟨s, k, rfl, hs⟩ := h
  have e : Toward.down.cut s ((z.natAbs * 2 ^ k) <<< (-(k : Int)).toNat) (- -(k : Int)).toNat = z.natAbs := by
    rw [show (-(k : Int)).toNat = 0 by omega, show (- -(k : Int)).toNat = k by omega, Nat.shiftLeft_zero]
    by_cases hz : z = 0
    · subst hz
      rw [show (0 : Int).natAbs * 2 ^ k = 0 by simp, cut_down0]
      rfl
    · refine cut_down s _ k ?_
      rw [log2_shift (by omega)]
      omega
  refine ⟨⟨s, 0, ?_, hs⟩, rfl⟩
  simp only [Datum.integral, e]
  simp
open Ieee in
theorem floor_F {z : Int} (hb : z.natAbs < 9007199254740992) : DB.write ((DB.read (F z)).integral .down) = F z := by
  obtain ⟨⟨s, k, h, hs⟩, hn⟩ := integral_down ((IsI.f z).val hb)
  rw [neg_F hb] at hn
  rw [h] at hn ⊢
  exact write_F hb hn
theorem floor_run (b : Nat) (s : Bool) (m : Nat) (e : Int) (P : Program) (w : World) (h3 : FloatKind.f64.decode b = .number s m e) : (Extern.MathFloor.toIntegral "math.archFloor" .down #[.float .f64 b]).run P w = .ok (.float .f64 (FloatKind.f64.encode (Ieee.Datum.integral .down (.number s m e)))) w := by
  have e : ∀ (h1 : Nat → Sem Value) (h2 : Array Value → Sem Value), Extern.MathFloor.toIntegral.match_2 (fun _ => Sem Value) #[.float .f64 b] h1 h2 = h1 b := fun _ _ => rfl
  unfold Extern.MathFloor.toIntegral
  rw [e]
  rw [h3]
  rfl
theorem call_floor (z : Int) (w : World) (hz : Sm z) : (callFunc 39 #[.float .f64 (F z)]).run Tryd.prog w = .ok (.value (.float .f64 (F z))) w := by
  obtain ⟨s, k, h, -⟩ := (IsI.f z).val hz
  have h2 := floor_F hz
  rw [h] at h2
  rw [run_callFunc_extern Tryd.func39 (by kernel_rfl) (by kernel_rfl) (by kernel_rfl) (e := Extern.MathFloor.toIntegral "math.archFloor" .down) (by kernel_rfl), floor_run (F z) _ _ _ _ w h, show FloatKind.f64.encode (Ieee.Datum.integral .down (.number s (z.natAbs * 2 ^ k) (-(k : Int)))) = F z from h2]
  rfl
theorem floor_c (z : Int) (w : World) (hz : Sm z) : Calls Tryd.prog 35 #[.float .f64 (F z)] w fun e' w' => e' = .returned (.float .f64 (F z)) ∧ w = w' := by
  have hcall := call_floor z w hz
  go_enter Tryd.func35, Tryd.ntmps35
  go_wp2
  go_ret
  exact ⟨rfl, rfl⟩
open Ieee in
theorem div_1 (z : Int) (hz : Sm z) : DB.div (F z) (F 1) = some (F z) := by
  have h1 : DB.read (F 1) = .number false (2 ^ 52) (-52) := by decide +kernel
  unfold Format.div
  rw [h1]
  by_cases h0 : z = 0
  · subst h0
    decide +kernel
  · have hl := log2_le (n := z.natAbs) (by omega) hz
    have hg : (z.natAbs * 2 ^ (52 - z.natAbs.log2)).log2 = 52 := by rw [log2_shift (by omega)]; omega
    rw [read_F h0 hz]
    unfold Datum.quotient
    have h2 : (2 ^ 52 : Nat).log2 = 52 := by decide +kernel
    rw [frac_db]
    simp only [h2, hg, if_neg (show ¬ (2 ^ 52 : Nat) = 0 by decide)]
    rw [show (52 + 2 + 52 - 52 : Nat) = 54 by rfl, Nat.shiftLeft_eq, show (2 : Nat) ^ 54 = 4 * 2 ^ 52 by decide, ← Nat.mul_assoc, Nat.mul_div_cancel _ (by decide), Nat.mul_mod_left]
    have e1 : 2 * (z.natAbs * 2 ^ (52 - z.natAbs.log2) * 4) + (((0 : Nat) != 0) : Bool).toNat = z.natAbs * 2 ^ (55 - z.natAbs.log2) := by
      rw [show 55 - z.natAbs.log2 = (52 - z.natAbs.log2) + 3 by omega, Nat.pow_add]
      generalize 2 ^ (52 - z.natAbs.log2) = T
      show 2 * (z.natAbs * T * 4) + 0 = z.natAbs * (T * 8)
      have : z.natAbs * (T * 8) = z.natAbs * T * 8 := by rw [Nat.mul_assoc]
      omega
    have e2 : (-((52 - z.natAbs.log2 : Nat) : Int) - -52 - ((54 : Nat) : Int) - 1 : Int) = -((55 - z.natAbs.log2 : Nat) : Int) := by omega
    rw [e1, e2]
    simp only [Option.map_some, Bool.xor_false]
    exact congrArg some (write_F hz rfl)
theorem within_any (x g : Int) (w : World) : Calls Tryd.prog 18 #[.int .i64 x, .int .i64 g] w fun e' w' => e' = .returned (.bool (decide (1 ≤ x) && decide (x ≤ g))) ∧ w = w' := by
  by_cases h1 : 1 ≤ x
  · by_cases h2 : x ≤ g
    · rw [decide_eq_true h1, decide_eq_true h2]
      go_enter Tryd.func18, Tryd.ntmps18
      go_wp2
      go_ret
      exact ⟨rfl, rfl⟩
    · rw [decide_eq_true h1, decide_eq_false h2]
      go_enter Tryd.func18, Tryd.ntmps18
      go_wp2
      go_ret
      exact ⟨rfl, rfl⟩
  · rw [decide_eq_false h1]
    go_enter Tryd.func18, Tryd.ntmps18
    go_wp2
    go_ret
    exact ⟨rfl, rfl⟩
theorem within_b (x g : Int) (T : Bool) (w : World) (h : Hid ((decide (1 ≤ x) && decide (x ≤ g)) = T)) : Calls Tryd.prog 18 #[.int .i64 x, .int .i64 g] w fun e' w' => e' = .returned (.bool T) ∧ w = w' := by
  have := within_any x g w
  rwa [h.out] at this
theorem mays_yes (pen wid : Int) (A : Option Addr) (N c : Nat) (ps : List (Int × Int)) (w : World) (hp : 0 ≤ pen ∧ pen ≤ 7) (hw : 1 ≤ wid ∧ wid ≤ 9) (hN : ps.length = N) (hN2 : 1 ≤ N ∧ N ≤ 10) (hs : Sl w w.heap.size A (ps.map cV)) (hok : PtsOk ps) :
    Calls Tryd.prog 34 #[.agg #[.int .i64 pen, .int .i64 wid, .slice A N c]] w fun e' w' => e' = .returned (.bool true) ∧ Below w.heap.size w w' := by
  have G1 : Blk (w.alloc (.cells #[.int .i64 pen, .int .i64 wid, .slice A N c] 55)) w.heap.size 55 #[.int .i64 pen, .int .i64 wid, .slice A N c] := Blk.new_ _ _ _
  have z0 := G1.cell_ 0; have z1 := G1.cell_ 1; have z2 := G1.cell_ 2; simp at z0 z1 z2
  have HN := Lib.hid hN
  have HS := Lib.hid hs
  have HO := Lib.hid hok
  clear hN hs hok
  go_enter Tryd.func34, Tryd.ntmps34
  go_wp2
  go_loopw [36] (fun s36 wr => ∃ i : Nat, i ≤ N ∧ s36 = .int .i64 (i : Int) ∧ Below w.heap.size w wr) (fun s36 _ => N - (intOf s36).toNat)
  case atStart => exact ⟨0, Nat.zero_le _, rfl, (Below.refl _ _).alloc (Nat.le_refl _) _⟩
  case round =>
    clear z0 z1 z2 G1
    obtain ⟨i, hi, rfl, hB⟩ := hrel
    by_cases hlt : i < N
    · obtain ⟨b1, o1, rfl, l1, q1⟩ := HS.out.at_ (by have := HN.out; simp; omega)
      obtain ⟨p, hp'⟩ : ∃ p, ps[i]? = some p := ⟨_, List.getElem?_eq_getElem (by have := HN.out; omega)⟩
      have hm := HO.out p (List.mem_of_getElem? hp')
      have c0 : wr.cell? ⟨b1, o1 + i, none⟩ = some (cV p) := (hB.cell (p := ⟨b1, o1 + i, none⟩) l1).trans (q1 i _ (by rw [List.getElem?_map, hp']; rfl))
      have HM : Hid ((mayZ p.1 && mayZ p.2) = true) := Lib.hid (by rw [hm.1, hm.2]; rfl)
      have HM2 := Lib.hid hm
      have i0 : (0 : Int) ≤ (i : Int) := by omega
      have i1 : (i : Int) < (N : Int) := by omega
      unfold cV at c0
      clear q1 hp' hm
      go_wp2_with (go_at_call 24; ((with_reducible refine (may_b p.1 p.2 true _ (sm_of HM2.out.1) (sm_of HM2.out.2) HM).mono ?_); rintro e' wN ⟨rfl, rfl⟩; skip))
      go_roundw
      case rel => exact ⟨i + 1, by omega, by go_num, hB⟩
      case measure => simp [intOf]; omega
    · obtain rfl : i = N := by omega
      go_wp2
      go_ret
      exact ⟨rfl, hB⟩
theorem sheet_yes (pen wid : Int) (A : Option Addr) (N c gs : Nat) (ps : List (Int × Int)) (w : World) (hG : Blk w gs 55 #[.int .i64 pen, .int .i64 wid, .slice A N c]) (hp : 0 ≤ pen ∧ pen ≤ 7) (hw : 1 ≤ wid ∧ wid ≤ 9) (hN : ps.length = N) (hN2 : 1 ≤ N ∧ N ≤ 10) (hs : Sl w w.heap.size A (ps.map cV)) (hok : PtsOk ps) :
    Calls Tryd.prog 27 #[.slice (some ⟨gs, 0, none⟩) 1 1] w fun e' w' => e' = .returned (.bool true) ∧ Below w.heap.size w w' := by
  go_enter Tryd.func27, Tryd.ntmps27
  go_wp2
  go_loopw [10] (fun s10 wr => ∃ i : Nat, i ≤ 1 ∧ s10 = .int .i64 (i : Int) ∧ Below w.heap.size w wr) (fun s10 _ => 1 - (intOf s10).toNat)
  case atStart => exact ⟨0, Nat.zero_le _, rfl, Below.refl _ _⟩
  case round =>
    obtain ⟨i, hi, rfl, hB⟩ := hrel
    by_cases hlt : i < 1
    · obtain rfl : i = 0 := by omega
      have G2 := hG.below hB hG.lt
      have y0 := G2.cell_ 0; have y1 := G2.cell_ 1; have y2 := G2.cell_ 2; simp at y0 y1 y2
      go_wp2_with (go_at_call 34; ((with_reducible refine (mays_yes pen wid A N c ps _ hp hw hN hN2 (((hs.below hB).mono hB.size).alloc_ _) hok).mono ?_); rintro e' wN ⟨rfl, hb⟩; skip))
      go_roundw
      case rel => exact ⟨0 + 1, by omega, by go_num, btr (hB.alloc hB.size _) (Nat.le_trans hB.size (by simp)) hb⟩
      case measure => simp [intOf]
    · obtain rfl : i = 1 := by omega
      go_wp2
      go_ret
      exact ⟨rfl, hB⟩
end Go.Proofs.YtnbiioighjdkjaaDoor
