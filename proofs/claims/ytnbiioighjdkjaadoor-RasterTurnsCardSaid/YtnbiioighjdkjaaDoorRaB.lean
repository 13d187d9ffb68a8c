/- Dots. -/
import Derived.Test.YtnbiioighjdkjaaDoorRaA
namespace Go.Proofs.YtnbiioighjdkjaaDoor
open Go.ChangeShapes Go.WideShapes Go.ChangeAt Go.RowKit
set_option linter.unusedSimpArgs false
set_option linter.unusedVariables false

theorem c_1000 : F 1000 = 4652007308841189376 := by decide +kernel
theorem F_lt (z : Int) (hz : Sm z) : F z < 18446744073709551616 := by
  by_cases h0 : z = 0
  · subst h0; decide
  · obtain ⟨a, b⟩ := rg_bd (n := z.natAbs) (by omega) hz
    have hl := log2_le (n := z.natAbs) (by omega) hz
    obtain ⟨c, d, -⟩ := rung_num z.natAbs.log2 (z.natAbs * 2 ^ (52 - z.natAbs.log2)) hl a b
    unfold F
    rw [if_neg h0]
    unfold rg
    unfold Ieee.Format.word
    rw [sw_db]
    cases decide (z < 0)
    · simp
      exact Nat.lt_trans d (by decide)
    · simp
      exact Nat.lt_of_lt_of_le (Nat.add_lt_add_left d _) (by decide)
theorem abs_c (z : Int) (w : World) (hz : Sm z) : Calls Tryd.prog 25 #[.float .f64 (F z)] w fun e' w' => e' = .returned (.float .f64 (F (z.natAbs : Int))) ∧ w = w' := by
  have := abs_any (F z) w (F_lt z hz)
  rwa [abs_F z hz] at this
theorem abs_b (z : Int) (n : Int) (w : World) (hz : Sm z) (h : Hid ((z.natAbs : Int) = n)) : Calls Tryd.prog 25 #[.float .f64 (F z)] w fun e' w' => e' = .returned (.float .f64 (F n)) ∧ w = w' := by
  have := abs_c z w hz
  rwa [h.out] at this
theorem own_one (w : World) (t : TypeId) (v : Value) : (w.alloc (.cells #[v] t)).ownsRow w.heap.size t 1 (.slice (some ⟨w.heap.size, 0, none⟩) 1 1) 1 [v] :=
  ⟨rfl, Or.inr ⟨w.heap.size, 1, #[v], rfl, Nat.le_refl _, heap_alloc_new w _, Nat.le_refl _, by unfold maxLen; omega, rfl, rfl⟩⟩
theorem share_h (d k n : Int) (w : World) (hd : -1000 ≤ d ∧ d ≤ 1000) (hk : 0 ≤ k ∧ k ≤ 1000) (hn : 1 ≤ n ∧ n ≤ 1000) (hkn : k ≤ n) (S : Int) (hS0 : Hid (shareZ d k n = S)) : Calls Tryd.prog 26 #[.float .f64 (F d), .int .i64 k, .int .i64 n] w fun e' w' => e' = .returned (.float .f64 (F S)) ∧ w = w' := share_any d k n w hd hk hn hkn S hS0.out
set_option maxHeartbeats 4000000 in
theorem dots_yes (x y u v : Int) (n : Nat) (w : World) (hx : mayZ x = true) (hy : mayZ y = true) (hu : mayZ u = true) (hv : mayZ v = true) (hN : wayN (x, y) (u, v) = (n : Int)) (hn : n ≤ 1000) :
    Calls Tryd.prog 14 #[.complex .f64 (F x) (F y), .complex .f64 (F u) (F v)] w fun e' w' => (∃ g c, e' = .returned (.tuple #[.slice (some ⟨g, 0, none⟩) (n + 1) c, .bool true]) ∧ RowT w' g 35 ((dotsL (x, y) (u, v)).map cV) ∧ w.heap.size ≤ g) ∧ Below w.heap.size w w' := by
  obtain ⟨ti0, hi, hz0, hz1, hz2⟩ := info_parts infoC
  have hsub := run_complex_sum (P := Tryd.prog) w .sub (Or.inr rfl) 35 _ _ _ _ _ _ _ (sum_bits hu hv hx hy).2
  have x1 := mayZ_bd hx
  have y1 := mayZ_bd hy
  have u1 := mayZ_bd hu
  have v1 := mayZ_bd hv
  obtain ⟨wd0, wd1, wd2, -⟩ := way_bd (x, y) (u, v)
  rw [hN] at wd1 wd2
  dsimp only at wd1 wd2
  have hN2 : max ((u - x).natAbs : Int) ((v - y).natAbs : Int) = (n : Int) := hN
  obtain ⟨a1, ha1⟩ : ∃ a1 : Int, ((u - x).natAbs : Int) = a1 := ⟨_, rfl⟩
  obtain ⟨a2, ha2⟩ : ∃ a2 : Int, ((v - y).natAbs : Int) = a2 := ⟨_, rfl⟩
  have hmax := run_maxF #[49, 49] 49 Tryd.prog a1 a2 w (by unfold Sm; omega) (by unfold Sm; omega)
  rw [← ha1, ← ha2, hN2, ha1, ha2] at hmax
  have HA1 := Lib.hid ha1
  have HA2 := Lib.hid ha2
  obtain ⟨dx, hdx⟩ : ∃ dx, u - x = dx := ⟨_, rfl⟩
  obtain ⟨dy, hdy⟩ : ∃ dy, v - y = dy := ⟨_, rfl⟩
  rw [hdx] at HA1 wd1
  rw [hdy] at HA2 wd2
  rw [hdx, hdy] at hsub
  have q1 := ord_gt (IsI.f (n : Int)) (IsI.f 1000) (by unfold Sm; omega) (by unfold Sm; decide)
  rw [c_1000, decide_eq_false (by omega)] at q1
  have HX : Hid ((mayZ x && mayZ y) = true) := Lib.hid (by rw [hx, hy]; rfl)
  have HU : Hid ((mayZ u && mayZ v) = true) := Lib.hid (by rw [hu, hv]; rfl)
  have HXY := Lib.hid (And.intro hx hy)
  have HDX := Lib.hid (And.intro hdx hdy)
  have HN := Lib.hid hN
  clear ha1 ha2 hN2 hN hdx hdy hx hy hu hv wd0
  have hp0 : dotsN (x, y) (u, v) (n : Int) 0 = [(x, y)] := dotsN_zero _ _ _ (by omega)
  have HP0 := Lib.hid hp0
  clear hp0
  go_enter Tryd.func14, Tryd.ntmps14
  go_wp2_with (first
    | (go_at_call 24; ((with_reducible refine (may_b x y true _ (by unfold Sm; omega) (by unfold Sm; omega) HX).mono ?_); rintro e' wN ⟨rfl, rfl⟩; skip))
    | (go_at_call 24; ((with_reducible refine (may_b u v true _ (by unfold Sm; omega) (by unfold Sm; omega) HU).mono ?_); rintro e' wN ⟨rfl, rfl⟩; skip))
    | (go_at_call 25; ((with_reducible refine (abs_b dx a1 _ (by unfold Sm; omega) HA1).mono ?_); rintro e' wN ⟨rfl, rfl⟩; skip))
    | (go_at_call 25; ((with_reducible refine (abs_b dy a2 _ (by unfold Sm; omega) HA2).mono ?_); rintro e' wN ⟨rfl, rfl⟩; skip)))
  go_loopw [8, 9] (fun s8 s9 wr => ∃ (j : Nat) (vv : Value), j ≤ n ∧ s8 = vv ∧ s9 = .int .i64 ((j : Int) + 1) ∧ wr.ownsRow w.heap.size 35 1 vv (j + 1) ((dotsN (x, y) (u, v) (n : Int) j).map cV) ∧ Below w.heap.size w wr) (fun _ s9 _ => n + 1 - (intOf s9).toNat)
  case atStart => exact ⟨0, _, Nat.zero_le _, rfl, rfl, by rw [HP0.out]; exact own_one _ _ _, (Below.refl _ _).alloc (Nat.le_refl _) _⟩
  case round =>
    clear hsub hmax q1
    obtain ⟨j, vv, hj, rfl, rfl, hO, hB⟩ := hrel
    have hconv := run_convert_float_int (P := Tryd.prog) wr 49 3 .f64 .i64 (F (n : Int)) (n : Int) (by rfl) (by rfl) (toInt_F (n : Int) (by unfold Sm; omega))
    by_cases hlt : j < n
    · obtain ⟨S1, hS1⟩ : ∃ S, shareZ dx ((j : Int) + 1) (n : Int) = S := ⟨_, rfl⟩
      obtain ⟨S2, hS2⟩ : ∃ S, shareZ dy ((j : Int) + 1) (n : Int) = S := ⟨_, rfl⟩
      have b1 := share_bd dx (n : Int) ((j : Int) + 1) (by omega) (by omega) (by omega)
      have b2 := share_bd dy (n : Int) ((j : Int) + 1) (by omega) (by omega) (by omega)
      rw [hS1] at b1
      rw [hS2] at b2
      have s1 : -1000 ≤ S1 ∧ S1 ≤ 1000 := by
        rcases Int.le_total 0 dx with h | h
        · have := b1.1 h; omega
        · have := b1.2 h; omega
      have s2 : -1000 ≤ S2 ∧ S2 ≤ 1000 := by
        rcases Int.le_total 0 dy with h | h
        · have := b2.1 h; omega
        · have := b2.2 h; omega
      have hadd := run_complex_sum (P := Tryd.prog) wr .add (Or.inl rfl) 35 _ _ _ _ _ _ _ (sum_bits HXY.out.1 HXY.out.2 (mayZ_of (z := S1) (by omega)) (mayZ_of (z := S2) (by omega))).1
      have HS1 := Lib.hid hS1
      have HS2 := Lib.hid hS2
      have i1 : (j : Int) + 1 ≤ (n : Int) := by omega
      clear b1 b2 hS1 hS2
      go_wp2_with (first
        | (go_at_call 26; ((with_reducible refine (share_h dx _ _ _ (by omega) (by omega) (by omega) (by omega) S1 HS1).mono ?_); rintro e' wN ⟨rfl, rfl⟩; skip))
        | (go_at_call 26; ((with_reducible refine (share_h dy _ _ _ (by omega) (by omega) (by omega) (by omega) S2 HS2).mono ?_); rintro e' wN ⟨rfl, rfl⟩; skip))
        | (at_builtin; (refine wpList_app _ rfl (.tmp 52) (.tmp 56) _ rfl w.heap.size 35 ti0 _ 1 16 Tryd.underlying32 hi hz0 hz1 hz2 rfl (by decide) _ (j + 1) _ rfl (hO.alloc _) _ 1 _ [cV (x + S1, y + S2)] rfl (Rd.one (by simp [cV])) (by simp [Value.oneCell', cV]) (by unfold maxLen; omega) (by omega) (by simp; have := hB.size; omega) ?_; intro s2v w2 ho2 hg2 hv2)))
      have HF : Below w.heap.size w w2 := (hB.alloc (by have := hB.size; omega) _).trans (below_app (Nat.le_refl _) (by simp; have := hB.size; omega) (hO.alloc _) hg2)
      have ho3 : w2.ownsRow w.heap.size 35 1 s2v (j + 1 + 1) ((dotsN (x, y) (u, v) (n : Int) (j + 1)).map cV) := by
        rw [dotsN_succ, List.map_append]
        have e : dotK (x, y) (u, v) (n : Int) (j + 1) = (x + S1, y + S2) := by
          unfold dotK
          dsimp only
          rw [HDX.out.1, HDX.out.2, show ((j + 1 : Nat) : Int) = (j : Int) + 1 by push_cast; rfl, HS1.out, HS2.out]
        rw [e]
        exact ho2
      clear ho2 hadd hconv
      go_roundw
      case rel => exact ⟨j + 1, _, by omega, rfl, by go_num, ho3, HF⟩
      case measure => simp [intOf]; omega
    · obtain rfl : j = n := by omega
      obtain ⟨g, c, rfl, hR, hg, -⟩ := own_rowC hO (by omega)
      have i1 : ¬ (j : Int) + 1 ≤ (j : Int) := by omega
      have hR2 : RowT wr g 35 ((dotsL (x, y) (u, v)).map cV) := by
        unfold dotsL
        rw [HN.out]
        exact hR
      clear hO hR
      go_wp2_with fail
      go_ret2
      first
      | exact ⟨⟨g, c, rfl, hR2, hg⟩, hB⟩
      | exact ⟨⟨g, ⟨c, rfl⟩, hR2, hg⟩, hB⟩
      | (show False)
end Go.Proofs.YtnbiioighjdkjaaDoor
