/- places, a dot for a point. -/
import Derived.Test.YtnbiioighjdkjaaDoorRaD
namespace Go.Proofs.YtnbiioighjdkjaaDoor
open Go.ChangeShapes Go.WideShapes Go.ChangeAt Go.RowKit
set_option linter.unusedSimpArgs false
set_option linter.unusedVariables false

def subP (a p : Int × Int) : Int × Int := (p.1 - a.1, p.2 - a.2)
set_option maxHeartbeats 4000000 in
theorem places_1 (ax ay : Int) (A : Option Addr) (N c : Nat) (ps : List (Int × Int)) (w : World) (hN : ps.length = N) (hN2 : 1 ≤ N ∧ N ≤ 10) (hs : Sl w w.heap.size A (ps.map cV)) (hok : PtsOk ps) (hax : mayZ ax = true) (hay : mayZ ay = true) (hok2 : PtsOk (ps.map (subP (ax, ay)))) :
    Calls Tryd.prog 28 #[.slice A N c, .complex .f64 (F ax) (F ay), .int .i64 1] w fun e' w' => (∃ g c', e' = .returned (.tuple #[.slice (some ⟨g, 0, none⟩) N c', .bool true]) ∧ RowT w' g 35 ((ps.map (subP (ax, ay))).map cV) ∧ w.heap.size ≤ g) ∧ Below w.heap.size w w' := by
  obtain ⟨ti0, hi, hz0, hz1, hz2⟩ := info_parts infoC
  have HN := Lib.hid hN
  have HS := Lib.hid hs
  have HO := Lib.hid hok
  have HO2 := Lib.hid hok2
  have HA := Lib.hid (And.intro hax hay)
  have a1 := mayZ_bd hax
  have a2 := mayZ_bd hay
  clear hN hs hok hok2 hax hay
  go_enter Tryd.func28, Tryd.ntmps28
  go_wp2
  go_loopw [8, 15] (fun s8 s15 wr => ∃ (i : Nat) (vv : Value), i ≤ N ∧ s8 = vv ∧ s15 = .int .i64 (i : Int) ∧ wr.ownsRow w.heap.size 35 1 vv i (((ps.take i).map (subP (ax, ay))).map cV) ∧ Below w.heap.size w wr) (fun _ s15 _ => N - (intOf s15).toNat)
  case atStart => exact ⟨0, _, Nat.zero_le _, rfl, rfl, World.ownsRow_nil _ _ _ _, Below.refl _ _⟩
  case round =>
    obtain ⟨i, vv, hi', rfl, rfl, hO, hB⟩ := hrel
    by_cases hlt : i < N
    · obtain ⟨b1, o1, rfl, l1, q1⟩ := HS.out.at_ (by have := HN.out; simp; omega)
      obtain ⟨p, hp'⟩ : ∃ p, ps[i]? = some p := ⟨_, List.getElem?_eq_getElem (by have := HN.out; omega)⟩
      have hm := HO.out p (List.mem_of_getElem? hp')
      have hm2 := HO2.out (subP (ax, ay) p) (List.mem_map.2 ⟨p, List.mem_of_getElem? hp', rfl⟩)
      obtain ⟨x, y⟩ := p
      have c0 : wr.cell? ⟨b1, o1 + i, none⟩ = some (cV (x, y)) := (hB.cell (p := ⟨b1, o1 + i, none⟩) l1).trans (q1 i _ (by rw [List.getElem?_map, hp']; rfl))
      unfold cV at c0
      dsimp only at c0
      unfold subP at hm2
      dsimp only at hm hm2
      have hsub := run_complex_sum (P := Tryd.prog) wr .sub (Or.inr rfl) 35 _ _ _ _ _ _ _ (sum_bits hm.1 hm.2 HA.out.1 HA.out.2).2
      have m1 := mayZ_bd hm.1
      have m2 := mayZ_bd hm.2
      obtain ⟨dx, hdx⟩ : ∃ dx, x - ax = dx := ⟨_, rfl⟩
      obtain ⟨dy, hdy⟩ : ∃ dy, y - ay = dy := ⟨_, rfl⟩
      rw [hdx, hdy] at hsub hm2
      have hof := ofInt_c 1 (by unfold Sm; decide)
      have f1 : floatBits .quo .f64 (F dx) (F 1) = some (F dx) := div_1 dx (by unfold Sm; omega)
      have f2 : floatBits .quo .f64 (F dy) (F 1) = some (F dy) := div_1 dy (by unfold Sm; omega)
      have r1 := run_float_arith (P := Tryd.prog) wr .quo 49 .f64 _ _ _ f1
      have r2 := run_float_arith (P := Tryd.prog) wr .quo 49 .f64 _ _ _ f2
      have HM : Hid ((mayZ dx && mayZ dy) = true) := Lib.hid (by rw [hm2.1, hm2.2]; rfl)
      have HSM := Lib.hid (And.intro (sm_of hm2.1) (sm_of hm2.2))
      have HP := Lib.hid (And.intro hp' (And.intro hdx hdy))
      have i0 : (0 : Int) ≤ (i : Int) := by omega
      have i1 : (i : Int) < (N : Int) := by omega
      clear q1 hp' hm hm2 m1 m2 hdx hdy f1 f2
      go_wp2_with (first
        | (go_at_call 35; ((with_reducible refine (floor_c dx _ HSM.out.1).mono ?_); rintro e' wN ⟨rfl, rfl⟩; skip))
        | (go_at_call 35; ((with_reducible refine (floor_c dy _ HSM.out.2).mono ?_); rintro e' wN ⟨rfl, rfl⟩; skip))
        | (go_at_call 24; ((with_reducible refine (may_b dx dy true _ HSM.out.1 HSM.out.2 HM).mono ?_); rintro e' wN ⟨rfl, rfl⟩; skip))
        | (at_builtin; refine wpList_app _ rfl (.tmp 38) (.tmp 40) _ rfl w.heap.size 35 ti0 _ 1 16 Tryd.underlying32 hi hz0 hz1 hz2 rfl (by decide) _ i _ rfl (hO.alloc _) _ 1 _ [cV (dx, dy)] rfl (Rd.one (by simp [cV])) (by simp [Value.oneCell', cV]) (by unfold maxLen; omega) (by omega) (by simp; have := hB.size; omega) ?_; intro s2v w2 ho2 hg2 hv2))
      have HF : Below w.heap.size w w2 := (hB.alloc (by have := hB.size; omega) _).trans (below_app (Nat.le_refl _) (by simp; have := hB.size; omega) (hO.alloc _) hg2)
      have ho3 : w2.ownsRow w.heap.size 35 1 s2v (i + 1) (((ps.take (i + 1)).map (subP (ax, ay))).map cV) := by
        rw [List.take_add_one, HP.out.1]
        simp only [Option.toList_some, List.map_append, List.map_cons, List.map_nil]
        have e : subP (ax, ay) (x, y) = (dx, dy) := by unfold subP; dsimp only; rw [HP.out.2.1, HP.out.2.2]
        rw [e]
        exact ho2
      clear ho2 hsub r1 r2 hof
      go_roundw
      case rel => exact ⟨i + 1, _, by omega, rfl, by go_num, ho3, HF⟩
      case measure => simp [intOf]; omega
    · obtain rfl : i = N := by omega
      obtain ⟨g, c', rfl, hR, hg, -⟩ := own_rowC hO (by omega)
      rw [List.take_of_length_le (by have := HN.out; omega)] at hR
      have HR := Lib.hid hR
      clear hO hR
      go_wp2
      go_ret2
      first
      | exact ⟨⟨g, c', rfl, HR.out, hg⟩, hB⟩
      | exact ⟨⟨g, ⟨c', rfl⟩, HR.out, hg⟩, hB⟩
end Go.Proofs.YtnbiioighjdkjaaDoor
