/- Package wear, and chapter 11's own answers, by their contracts. -/
import Derived.Test.YtlabkkmpllccoaaWearLook
import Derived.Test.YtlabkkmpllccoaaWearExt
namespace Go.Proofs.Ytlabkkmpllccoaa
open Go.ChangeShapes Go.WideShapes Go.ChangeAt Go.RowKit

theorem field_count (a b c : Int) (w : World) :
    (Instr.field 35 (.agg #[.int .i64 a, .int .i64 b, .int .i64 c]) 1).run Try.prog w = .ok (.int .i64 b) w ∧ (Instr.field 35 (.agg #[.int .i64 a, .int .i64 b, .int .i64 c]) 2).run Try.prog w = .ok (.int .i64 c) w := ⟨by kernel_rfl, by kernel_rfl⟩

def leastI (ws : List Int) (good : List Bool) : Int := ext ws good 1 (mlen ws good)
def mostI (ws : List Int) (good : List Bool) : Int := ext ws good (-1) (mlen ws good)

theorem Least_any (ws : List Int) (good : List Bool) (A1 A2 : Option Addr) (c1 c2 : Nat) (w : World)
    (h1 : Sl w w.heap.size A1 (ws.map (Value.int .i64))) (h2 : Sl w w.heap.size A2 (good.map Value.bool)) (n1 : ws.length ≤ 1000000) (n2 : good.length ≤ 1000000)
    (hw : ∀ z ∈ ws, 0 ≤ z ∧ z ≤ 2147483648) :
    Calls Try.prog 15 #[.slice A1 ws.length c1, .slice A2 good.length c2] w fun e w' => e = .returned (.int .i64 (leastI ws good)) ∧ Below w.heap.size w w' := by
  have ff := fun (a b c : Int) (w : World) => (field_count a b c w).1
  go_enter Try.func15, Try.ntmps15
  go_wp2_with (go_at_call 21; refine (look_any ws good A1 A2 c1 c2 _ h1 h2 n1 n2 (fun z hz => by have := hw z hz; omega)).mono ?_; rintro e w1 ⟨rfl, hb1⟩)
  go_ret
  exact ⟨rfl, hb1⟩

theorem rLeast_any (ws : List Int) (good : List Bool) (A1 A2 : Option Addr) (c1 c2 : Nat) (w : World)
    (h1 : Sl w w.heap.size A1 (ws.map (Value.int .i64))) (h2 : Sl w w.heap.size A2 (good.map Value.bool)) (n1 : ws.length ≤ 1000000) (n2 : good.length ≤ 1000000)
    (hw : ∀ z ∈ ws, 0 ≤ z ∧ z ≤ 2147483648) :
    Calls Try.prog 18 #[.slice A1 ws.length c1, .slice A2 good.length c2] w fun e w' => e = .returned (.int .i64 (leastI ws good)) ∧ Below w.heap.size w w' := by
  go_enter Try.func18, Try.ntmps18
  go_wp2_with (go_at_call 22; refine (extreme_any ws good (1) A1 A2 c1 c2 _ h1 h2 n1 n2 (fun z hz => by have := hw z hz; omega)).mono ?_; rintro e w1 ⟨rfl, hb1⟩)
  go_ret
  exact ⟨rfl, hb1⟩

theorem rMost_any (ws : List Int) (good : List Bool) (A1 A2 : Option Addr) (c1 c2 : Nat) (w : World)
    (h1 : Sl w w.heap.size A1 (ws.map (Value.int .i64))) (h2 : Sl w w.heap.size A2 (good.map Value.bool)) (n1 : ws.length ≤ 1000000) (n2 : good.length ≤ 1000000)
    (hw : ∀ z ∈ ws, 0 ≤ z ∧ z ≤ 2147483648) :
    Calls Try.prog 24 #[.slice A1 ws.length c1, .slice A2 good.length c2] w fun e w' => e = .returned (.int .i64 (mostI ws good)) ∧ Below w.heap.size w w' := by
  go_enter Try.func24, Try.ntmps24
  go_wp2_with (go_at_call 22; refine (extreme_any ws good (-1) A1 A2 c1 c2 _ h1 h2 n1 n2 (fun z hz => by have := hw z hz; omega)).mono ?_; rintro e w1 ⟨rfl, hb1⟩)
  go_ret
  exact ⟨rfl, hb1⟩

theorem wear_idx {ws : List Int} {good : List Bool} (h : ¬ ext ws good 1 (mlen ws good) < 0) :
    ∃ j1 j2 : Nat, ext ws good 1 (mlen ws good) = (j1 : Int) ∧ ext ws good (-1) (mlen ws good) = (j2 : Int) ∧ j1 < ws.length ∧ j2 < ws.length ∧ spreadI ws good = ws.getD j2 0 - ws.getD j1 0 := by
  have m1 : mlen ws good ≤ ws.length := by unfold mlen; omega
  have e1 := ext_bd ws good 1 (mlen ws good)
  have e2 := ext_bd ws good (-1) (mlen ws good)
  have n1 := ext_neg ws good 1 (mlen ws good)
  have n2 := ext_neg ws good (-1) (mlen ws good)
  have h2 : ¬ ext ws good (-1) (mlen ws good) < 0 := fun h' => h (n1.2 (n2.1 h'))
  refine ⟨(ext ws good 1 (mlen ws good)).toNat, (ext ws good (-1) (mlen ws good)).toNat, by omega, by omega, by omega, by omega, ?_⟩
  unfold spreadI
  rw [if_neg h]

theorem getD_cell {w : World} {b o : Nat} {ws : List Int} {j : Nat} (q : ∀ k v, (ws.map (Value.int .i64))[k]? = some v → w.cell? ⟨b, o + k, none⟩ = some v) (hj : j < ws.length) :
    w.cell? ⟨b, o + j, none⟩ = some (.int .i64 (ws.getD j 0)) := q j _ (by simp [hj])

theorem getD_mem {ws : List Int} {j : Nat} (hj : j < ws.length) : ws.getD j 0 ∈ ws := by simp [hj]

set_option maxRecDepth 100000 in
set_option maxHeartbeats 4000000 in
theorem Spread_any (ws : List Int) (good : List Bool) (A1 A2 : Option Addr) (c1 c2 : Nat) (w : World)
    (h1 : Sl w w.heap.size A1 (ws.map (Value.int .i64))) (h2 : Sl w w.heap.size A2 (good.map Value.bool)) (n1 : ws.length ≤ 1000000) (n2 : good.length ≤ 1000000)
    (hw : ∀ z ∈ ws, 0 ≤ z ∧ z ≤ 2147483648) :
    Calls Try.prog 20 #[.slice A1 ws.length c1, .slice A2 good.length c2] w fun e w' => e = .returned (.int .i64 (spreadI ws good)) ∧ Below w.heap.size w w' := by
  by_cases hfew : cnt good (mlen ws good) < 2
  · rw [spread_few hfew]
    have hc : ((cnt good (mlen ws good) : Nat) : Int) < 2 := by omega
    clear hfew
    go_enter Try.func20, Try.ntmps20
    go_wp2_with (go_at_call 21; refine (look_any ws good A1 A2 c1 c2 _ h1 h2 n1 n2 (fun z hz => by have := hw z hz; omega)).mono ?_; rintro e w1 ⟨rfl, hb1⟩)
    go_ret
    exact ⟨rfl, hb1.alloc hb1.size _⟩
  · have hne : ¬ ext ws good 1 (mlen ws good) < 0 := by rw [ext_neg]; omega
    obtain ⟨j1, j2, hj1, hj2, k1, k2, hs⟩ := wear_idx hne
    rw [hs]
    have hc : ¬ ((cnt good (mlen ws good) : Nat) : Int) < 2 := by omega
    have h0 : 0 < ws.length := by omega
    obtain ⟨c, hcc⟩ : ∃ c, ((cnt good (mlen ws good) : Nat) : Int) = c := ⟨_, rfl⟩
    rw [hcc] at hc
    have Hc := Lib.hid hcc
    have J1 := Lib.hid hj1
    have J2 := Lib.hid hj2
    obtain ⟨b1, o1, rfl, l1, q1⟩ := h1.at_ (by simpa using h0)
    obtain ⟨z1, hz1⟩ : ∃ z, ws.getD j1 0 = z := ⟨_, rfl⟩
    obtain ⟨z2, hz2⟩ : ∃ z, ws.getD j2 0 = z := ⟨_, rfl⟩
    have v1 := getD_cell q1 k1
    have v2 := getD_cell q1 k2
    have B1 := hw _ (getD_mem k1)
    have B2 := hw _ (getD_mem k2)
    rw [hz1] at v1 B1 ⊢
    rw [hz2] at v2 B2 ⊢
    have hsub : IntKind.i64.wrap (z2 - z1) = z2 - z1 := IntWalk.i64_in _ (by omega)
    have i1 : (0 : Int) ≤ (j1 : Int) := by omega
    have i2 : (j1 : Int) < (ws.length : Int) := by omega
    have i3 : (0 : Int) ≤ (j2 : Int) := by omega
    have i4 : (j2 : Int) < (ws.length : Int) := by omega
    clear hfew hne hs hcc hj1 hj2 q1 hz1 hz2 k1 k2 B1 B2 h0
    go_enter Try.func20, Try.ntmps20
    go_wp2_with (go_at_call 21; refine (look_any ws good (some ⟨b1, o1, none⟩) A2 c1 c2 _ h1 h2 n1 n2 (fun z hz => by have := hw z hz; omega)).mono ?_; rw [Hc.out, J1.out, J2.out]; rintro e w1 ⟨rfl, hb1⟩; have u1 := (hb1.cell (p := ⟨b1, o1 + j1, none⟩) l1).trans v1; have u2 := (hb1.cell (p := ⟨b1, o1 + j2, none⟩) l1).trans v2; have l2 : b1 < w1.heap.size := by { have := hb1.size; omega })
    go_quiet (fail)
    go_wp2
    go_ret
    exact ⟨rfl, below_dn (hb1.alloc hb1.size _) _⟩

set_option maxRecDepth 100000 in
set_option maxHeartbeats 4000000 in
theorem rSpread_any (ws : List Int) (good : List Bool) (A1 A2 : Option Addr) (c1 c2 : Nat) (w : World)
    (h1 : Sl w w.heap.size A1 (ws.map (Value.int .i64))) (h2 : Sl w w.heap.size A2 (good.map Value.bool)) (n1 : ws.length ≤ 1000000) (n2 : good.length ≤ 1000000)
    (hw : ∀ z ∈ ws, 0 ≤ z ∧ z ≤ 2147483648) :
    Calls Try.prog 23 #[.slice A1 ws.length c1, .slice A2 good.length c2] w fun e w' => e = .returned (.int .i64 (spreadI ws good)) ∧ Below w.heap.size w w' := by
  by_cases hne : ext ws good 1 (mlen ws good) < 0
  · have hs : spreadI ws good = 0 := by unfold spreadI; rw [if_pos hne]
    rw [hs]
    have hl : leastI ws good < 0 := hne
    clear hne hs
    go_enter Try.func23, Try.ntmps23
    go_wp2_with (first
      | (go_at_call 18; refine (rLeast_any ws good A1 A2 c1 c2 _ h1 h2 n1 n2 hw).mono ?_; rintro e w1 ⟨rfl, hb1⟩)
      | (go_at_call 24; refine (rMost_any ws good A1 A2 c1 c2 _ ((h1.below hb1).mono hb1.size) ((h2.below hb1).mono hb1.size) n1 n2 hw).mono ?_; rintro e w2 ⟨rfl, hb2⟩))
    go_ret
    exact ⟨rfl, btr hb1 hb1.size hb2⟩
  · obtain ⟨j1, j2, hj1, hj2, k1, k2, hs⟩ := wear_idx hne
    rw [hs]
    have h0 : 0 < ws.length := by omega
    have J1 : Hid (leastI ws good = (j1 : Int)) := hj1
    have J2 : Hid (mostI ws good = (j2 : Int)) := hj2
    obtain ⟨b1, o1, rfl, l1, q1⟩ := h1.at_ (by simpa using h0)
    obtain ⟨z1, hz1⟩ : ∃ z, ws.getD j1 0 = z := ⟨_, rfl⟩
    obtain ⟨z2, hz2⟩ : ∃ z, ws.getD j2 0 = z := ⟨_, rfl⟩
    have v1 := getD_cell q1 k1
    have v2 := getD_cell q1 k2
    have B1 := hw _ (getD_mem k1)
    have B2 := hw _ (getD_mem k2)
    rw [hz1] at v1 B1 ⊢
    rw [hz2] at v2 B2 ⊢
    have hsub : IntKind.i64.wrap (z2 - z1) = z2 - z1 := IntWalk.i64_in _ (by omega)
    have i1 : (0 : Int) ≤ (j1 : Int) := by omega
    have i2 : (j1 : Int) < (ws.length : Int) := by omega
    have i3 : (0 : Int) ≤ (j2 : Int) := by omega
    have i4 : (j2 : Int) < (ws.length : Int) := by omega
    clear hne hs hj1 hj2 q1 hz1 hz2 k1 k2 B1 B2 h0
    go_enter Try.func23, Try.ntmps23
    go_wp2_with (first
      | (go_at_call 18; refine (rLeast_any ws good (some ⟨b1, o1, none⟩) A2 c1 c2 _ h1 h2 n1 n2 hw).mono ?_; rw [J1.out]; rintro e w1 ⟨rfl, hb1⟩)
      | (go_at_call 24; refine (rMost_any ws good (some ⟨b1, o1, none⟩) A2 c1 c2 _ ((h1.below hb1).mono hb1.size) ((h2.below hb1).mono hb1.size) n1 n2 hw).mono ?_; rw [J2.out]; rintro e w2 ⟨rfl, hb2⟩; have u1 := ((hb1.trans (hb2.mono hb1.size)).cell (p := ⟨b1, o1 + j1, none⟩) l1).trans v1; have u2 := ((hb1.trans (hb2.mono hb1.size)).cell (p := ⟨b1, o1 + j2, none⟩) l1).trans v2))
    go_quiet (fail)
    go_wp2
    go_ret
    exact ⟨rfl, below_dn (btr hb1 hb1.size hb2) _⟩

theorem Due_any (ws : List Int) (good : List Bool) (A1 A2 : Option Addr) (c1 c2 : Nat) (t : Int) (w : World)
    (h1 : Sl w w.heap.size A1 (ws.map (Value.int .i64))) (h2 : Sl w w.heap.size A2 (good.map Value.bool)) (n1 : ws.length ≤ 1000000) (n2 : good.length ≤ 1000000)
    (hw : ∀ z ∈ ws, 0 ≤ z ∧ z ≤ 2147483648) :
    Calls Try.prog 14 #[.slice A1 ws.length c1, .slice A2 good.length c2, .int .i64 t] w fun e w' => e = .returned (.bool (decide (t < spreadI ws good))) ∧ Below w.heap.size w w' := by
  go_enter Try.func14, Try.ntmps14
  go_wp2_with (go_at_call 20; refine (Spread_any ws good A1 A2 c1 c2 _ h1 h2 n1 n2 hw).mono ?_; rintro e w1 ⟨rfl, hb1⟩)
  go_ret
  exact ⟨rfl, hb1⟩

theorem rDue_any (ws : List Int) (good : List Bool) (A1 A2 : Option Addr) (c1 c2 : Nat) (t : Int) (w : World)
    (h1 : Sl w w.heap.size A1 (ws.map (Value.int .i64))) (h2 : Sl w w.heap.size A2 (good.map Value.bool)) (n1 : ws.length ≤ 1000000) (n2 : good.length ≤ 1000000)
    (hw : ∀ z ∈ ws, 0 ≤ z ∧ z ≤ 2147483648) :
    Calls Try.prog 19 #[.slice A1 ws.length c1, .slice A2 good.length c2, .int .i64 t] w fun e w' => e = .returned (.bool (decide (t < spreadI ws good))) ∧ Below w.heap.size w w' := by
  go_enter Try.func19, Try.ntmps19
  go_wp2_with (go_at_call 23; refine (rSpread_any ws good A1 A2 c1 c2 _ h1 h2 n1 n2 hw).mono ?_; rintro e w1 ⟨rfl, hb1⟩)
  go_ret
  exact ⟨rfl, hb1⟩

end Go.Proofs.Ytlabkkmpllccoaa
