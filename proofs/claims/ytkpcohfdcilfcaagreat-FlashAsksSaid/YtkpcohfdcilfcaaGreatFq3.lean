/- Chapter 11's own extreme, by its contract. -/
import Derived.Test.YtkpcohfdcilfcaaGreatFq1
import Derived.Test.YtkpcohfdcilfcaaGreatFq2
import Derived.Lib.Hide
import Derived.Deep.QuietTactic
import Derived.BigQuiet
import Derived.Deep.DeepCutAuto
import Derived.Deep.RegionHeld3
import Derived.Deep.DrawnRows
import Derived.Deep.CutBlock
import Derived.StillTailTactics
set_option linter.unusedSimpArgs false
set_option linter.unusedVariables false
set_option maxRecDepth 100000
set_option maxHeartbeats 16000000
namespace Go.Proofs.YtkpcohfdcilfcaaGreat
open Go.ChangeShapes Go.WideShapes Go.ChangeAt Go.RowKit
end Go.Proofs.YtkpcohfdcilfcaaGreat
namespace Go.Proofs.YtkpcohfdcilfcaaGreat
open Go.ChangeShapes Go.WideShapes Go.ChangeAt Go.RowKit
theorem field_count (a b c : Int) (w : World) :
    (Instr.field 162 (.agg #[.int .i64 a, .int .i64 b, .int .i64 c]) 1).run Tryz.prog w = .ok (.int .i64 b) w ∧ (Instr.field 162 (.agg #[.int .i64 a, .int .i64 b, .int .i64 c]) 2).run Tryz.prog w = .ok (.int .i64 c) w := ⟨by kernel_rfl, by kernel_rfl⟩
def leastI (ws : List Int) (good : List Bool) : Int := ext ws good 1 (mlen ws good)
def mostI (ws : List Int) (good : List Bool) : Int := ext ws good (-1) (mlen ws good)
theorem Least_any (ws : List Int) (good : List Bool) (A1 A2 : Option Addr) (c1 c2 : Nat) (w : World)
    (h1 : Sl w w.heap.size A1 (ws.map (Value.int .i64))) (h2 : Sl w w.heap.size A2 (good.map Value.bool)) (n1 : ws.length ≤ 1000000) (n2 : good.length ≤ 1000000)
    (hw : ∀ z ∈ ws, 0 ≤ z ∧ z ≤ 2147483648) :
    Calls Tryz.prog 106 #[.slice A1 ws.length c1, .slice A2 good.length c2] w fun e w' => e = .returned (.int .i64 (leastI ws good)) ∧ Below w.heap.size w w' := by
  have ff := fun (a b c : Int) (w : World) => (field_count a b c w).1
  go_enter Tryz.func106, Tryz.ntmps106
  go_wp2_with (go_at_call 142; refine (look_any ws good A1 A2 c1 c2 _ h1 h2 n1 n2 (fun z hz => by have := hw z hz; omega)).mono ?_; rintro e w1 ⟨rfl, hb1⟩)
  go_ret
  exact ⟨rfl, hb1⟩
theorem wear_idx {ws : List Int} {good : List Bool} (h : ¬ ext ws good 1 (mlen ws good) < 0) :
    ∃ j1 j2 : Nat, ext ws good 1 (mlen ws good) = (j1 : Int) ∧ ext ws good (-1) (mlen ws good) = (j2 : Int) ∧ j1 < ws.length ∧ j2 < ws.length ∧ spreadI ws good = ws.getD j2 0 - ws.getD j1 0 := by
  have m1 : mlen ws good ≤ ws.length := by unfold mlen; omega
  have e1 := ext_bd ws good 1 (mlen ws good)
  have e2 := ext_bd ws good (-1) (mlen ws good)
  have n1 := ext_neg ws good 1 (mlen ws good)
  have n2 := ext_neg ws good (-1) (mlen ws good)
  have h2 : ¬ ext ws good (-1) (mlen ws good) < 0 := fun h' => h (n1.2 (n2.1 h'))
  refine ⟨(ext ws good 1 (mlen ws good)).toNat, (ext ws good (-1) (mlen ws good)).toNat, by omega, by omega, by omega, by omega, ?_⟩
  unfold spreadI
  rw [if_neg h]
theorem getD_cell {w : World} {b o : Nat} {ws : List Int} {j : Nat} (q : ∀ k v, (ws.map (Value.int .i64))[k]? = some v → w.cell? ⟨b, o + k, none⟩ = some v) (hj : j < ws.length) :
    w.cell? ⟨b, o + j, none⟩ = some (.int .i64 (ws.getD j 0)) := q j _ (by simp [hj])
theorem getD_mem {ws : List Int} {j : Nat} (hj : j < ws.length) : ws.getD j 0 ∈ ws := by simp [hj]
theorem Spread_any (ws : List Int) (good : List Bool) (A1 A2 : Option Addr) (c1 c2 : Nat) (w : World)
    (h1 : Sl w w.heap.size A1 (ws.map (Value.int .i64))) (h2 : Sl w w.heap.size A2 (good.map Value.bool)) (n1 : ws.length ≤ 1000000) (n2 : good.length ≤ 1000000)
    (hw : ∀ z ∈ ws, 0 ≤ z ∧ z ≤ 2147483648) :
    Calls Tryz.prog 101 #[.slice A1 ws.length c1, .slice A2 good.length c2] w fun e w' => e = .returned (.int .i64 (spreadI ws good)) ∧ Below w.heap.size w w' := by
  by_cases hfew : cntW good (mlen ws good) < 2
  · rw [spread_few hfew]
    have hc : ((cntW good (mlen ws good) : Nat) : Int) < 2 := by omega
    clear hfew
    go_enter Tryz.func101, Tryz.ntmps101
    go_wp2_with (go_at_call 142; refine (look_any ws good A1 A2 c1 c2 _ h1 h2 n1 n2 (fun z hz => by have := hw z hz; omega)).mono ?_; rintro e w1 ⟨rfl, hb1⟩)
    go_ret
    exact ⟨rfl, hb1.alloc hb1.size _⟩
  · have hne : ¬ ext ws good 1 (mlen ws good) < 0 := by rw [ext_neg]; omega
    obtain ⟨j1, j2, hj1, hj2, k1, k2, hs⟩ := wear_idx hne
    rw [hs]
    have hc : ¬ ((cntW good (mlen ws good) : Nat) : Int) < 2 := by omega
    have h0 : 0 < ws.length := by omega
    obtain ⟨c, hcc⟩ : ∃ c, ((cntW good (mlen ws good) : Nat) : Int) = c := ⟨_, rfl⟩
    rw [hcc] at hc
    have Hc := Lib.hid hcc
    have J1 := Lib.hid hj1
    have J2 := Lib.hid hj2
    obtain ⟨b1, o1, rfl, l1, q1⟩ := h1.at_ (by simpa using h0)
    obtain ⟨z1, hz1⟩ : ∃ z, ws.getD j1 0 = z := ⟨_, rfl⟩
    obtain ⟨z2, hz2⟩ : ∃ z, ws.getD j2 0 = z := ⟨_, rfl⟩
    have v1 := getD_cell q1 k1
    have v2 := getD_cell q1 k2
    have B1 := hw _ (getD_mem k1)
    have B2 := hw _ (getD_mem k2)
    rw [hz1] at v1 B1 ⊢
    rw [hz2] at v2 B2 ⊢
    have hsub : IntKind.i64.wrap (z2 - z1) = z2 - z1 := IntWalk.i64_in _ (by omega)
    have i1 : (0 : Int) ≤ (j1 : Int) := by omega
    have i2 : (j1 : Int) < (ws.length : Int) := by omega
    have i3 : (0 : Int) ≤ (j2 : Int) := by omega
    have i4 : (j2 : Int) < (ws.length : Int) := by omega
    clear hfew hne hs hcc hj1 hj2 q1 hz1 hz2 k1 k2 B1 B2 h0
    go_enter Tryz.func101, Tryz.ntmps101
    go_wp2_with (go_at_call 142; refine (look_any ws good (some ⟨b1, o1, none⟩) A2 c1 c2 _ h1 h2 n1 n2 (fun z hz => by have := hw z hz; omega)).mono ?_; rw [Hc.out, J1.out, J2.out]; rintro e w1 ⟨rfl, hb1⟩; have u1 := (hb1.cell (p := ⟨b1, o1 + j1, none⟩) l1).trans v1; have u2 := (hb1.cell (p := ⟨b1, o1 + j2, none⟩) l1).trans v2; have l2 : b1 < w1.heap.size := by { have := hb1.size; omega })
    go_quiet (fail)
    go_wp2
    go_ret
    exact ⟨rfl, below_dn (hb1.alloc hb1.size _) _⟩
end Go.Proofs.YtkpcohfdcilfcaaGreat
namespace Go.Proofs.YtkpcohfdcilfcaaGreat
open Go.ChangeShapes Go.WideShapes Go.ChangeAt Go.RowKit
attribute [local go_sem ↓] Go.wp_at_zero Go.wp_at_succ
def firstI (p : Nat → Bool) (n : Nat) : Int := match (List.range n).find? p with
  | some k => (k : Int)
  | none => -1
theorem firstI_at {p : Nat → Bool} {n k : Nat} (hk : k < n) (hp : p k = true) (h : ∀ j, j < k → p j = false) : firstI p n = (k : Int) := by
  unfold firstI
  have e : (List.range n).find? p = some k := by
    rw [List.find?_range_eq_some]
    exact ⟨hp, by simpa using hk, fun j hj => by simp [h j hj]⟩
  rw [e]
theorem firstI_no {p : Nat → Bool} {n : Nat} (h : ∀ j, j < n → p j = false) : firstI p n = -1 := by
  unfold firstI
  have e : (List.range n).find? p = none := by
    rw [List.find?_range_eq_none]
    exact fun j hj => by simp [h j hj]
  rw [e]
def begP (a b : Int) (fs : List Flt) (s : ChS) (but : Int) (k : Nat) : Bool := (((k : Int) != but) && (goodB a fs s (k : Int) && !(s.ask a (k : Int) 0 == b))) && decide (0 < s.ask a (k : Int) 0)
def begI (a b : Int) (fs : List Flt) (s : ChS) (but : Int) : Int := firstI (begP a b fs s but) a.toNat
theorem begun_f (F : FlK) (a b c d e : Int) (fs : List Flt) (L N : Nat) (s : FlS) (but : Int) (w : World) (hF : FlW w F a b c d e fs L N s) (z : Int) (hz : begI a b fs s.ch but = z) :
    Calls Tryz.prog 124 #[.pointer (some ⟨F.fm, 0, none⟩), .int .i64 but] w fun e' w' => e' = .returned (.int .i64 z) ∧ Below w.heap.size w w' := by
  have hm := may_bd hF.may
  obtain ⟨ha1, ha2, -⟩ := hm
  have k1 := hF.c1
  have HZ := Lib.hid hz
  clear hz
  go_enter Tryz.func124, Tryz.ntmps124
  go_wp2_with fail
  go_loopw [11] (fun i wr => ∃ k : Nat, (k : Int) ≤ a ∧ i = .int .i64 k ∧ Hid (∀ j, j < k → begP a b fs s.ch but j = false) ∧ Below w.heap.size w wr) (fun i _ => a.toNat - (intOf i).toNat)
  case atStart => exact ⟨0, by omega, rfl, Lib.hid (fun j hj => by omega), Below.refl _ _⟩
  case round =>
    obtain ⟨k, hk, rfl, HK, HB⟩ := hrel
    have hG := hF.below HB
    by_cases hlt : (k : Int) < a
    · obtain ⟨u, hu⟩ : ∃ u, s.ch.ask a (k : Int) 0 = u := ⟨_, rfl⟩
      have HU := Lib.hid hu
      obtain ⟨R, hR⟩ : ∃ R, (goodB a fs s.ch (k : Int) && !(u == b)) = R := ⟨_, rfl⟩
      have HR := Lib.hid hR
      have HP : Hid (begP a b fs s.ch but k = ((((k : Int) != but) && R) && decide (0 < u))) := Lib.hid (by unfold begP; rw [hu, hR])
      clear hu hR
      rcases (by cases hq : ((k : Int) != but) <;> simp : ((k : Int) != but) = true ∨ ((k : Int) != but) = false) with hq | hq
      · cases R
        · have HNX : Hid (∀ j, j < k + 1 → begP a b fs s.ch but j = false) := Lib.hid (fun j hj => by
            rcases Nat.lt_succ_iff_lt_or_eq.1 hj with h | rfl
            · exact HK.out j h
            · rw [HP.out]; simp)
          go_wp2_with ((go_at_call 143; ((with_reducible refine (roomy_f F a b c d e fs L N s _ _ _ hG HU.out _ HR.out).mono ?_); rintro e' w1 ⟨rfl, b1⟩; have HB := btr HB HB.size b1; have hG1 := hG.below b1)))
          go_roundw
          case rel => exact ⟨k + 1, by omega, by go_num, HNX, HB⟩
          case measure => simp [intOf]; omega
        · by_cases h0 : 0 < u
          · have HP1 : Hid (begP a b fs s.ch but k = true) := Lib.hid (by rw [HP.out, hq]; simp [h0])
            have hzk : z = (k : Int) := by
              rw [← HZ.out]
              exact firstI_at (by omega) HP1.out HK.out
            subst hzk
            clear HZ HP1
            go_wp2_with (first | (go_at_call 143; ((with_reducible refine (roomy_f F a b c d e fs L N s _ _ _ hG HU.out _ HR.out).mono ?_); rintro e' w1 ⟨rfl, b1⟩; have HB := btr HB HB.size b1; have hG1 := hG.below b1)) | (go_at_call 120; ((with_reducible refine (used_f F a b c d e fs L N s _ _ _ hG1 HU.out _ rfl).mono ?_); rintro e' w2 ⟨rfl, rfl⟩; skip)))
            go_ret
            exact ⟨rfl, HB⟩
          · have HNX : Hid (∀ j, j < k + 1 → begP a b fs s.ch but j = false) := Lib.hid (fun j hj => by
              rcases Nat.lt_succ_iff_lt_or_eq.1 hj with h | rfl
              · exact HK.out j h
              · rw [HP.out]; simp [h0])
            go_wp2_with (first | (go_at_call 143; ((with_reducible refine (roomy_f F a b c d e fs L N s _ _ _ hG HU.out _ HR.out).mono ?_); rintro e' w1 ⟨rfl, b1⟩; have HB := btr HB HB.size b1; have hG1 := hG.below b1)) | (go_at_call 120; ((with_reducible refine (used_f F a b c d e fs L N s _ _ _ hG1 HU.out _ rfl).mono ?_); rintro e' w2 ⟨rfl, rfl⟩; skip)))
            go_roundw
            case rel => exact ⟨k + 1, by omega, by go_num, HNX, HB⟩
            case measure => simp [intOf]; omega
      · have HNX : Hid (∀ j, j < k + 1 → begP a b fs s.ch but j = false) := Lib.hid (fun j hj => by
          rcases Nat.lt_succ_iff_lt_or_eq.1 hj with h | rfl
          · exact HK.out j h
          · rw [HP.out, hq]; simp)
        go_wp2_with fail
        go_roundw
        case rel => exact ⟨k + 1, by omega, by go_num, HNX, HB⟩
        case measure => simp [intOf]; omega
    · have hka : k = a.toNat := by omega
      have HZ1 : Hid (z = -1) := Lib.hid (by
        rw [← HZ.out]
        exact firstI_no (fun j hj => HK.out j (by omega)))
      have hz1 := HZ1.out
      subst hz1
      clear HZ HZ1
      go_wp2_with fail
      go_ret
      exact ⟨rfl, HB⟩
theorem wearL_bd {s : ChS} {n : Int} (h : s.Bnd n) (hn : n ≤ 900000000) (a : Int) (NA : Nat) : ∀ z ∈ wearL a s NA, 0 ≤ z ∧ z ≤ 2147483648 := by
  intro z hz
  unfold wearL at hz
  obtain ⟨k, _, rfl⟩ := List.mem_map.1 hz
  unfold ChS.ask ChS.k
  have h0 := h.k0 (3 * ((k : Int)).toNat + 1)
  have h1 := h.k1 (3 * ((k : Int)).toNat + 1)
  split <;> omega
def erasedP (a : Int) (s : ChS) (k : Nat) : Bool := s.ask a (k : Int) 0 == 0
def restI (a : Int) (fs : List Flt) (s : ChS) : Int := leastI (wearL a s a.toNat) (thoseL a fs s (erasedP a s) a.toNat)
def tireI (a : Int) (fs : List Flt) (s : ChS) : Int := mostI (wearL a s a.toNat) (thoseL a fs s (erasedP a s) a.toNat)
theorem free_n (ws : List Int) (good : List Bool) (n1 n2 : Nat) (e1 : ws.length = n1) (e2 : good.length = n2) (A1 A2 : Option Addr) (c1 c2 : Nat) (w : World) (h1 : Sl w w.heap.size A1 (ws.map (Value.int .i64))) (h2 : Sl w w.heap.size A2 (good.map Value.bool)) (l1 : n1 ≤ 1000000) (l2 : n2 ≤ 1000000) (hw : ∀ z ∈ ws, 0 ≤ z ∧ z ≤ 2147483648) (T : Int) (hT : leastI ws good = T) :
    Calls Tryz.prog 171 #[.slice A1 n1 c1, .slice A2 n2 c2] w fun e w' => e = .returned (.int .i64 T) ∧ Below w.heap.size w w' := by
  subst e1 e2 hT
  go_enter Tryz.func171, Tryz.ntmps171
  go_wp2_with (go_at_call 106; refine (Least_any ws good A1 A2 c1 c2 _ h1 h2 l1 l2 hw).mono ?_; rintro e' w1 ⟨rfl, hb1⟩)
  go_ret
  exact ⟨rfl, hb1⟩
theorem spread_n (ws : List Int) (good : List Bool) (n1 n2 : Nat) (e1 : ws.length = n1) (e2 : good.length = n2) (A1 A2 : Option Addr) (c1 c2 : Nat) (w : World) (h1 : Sl w w.heap.size A1 (ws.map (Value.int .i64))) (h2 : Sl w w.heap.size A2 (good.map Value.bool)) (l1 : n1 ≤ 1000000) (l2 : n2 ≤ 1000000) (hw : ∀ z ∈ ws, 0 ≤ z ∧ z ≤ 2147483648) (T : Int) (hT : spreadI ws good = T) :
    Calls Tryz.prog 101 #[.slice A1 n1 c1, .slice A2 n2 c2] w fun e w' => e = .returned (.int .i64 T) ∧ Below w.heap.size w w' := by
  subst e1 e2 hT
  exact Spread_any ws good A1 A2 c1 c2 w h1 h2 l1 l2 hw
theorem rested_f (F : FlK) (a b c d e : Int) (fs : List Flt) (L N : Nat) (s : FlS) (n : Int) (w : World) (hF : FlW w F a b c d e fs L N s) (hbn : s.ch.Bnd n) (hn : n ≤ 900000000) (z : Int) (hz : restI a fs s.ch = z) :
    Calls Tryz.prog 157 #[.pointer (some ⟨F.fm, 0, none⟩)] w fun e' w' => e' = .returned (.int .i64 z) ∧ Below w.heap.size w w' := by
  have hm := may_bd hF.may
  obtain ⟨ha1, ha2, -⟩ := hm
  obtain ⟨NA, hA⟩ : ∃ NA : Nat, a = (NA : Int) := ⟨a.toNat, by omega⟩
  have hz0 : a.toNat = NA := by omega
  unfold restI at hz
  rw [hz0] at hz
  have hw := wearL_bd hbn hn a NA
  obtain ⟨lw, hlw⟩ : ∃ l, wearL a s.ch NA = l := ⟨_, rfl⟩
  obtain ⟨lt, hlt⟩ : ∃ l, thoseL a fs s.ch (erasedP a s.ch) NA = l := ⟨_, rfl⟩
  have HL1 : Hid (lw.length = NA) := Lib.hid (by rw [← hlw]; exact wearL_len _ _ _)
  have HL2 : Hid (lt.length = NA) := Lib.hid (by rw [← hlt]; exact thoseL_len _ _ _ _ _)
  rw [hlw, hlt] at hz
  rw [hlw] at hw
  have HWL := Lib.hid hlw
  have HTL : Hid (thoseL a fs s.ch (fun k => s.ch.ask a (k : Int) 0 == 0) NA = lt) := Lib.hid hlt
  have HA := Lib.hid hA
  have HZ := Lib.hid hz
  have HW := Lib.hid hw
  have hNA : NA ≤ 1000000 := by omega
  clear hlw hlt hA hz hw hz0
  go_enter Tryz.func157, Tryz.ntmps157
  go_wp2_with (first | (go_at_call 102; ((with_reducible refine (wears_f F a b c d e fs L N s _ hF _ HA.out _ HWL.out).mono ?_); rintro e' w1 ⟨⟨g1, rfl, hR1, -⟩, b1⟩; have hG := hF.below b1)) | (go_at_call 103; ((with_reducible refine (those_erased F a b c d e fs L N s _ hG _ HA.out _ HTL.out).mono ?_); rintro e' w2 ⟨⟨g2, rfl, hR2, -⟩, b2⟩; have S1 := (hR1.below b2).slr; have S2 := hR2.slr; have HB := btr b1 b1.size b2)) | (go_at_call 171; ((with_reducible refine (free_n lw lt _ _ HL1.out HL2.out _ _ _ _ _ S1 S2 hNA hNA HW.out _ HZ.out).mono ?_); rintro e' w3 ⟨rfl, b3⟩; skip)))
  go_ret
  exact ⟨rfl, btr HB HB.size b3⟩
end Go.Proofs.YtkpcohfdcilfcaaGreat
namespace Go.Proofs.YtkpcohfdcilfcaaGreat
open Go.ChangeShapes Go.WideShapes Go.ChangeAt Go.RowKit
attribute [local go_sem ↓] Go.wp_at_zero Go.wp_at_succ
theorem wrapF {x : Int} (h0 : -9223372036854775808 ≤ x) (h1 : x ≤ 9223372036854775807) : IntKind.i64.wrap x = x := by
  simp [IntKind.wrap, IntKind.bits, IntKind.signed]
  omega
def erC (l : List Bool) (k : Nat) : Nat := (l.take k).countP id
theorem erC_next {l : List Bool} {k : Nat} {x : Bool} (h : l[k]? = some x) : erC l (k + 1) = erC l k + if x then 1 else 0 := by
  unfold erC
  rw [List.take_add_one, h, List.countP_append]
  cases x <;> simp
def erN (a : Int) (fs : List Flt) (s : ChS) : Nat := erC (thoseL a fs s (erasedP a s) a.toNat) a.toNat
def resB (a d : Int) (fs : List Flt) (s : ChS) (more : Int) : Bool := decide (1 + more + d - (failC a fs s a.toNat : Int) ≤ (erN a fs s : Int))
theorem reserve_f (F : FlK) (a b c d e : Int) (fs : List Flt) (L N : Nat) (s : FlS) (q : Nat) (w : World) (hF : FlW w F a b c d e fs L N s) (hq : q ≤ 1000) (T : Bool) (hT : resB a d fs s.ch (q : Int) = T) :
    Calls Tryz.prog 117 #[.pointer (some ⟨F.fm, 0, none⟩), .int .i64 (q : Int)] w fun e' w' => e' = .returned (.bool T) ∧ Below w.heap.size w w' := by
  have hm := may_bd hF.may
  obtain ⟨ha1, ha2, -, -, -, -, hd1, hd2, -⟩ := hm
  obtain ⟨NA, hA⟩ : ∃ NA : Nat, a = (NA : Int) := ⟨a.toNat, by omega⟩
  have hz0 : a.toNat = NA := by omega
  obtain ⟨lt, hlt⟩ : ∃ l, thoseL a fs s.ch (erasedP a s.ch) NA = l := ⟨_, rfl⟩
  have HL2 : Hid (lt.length = NA) := Lib.hid (by rw [← hlt]; exact thoseL_len _ _ _ _ _)
  have HTL : Hid (thoseL a fs s.ch (fun k => s.ch.ask a (k : Int) 0 == 0) NA = lt) := Lib.hid hlt
  obtain ⟨fn, hfn⟩ : ∃ n, failC a fs s.ch a.toNat = n := ⟨_, rfl⟩
  have hfa : fn ≤ a.toNat := by rw [← hfn]; exact failC_le _ _ _ _
  unfold resB erN at hT
  rw [hfn, hz0, hlt] at hT
  have HFN := Lib.hid hfn
  have HA := Lib.hid hA
  have HT := Lib.hid hT
  have hNA : NA ≤ 20 := by omega
  have hfn2 : fn ≤ 20 := by omega
  clear hlt hA hT hz0 hfn hfa
  go_enter Tryz.func117, Tryz.ntmps117
  go_wp2_with ((go_at_call 103; ((with_reducible refine (those_erased F a b c d e fs L N s _ hF _ HA.out _ HTL.out).mono ?_); rintro e' w2 ⟨⟨g2, rfl, hR2, -⟩, b2⟩; have hG := hF.below b2)))
  go_loop [5, 13] (fun nv i => ∃ k n : Nat, k ≤ NA ∧ i = .int .i64 k ∧ nv = .int .i64 n ∧ Hid (erC lt k = n) ∧ n ≤ k) (fun _ i => NA - (intOf i).toNat)
  case atStart => exact ⟨0, 0, by omega, rfl, rfl, Lib.hid rfl, by omega⟩
  case round =>
    obtain ⟨k, n, hk, rfl, rfl, HC, hnk⟩ := hrel
    by_cases hlt : k < NA
    · have i0 : (0 : Int) ≤ (k : Int) := by omega
      have i1 : (k : Int) < (NA : Int) := by omega
      obtain ⟨x, hx⟩ : ∃ x, lt[k]? = some x := ⟨_, List.getElem?_eq_getElem (by have := HL2.out; omega)⟩
      have r2 := hR2.cell_ (i := k) (v := .bool x) (by rw [List.getElem?_map, hx]; rfl)
      have HNX : Hid (erC lt (k + 1) = n + if x then 1 else 0) := Lib.hid (by rw [erC_next hx, HC.out])
      clear hx
      cases x
      · go_wp2_with fail
        go_roundw
        case rel => exact ⟨k + 1, n, by omega, by go_num, rfl, Lib.hid (by rw [HNX.out]; rfl), by omega⟩
        case measure => simp [intOf]; omega
      · go_wp2_with fail
        go_roundw
        case rel => exact ⟨k + 1, n + 1, by omega, by go_num, by go_num, Lib.hid (by rw [HNX.out]; rfl), by omega⟩
        case measure => simp [intOf]; omega
    · obtain rfl : NA = k := by omega
      have HT2 : Hid (decide (1 + (q : Int) + d - (fn : Int) ≤ (n : Int)) = T) := Lib.hid (by rw [← HT.out, HC.out])
      have hD := hG.drew_
      have k4 := hD.c4
      have h63 : IntKind.i64.wrap (1 + (q : Int)) = 1 + (q : Int) := wrapF (by omega) (by omega)
      have h64 : IntKind.i64.wrap (1 + (q : Int) + d) = 1 + (q : Int) + d := wrapF (by omega) (by omega)
      have h65 : IntKind.i64.wrap (1 + (q : Int) + d - (fn : Int)) = 1 + (q : Int) + d - (fn : Int) := wrapF (by omega) (by omega)
      clear HC HT hlt hk
      go_upto_region 8 with fail
      refine wp_region_noPanic ?_
      refine wp_region_held_drew (S := (fun w_ => w_.cell? ⟨F.fm, 4, none⟩ = some (.int .i64 d))) (by kernel_rfl) ?_ (fun hHeld => ?_)
      · (first | with_reducible exact k4 | with_reducible exact j4 | assumption)
      refine tk 0 ?_; try simp only [Act.put, pz1, pz2, pz3]
      refine tk 1 ?_; try simp only [Act.put, pz1, pz2, pz3]
      refine tk 2 ?_; try simp only [Act.put, pz1, pz2, pz3]
      refine tk 3 ?_; try simp only [Act.put, pz1, pz2, pz3]
      refine tk 4 ?_; try simp only [Act.put, pz1, pz2, pz3]
      refine tk 5 ?_; try simp only [Act.put, pz1, pz2, pz3]
      refine tk 6 ?_; try simp only [Act.put, pz1, pz2, pz3]
      refine tk 7 ?_; try simp only [Act.put, pz1, pz2, pz3]
      refine tk 8 ?_; try simp only [Act.put, pz1, pz2, pz3]
      refine tk 9 ?_; try simp only [Act.put, pz1, pz2, pz3]
      refine wpAnyH_ready (rs := [10]) (by kernel_rfl) (by simp) ?_
      refine AllReadyH.cons (o := ⟨some 31, .call { callee := .value (.func 98), args := #[.tmp 30], argTypes := #[28] }, 3, "clear.go:125", #[⟨9, .data⟩], none⟩) rfl (fun K hK => ?_) AllReadyH.nil
      go_simp
      (go_at_call 98; ((with_reducible refine (failed_n F a b c d e fs L N s _ hD _ HFN.out).mono ?_); rintro e' w3 ⟨rfl, b3⟩; have j4 := (hD.below b3).c4))
      go_wp2_with fail
      refine hK.out _ _ ?_ (fun hNew => ?_)
      · (first | with_reducible exact k4 | with_reducible exact j4 | assumption)
      clear hK K hHeld
      have hHeld := hNew
      clear hNew
      try simp only [Act.put, pz1, pz2, pz3]
      refine tk 11 ?_; try simp only [Act.put, pz1, pz2, pz3]
      refine tk 12 ?_; try simp only [Act.put, pz1, pz2, pz3]
      refine tk 13 ?_; try simp only [Act.put, pz1, pz2, pz3]
      refine wpAnyH_done (by kernel_rfl) ?_ _
      refine NoPanic.normal ?_
      go_wp2_with fail
      go_ret
      exact ⟨by rw [HT2.out]; rfl, btr b2 b2.size ((below_dr _).trans b3)⟩
theorem Slack_any (a b c d e : Int) (w : World) :
    Calls Tryz.prog 99 #[.agg #[.int .i64 a, .int .i64 b, .int .i64 c, .int .i64 d, .int .i64 e]] w fun e' w' => e' = .returned (.int .i64 (ifMay a b c d e (2 * a))) ∧ Below w.heap.size w w' := by
  cases hm : mayB a b c d e
  · rw [ifMay_no _ hm]
    have Hm := Lib.hid hm
    clear hm
    go_enter Tryz.func99, Tryz.ntmps99
    go_wp2_with (go_at_call 108; refine (may_any _ _ _ _ _ _).mono ?_; rw [Hm.out]; rintro e' w1 ⟨rfl, hb1⟩)
    go_ret
    exact ⟨rfl, below1 hb1⟩
  · rw [ifMay_yes _ hm]
    obtain ⟨k1, k2, k3, k4, k7, k8, k5, k6, _⟩ := may_bd hm
    have Hm := Lib.hid hm
    clear hm
    go_enter Tryz.func99, Tryz.ntmps99
    go_wp2_with (go_at_call 108; refine (may_any _ _ _ _ _ _).mono ?_; rw [Hm.out]; rintro e' w1 ⟨rfl, hb1⟩; obtain ⟨hc1, hf1⟩ := bcell hb1)
    go_ret
    exact ⟨rfl, below1 hb1⟩
theorem slack_v (a b c d e : Int) (w : World) (hm : Hid (mayB a b c d e = true)) : Calls Tryz.prog 99 #[.agg #[.int .i64 a, .int .i64 b, .int .i64 c, .int .i64 d, .int .i64 e]] w fun e' w' => e' = .returned (.int .i64 (2 * a)) ∧ Below w.heap.size w w' := by
  have h := Slack_any a b c d e w
  rwa [ifMay_yes _ hm.out] at h
theorem Bound_any (a b c d e : Int) (w : World) :
    Calls Tryz.prog 100 #[.agg #[.int .i64 a, .int .i64 b, .int .i64 c, .int .i64 d, .int .i64 e]] w fun e' w' => e' = .returned (.int .i64 (ifMay a b c d e (60 * a * a * b))) ∧ Below w.heap.size w w' := by
  cases hm : mayB a b c d e
  · rw [ifMay_no _ hm]
    have Hm := Lib.hid hm
    clear hm
    go_enter Tryz.func100, Tryz.ntmps100
    go_wp2_with (go_at_call 108; refine (may_any _ _ _ _ _ _).mono ?_; rw [Hm.out]; rintro e' w1 ⟨rfl, hb1⟩)
    go_ret
    exact ⟨rfl, below1 hb1⟩
  · rw [ifMay_yes _ hm]
    obtain ⟨k1, k2, k3, k4, k7, k8, k5, k6, _⟩ := may_bd hm
    obtain ⟨p1, p2⟩ := mul_bd (x := 60 * a) (lo := 480) (hi := 1200) (by omega) (by omega) k1 k2 (by omega) (by omega)
    obtain ⟨p3, p4⟩ := mul_bd (x := 60 * a * a) (lo := 3840) (hi := 24000) (by omega) (by omega) k3 k4 (by omega) (by omega)
    have Hm := Lib.hid hm
    clear hm
    go_enter Tryz.func100, Tryz.ntmps100
    go_wp2_with (go_at_call 108; refine (may_any _ _ _ _ _ _).mono ?_; rw [Hm.out]; rintro e' w1 ⟨rfl, hb1⟩; obtain ⟨hc1, hf1⟩ := bcell hb1)
    go_ret
    exact ⟨rfl, below1 hb1⟩
theorem bound_v (a b c d e : Int) (w : World) (hm : Hid (mayB a b c d e = true)) : Calls Tryz.prog 100 #[.agg #[.int .i64 a, .int .i64 b, .int .i64 c, .int .i64 d, .int .i64 e]] w fun e' w' => e' = .returned (.int .i64 (60 * a * a * b)) ∧ Below w.heap.size w w' := by
  have h := Bound_any a b c d e w
  rwa [ifMay_yes _ hm.out] at h
end Go.Proofs.YtkpcohfdcilfcaaGreat
namespace Go.Proofs.YtkpcohfdcilfcaaGreat
open Go.ChangeShapes Go.WideShapes Go.ChangeAt Go.RowKit
attribute [local go_sem ↓] Go.wp_at_zero Go.wp_at_succ
theorem drew_belowF {B : Nat} {w w1 : World} (h : Below B w w1) : Below B w w1.drew := below_dn h 1
def everyP : Nat → Bool := fun _ => true
def sprI (a : Int) (fs : List Flt) (s : ChS) : Int := spreadI (wearL a s a.toNat) (thoseL a fs s everyP a.toNat)
theorem bound_bd {a b : Int} (h1 : 8 ≤ a) (h2 : a ≤ 20) (h3 : 4 ≤ b) (h4 : b ≤ 8) : 15360 ≤ 60 * a * a * b ∧ 60 * a * a * b ≤ 192000 := by
  obtain ⟨p1, p2⟩ := mul_bd (x := 60 * a) (lo := 480) (hi := 1200) (by omega) (by omega) h1 h2 (by omega) (by omega)
  obtain ⟨p3, p4⟩ := mul_bd (x := 60 * a * a) (lo := 3840) (hi := 24000) (by omega) (by omega) h3 h4 (by omega) (by omega)
  omega
theorem even_no (F : FlK) (a b c d e : Int) (fs : List Flt) (L N : Nat) (s : FlS) (n : Int) (w : World) (hF : FlW w F a b c d e fs L N s) (hbn : s.ch.Bnd n) (hn : n ≤ 900000000) (hsp : sprI a fs s.ch ≤ e + 2 * a + s.ch.cuts) :
    Calls Tryz.prog 64 #[.pointer (some ⟨F.fm, 0, none⟩)] w fun e' w' => e' = .returned (.int .i64 0) ∧ Below w.heap.size w w' := by
  have hm := hF.may
  obtain ⟨ha1, ha2, hb1, hb2, -, -, -, -, he1, he2, -⟩ := may_bd hm
  have HM := Lib.hid hm
  obtain ⟨NA, hA⟩ : ∃ NA : Nat, a = (NA : Int) := ⟨a.toNat, by omega⟩
  have hz0 : a.toNat = NA := by omega
  have hw := wearL_bd hbn hn a NA
  obtain ⟨lw, hlw⟩ : ∃ l, wearL a s.ch NA = l := ⟨_, rfl⟩
  obtain ⟨lt, hlt⟩ : ∃ l, thoseL a fs s.ch everyP NA = l := ⟨_, rfl⟩
  have HL1 : Hid (lw.length = NA) := Lib.hid (by rw [← hlw]; exact wearL_len _ _ _)
  have HL2 : Hid (lt.length = NA) := Lib.hid (by rw [← hlt]; exact thoseL_len _ _ _ _ _)
  unfold sprI at hsp
  rw [hz0, hlw, hlt] at hsp
  obtain ⟨sp, hsp1⟩ : ∃ z, spreadI lw lt = z := ⟨_, rfl⟩
  rw [hsp1] at hsp
  have HSP := Lib.hid hsp1
  rw [hlw] at hw
  have HWL := Lib.hid hlw
  have HTL : Hid (thoseL a fs s.ch (fun _ => true) NA = lt) := Lib.hid hlt
  have HA := Lib.hid hA
  have HW := Lib.hid hw
  have hNA : NA ≤ 1000000 := by omega
  obtain ⟨cu, hcu⟩ : ∃ z, s.ch.cuts = z := ⟨_, rfl⟩
  rw [hcu] at hsp
  have HCU := Lib.hid hcu
  have hc0 : 0 ≤ cu := by rw [← hcu]; exact hbn.c0
  have hc1 : cu ≤ n := by rw [← hcu]; exact hbn.c1
  obtain ⟨op, hop⟩ : ∃ z, s.ch.ops = z := ⟨_, rfl⟩
  have HOP := Lib.hid hop
  have ho0 : 0 ≤ op := by rw [← hop]; exact hbn.o0
  have ho1 : op ≤ n := by rw [← hop]; exact hbn.o1
  obtain ⟨BD, hBD⟩ : ∃ z, 60 * a * a * b = z := ⟨_, rfl⟩
  obtain ⟨hB1, hB2⟩ := bound_bd ha1 ha2 hb1 hb2
  rw [hBD] at hB1 hB2
  have HBD := Lib.hid hBD
  have h61 : IntKind.i64.wrap (e + 2 * a) = e + 2 * a := wrapF (by omega) (by omega)
  have h62 : IntKind.i64.wrap (e + 2 * a + cu) = e + 2 * a + cu := wrapF (by omega) (by omega)
  have hd1 : BD.tdiv 2 = BD / 2 := Int.tdiv_eq_ediv_of_nonneg (by omega)
  have HEN : Hid (op < IntKind.i64.wrap (op + IntKind.i64.wrap (BD.tdiv 2))) := Lib.hid (by
    rw [hd1, wrapF (x := BD / 2) (by omega) (by omega), wrapF (by omega) (by omega)]
    omega)
  clear hd1
  have HALL : Hid (∀ w_, Below w.heap.size w w_ → Below w.heap.size w w_ ∧ w_.cell? ⟨F.fm, 0, none⟩ = some (.pointer (some ⟨F.m, 0, none⟩)) ∧ w_.cell? ⟨F.fm, 1, none⟩ = some (.int .i64 a) ∧ w_.cell? ⟨F.fm, 2, none⟩ = some (.int .i64 b) ∧ w_.cell? ⟨F.fm, 3, none⟩ = some (.int .i64 c) ∧ w_.cell? ⟨F.fm, 4, none⟩ = some (.int .i64 d) ∧ w_.cell? ⟨F.fm, 5, none⟩ = some (.int .i64 e)) := Lib.hid (fun w_ h => by
    have hG := hF.below h
    exact ⟨h, hG.c0, hG.c1, hG.c2, hG.c3, hG.c4, hG.c5⟩)
  have QD := HALL.out _ (below_dr w)
  clear hlw hlt hA hw hz0 hsp1 hcu hop hBD hm
  go_enter Tryz.func64, Tryz.ntmps64
  go_upto_region 1 with fail
  go_cut [3] (fun v wx => v = .int .i64 (e + 2 * a + cu) ∧ Below w.heap.size w wx)
  case first =>
    refine wp_region_noPanic ?_
    refine wp_region_held_drew (S := (fun w_ => Below w.heap.size w w_ ∧ w_.cell? ⟨F.fm, 0, none⟩ = some (.pointer (some ⟨F.m, 0, none⟩)) ∧ w_.cell? ⟨F.fm, 1, none⟩ = some (.int .i64 a) ∧ w_.cell? ⟨F.fm, 2, none⟩ = some (.int .i64 b) ∧ w_.cell? ⟨F.fm, 3, none⟩ = some (.int .i64 c) ∧ w_.cell? ⟨F.fm, 4, none⟩ = some (.int .i64 d) ∧ w_.cell? ⟨F.fm, 5, none⟩ = some (.int .i64 e))) (by kernel_rfl) ?_ (fun hHeld => ?_)
    · (first | with_reducible exact QD | with_reducible exact hNext | assumption)
    refine tk 0 ?_; try simp only [Act.put, pz1, pz2, pz3]
    refine tk 1 ?_; try simp only [Act.put, pz1, pz2, pz3]
    refine tk 2 ?_; try simp only [Act.put, pz1, pz2, pz3]
    refine tk 3 ?_; try simp only [Act.put, pz1, pz2, pz3]
    refine tk 4 ?_; try simp only [Act.put, pz1, pz2, pz3]
    refine tk 5 ?_; try simp only [Act.put, pz1, pz2, pz3]
    refine tk 6 ?_; try simp only [Act.put, pz1, pz2, pz3]
    refine tk 7 ?_; try simp only [Act.put, pz1, pz2, pz3]
    refine tk 8 ?_; try simp only [Act.put, pz1, pz2, pz3]
    refine tk 11 ?_; try simp only [Act.put, pz1, pz2, pz3]
    refine tk 12 ?_; try simp only [Act.put, pz1, pz2, pz3]
    refine tk 13 ?_; try simp only [Act.put, pz1, pz2, pz3]
    refine tk 14 ?_; try simp only [Act.put, pz1, pz2, pz3]
    refine wpAnyH_ready (rs := [9]) (by kernel_rfl) (by simp) ?_
    refine AllReadyH.cons (o := ⟨some 16, .call { callee := .value (.func 99), args := #[.tmp 15], argTypes := #[23] }, 3, "clear.go:232", #[⟨8, .data⟩], none⟩) rfl (fun K hK => ?_) AllReadyH.nil
    go_simp
    (go_at_call 99; ((with_reducible refine (slack_v a b c d e _ HM).mono ?_); rintro e' w1 ⟨rfl, b1⟩; have HZ9 := btr hHeld.1 hHeld.1.size b1; have hNext := HALL.out _ HZ9))
    go_wp2_with fail
    refine hK.out _ _ ?_ (fun hNew => ?_)
    · (first | with_reducible exact QD | with_reducible exact hNext | assumption)
    clear hK K hHeld
    have hHeld := hNew
    clear hNew
    try simp only [Act.put, pz1, pz2, pz3]
    refine tk 10 ?_; try simp only [Act.put, pz1, pz2, pz3]
    refine wpAnyH_ready (rs := [15]) (by kernel_rfl) (by simp) ?_
    refine AllReadyH.cons (o := ⟨some 22, .call { callee := .value (.func 57), args := #[.tmp 21], argTypes := #[27] }, 3, "clear.go:232", #[⟨14, .data⟩, ⟨9, .chain⟩], none⟩) rfl (fun K hK => ?_) AllReadyH.nil
    go_simp
    (go_at_call 57; ((with_reducible refine (cuts_any F.m F.gx F.gb F.Af F.nf F.cf a b c d e fs _ s.ch (hF.below hHeld.1).chip).mono ?_); rintro e' w2 ⟨rfl, rfl⟩; rw [HCU.out]))
    go_wp2_with fail
    refine hK.out _ _ ?_ (fun hNew => ?_)
    · (first | with_reducible exact QD | with_reducible exact hNext | assumption)
    clear hK K hHeld
    have hHeld := hNew
    clear hNew
    try simp only [Act.put, pz1, pz2, pz3]
    refine tk 16 ?_; try simp only [Act.put, pz1, pz2, pz3]
    refine tk 17 ?_; try simp only [Act.put, pz1, pz2, pz3]
    refine wpAnyH_done (by kernel_rfl) ?_ _
    refine NoPanic.normal ?_
    go_wp2_with fail
    go_meet
    exact ⟨rfl, hHeld.1⟩
  case rest =>
    obtain ⟨rfl, HB1⟩ := hcut
    have QD := HALL.out _ (drew_belowF HB1)
    go_upto_region 2 with fail
    go_cut [4] (fun v wx => (∃ en : Int, v = .int .i64 en ∧ op < en) ∧ Below w.heap.size w wx)
    case first =>
      refine wp_region_noPanic ?_
      refine wp_region_held_drew (S := (fun w_ => Below w.heap.size w w_ ∧ w_.cell? ⟨F.fm, 0, none⟩ = some (.pointer (some ⟨F.m, 0, none⟩)) ∧ w_.cell? ⟨F.fm, 1, none⟩ = some (.int .i64 a) ∧ w_.cell? ⟨F.fm, 2, none⟩ = some (.int .i64 b) ∧ w_.cell? ⟨F.fm, 3, none⟩ = some (.int .i64 c) ∧ w_.cell? ⟨F.fm, 4, none⟩ = some (.int .i64 d) ∧ w_.cell? ⟨F.fm, 5, none⟩ = some (.int .i64 e))) (by kernel_rfl) ?_ (fun hHeld => ?_)
      · (first | with_reducible exact QD | with_reducible exact hNext | assumption)
      refine tk 0 ?_; try simp only [Act.put, pz1, pz2, pz3]
      refine tk 1 ?_; try simp only [Act.put, pz1, pz2, pz3]
      refine tk 2 ?_; try simp only [Act.put, pz1, pz2, pz3]
      refine tk 3 ?_; try simp only [Act.put, pz1, pz2, pz3]
      refine tk 5 ?_; try simp only [Act.put, pz1, pz2, pz3]
      refine tk 6 ?_; try simp only [Act.put, pz1, pz2, pz3]
      refine tk 7 ?_; try simp only [Act.put, pz1, pz2, pz3]
      refine tk 8 ?_; try simp only [Act.put, pz1, pz2, pz3]
      refine wpAnyH_ready (rs := [4]) (by kernel_rfl) (by simp) ?_
      refine AllReadyH.cons (o := ⟨some 28, .call { callee := .value (.func 15), args := #[.tmp 27], argTypes := #[27] }, 3, "clear.go:233", #[⟨3, .data⟩], none⟩) rfl (fun K hK => ?_) AllReadyH.nil
      go_simp
      (go_at_call 15; ((with_reducible refine (ops_any F.m F.gx F.gb F.Af F.nf F.cf a b c d e fs _ s.ch (hF.below hHeld.1).chip).mono ?_); rintro e' w2 ⟨rfl, rfl⟩; rw [HOP.out]))
      go_wp2_with fail
      refine hK.out _ _ ?_ (fun hNew => ?_)
      · (first | with_reducible exact QD | with_reducible exact hNext | assumption)
      clear hK K hHeld
      have hHeld := hNew
      clear hNew
      try simp only [Act.put, pz1, pz2, pz3]
      refine wpAnyH_ready (rs := [9]) (by kernel_rfl) (by simp) ?_
      refine AllReadyH.cons (o := ⟨some 33, .call { callee := .value (.func 100), args := #[.tmp 32], argTypes := #[23] }, 3, "clear.go:233", #[⟨8, .data⟩, ⟨4, .chain⟩], none⟩) rfl (fun K hK => ?_) AllReadyH.nil
      go_simp
      (go_at_call 100; ((with_reducible refine (bound_v a b c d e _ HM).mono ?_); rintro e' w1 ⟨rfl, b1⟩; rw [HBD.out]; have HZ9 := btr hHeld.1 hHeld.1.size b1; have hNext := HALL.out _ HZ9))
      go_wp2_with fail
      refine hK.out _ _ ?_ (fun hNew => ?_)
      · (first | with_reducible exact QD | with_reducible exact hNext | assumption)
      clear hK K hHeld
      have hHeld := hNew
      clear hNew
      try simp only [Act.put, pz1, pz2, pz3]
      refine tk 10 ?_; try simp only [Act.put, pz1, pz2, pz3]
      refine tk 11 ?_; try simp only [Act.put, pz1, pz2, pz3]
      refine tk 12 ?_; try simp only [Act.put, pz1, pz2, pz3]
      refine wpAnyH_done (by kernel_rfl) ?_ _
      refine NoPanic.normal ?_
      go_wp2_with fail
      go_meet
      exact ⟨⟨_, rfl, HEN.out⟩, hHeld.1⟩
    case rest =>
      obtain ⟨⟨en, rfl, hen⟩, HB2⟩ := hcut
      go_wp2_with fail
      go_loopw [5] (fun _ wr => Below w.heap.size w wr) (fun _ _ => 0)
      case atStart => exact HB2
      case round =>
        have HB := hrel
        have hG := hF.below HB
        have k0 := hG.c0
        have hno : ¬ e + 2 * a + cu < sp := by omega
        go_wp2_with (first | (go_at_call 15; ((with_reducible refine (ops_any F.m F.gx F.gb F.Af F.nf F.cf a b c d e fs _ s.ch hG.chip).mono ?_); rintro e' w3 ⟨rfl, rfl⟩; rw [HOP.out])) | (go_at_call 102; ((with_reducible refine (wears_f F a b c d e fs L N s _ hG _ HA.out _ HWL.out).mono ?_); rintro e' w4 ⟨⟨g1, rfl, hR1, -⟩, b4⟩; have hG4 := hG.below b4)) | (go_at_call 103; ((with_reducible refine (those_every F a b c d e fs L N s _ hG4 _ HA.out _ HTL.out).mono ?_); rintro e' w5 ⟨⟨g2, rfl, hR2, -⟩, b5⟩; have S1 := (hR1.below b5).slr; have S2 := hR2.slr; have HB5 := btr b4 b4.size b5)) | (go_at_call 101; ((with_reducible refine (spread_n lw lt _ _ HL1.out HL2.out _ _ _ _ _ S1 S2 hNA hNA HW.out _ HSP.out).mono ?_); rintro e' w6 ⟨rfl, b6⟩; have HB6 := btr HB5 HB5.size b6)))
        go_ret
        exact ⟨rfl, btr HB HB.size HB6⟩
end Go.Proofs.YtkpcohfdcilfcaaGreat
namespace Go.Proofs.YtkpcohfdcilfcaaGreat
open Go.ChangeShapes Go.WideShapes Go.ChangeAt Go.RowKit
theorem Row.below {w w' : World} {g : Nat} {xs : List Int} (h : Row w g xs) (hb : Below w.heap.size w w') : Row w' g xs := h.keep (hb.block _ h.lt)
theorem Row.drew {w : World} {g : Nat} {xs : List Int} (h : Row w g xs) : Row w.drew g xs := h.keep rfl
def liveF (a b : Int) (A : List Int) (x : Int) (j : Nat) : Nat := (List.range j).countP fun (i : Nat) => whoB a b A x (i : Int)
def pagesF (A : List Int) (j : Nat) : List Int := ((List.range j).filter fun (p : Nat) => decide (A.getD p (-1) ≠ -1)).map fun (p : Nat) => (p : Int)
theorem Row.rd {w : World} {g n : Nat} {xs : List Int} (h : Row w g xs) (hn : xs.length = n) : Rd w (some ⟨g, 0, none⟩) n 1 (xs.map (Value.int .i64)) := by
  refine ⟨by simp [hn], Or.inr ⟨g, 0, rfl, fun j u hu => ?_⟩⟩
  obtain ⟨hlt, he⟩ := List.getElem?_eq_some_iff.1 hu
  have hj : j < xs.length := by simpa using hlt
  rw [Nat.zero_add, h.cell_ hj, ← he, List.getD_eq_getElem?_getD, List.getElem?_eq_getElem hj]
  simp
end Go.Proofs.YtkpcohfdcilfcaaGreat
namespace Go.Proofs.YtkpcohfdcilfcaaGreat
open Go.ChangeShapes Go.WideShapes Go.ChangeAt Go.RowKit
theorem sameI_any (xs ys : List Int) (A B : Option Addr) (c d : Nat) (w : World) (h1 : Sl w w.heap.size A (xs.map (Value.int .i64))) (h2 : Sl w w.heap.size B (ys.map (Value.int .i64))) (n1 : xs.length ≤ 1000000) (n2 : ys.length ≤ 1000000) :
    Calls Tryz.prog 42 #[.slice A xs.length c, .slice B ys.length d] w fun e w' => e = .returned (.bool (decide (xs = ys))) ∧ Below w.heap.size w w' := by
  go_enter Tryz.func42, Tryz.ntmps42
  by_cases hl : xs.length = ys.length
  · go_wp2
    go_loopw [5] (fun i wr => ∃ k : Nat, k ≤ xs.length ∧ i = .int .i64 k ∧ Hid (xs.take k = ys.take k) ∧ Below w.heap.size w wr) (fun i _ => xs.length - (intOf i).toNat)
    case atStart => exact ⟨0, Nat.zero_le _, rfl, Lib.hid rfl, Below.refl _ _⟩
    case round =>
      obtain ⟨k, hk, rfl, hd, hB⟩ := hrel
      by_cases hlt : k < xs.length
      · obtain ⟨b1, o1, rfl, l1, q1⟩ := h1.at_ (by simpa using (by omega : 0 < xs.length))
        obtain ⟨b2, o2, rfl, l2, q2⟩ := h2.at_ (by simpa using (by omega : 0 < ys.length))
        obtain ⟨x, hx⟩ : ∃ x, xs[k]? = some x := ⟨_, List.getElem?_eq_getElem hlt⟩
        obtain ⟨y, hy⟩ : ∃ y, ys[k]? = some y := ⟨_, List.getElem?_eq_getElem (by omega)⟩
        have cx : wr.cell? ⟨b1, o1 + k, none⟩ = some (.int .i64 x) := (hB.cell (p := ⟨b1, o1 + k, none⟩) l1).trans (q1 k _ (by rw [List.getElem?_map, hx]; rfl))
        have cy : wr.cell? ⟨b2, o2 + k, none⟩ = some (.int .i64 y) := (hB.cell (p := ⟨b2, o2 + k, none⟩) l2).trans (q2 k _ (by rw [List.getElem?_map, hy]; rfl))
        have Hx := Lib.hid hx
        have Hy := Lib.hid hy
        clear hx hy q1 q2
        have i1 : (0 : Int) ≤ (k : Int) := by omega
        have i2 : (k : Int) < (xs.length : Int) := by omega
        have i3 : (k : Int) < (ys.length : Int) := by omega
        by_cases hxy : x = y
        · subst hxy
          go_wp2
          go_quiet (fail)
          go_wp2
          refine ⟨⟨k + 1, by omega, by go_num, ?_, below_dn hB _⟩, by simp [intOf]; omega⟩
          show xs.take (k + 1) = ys.take (k + 1)
          rw [List.take_add_one, List.take_add_one, hd.out, Hx.out, Hy.out]
        · have hb : (x != y) = true := by
            simp only [bne_iff_ne, ne_eq]
            exact hxy
          have hne : xs ≠ ys := by
            intro h
            subst h
            exact hxy (Option.some.inj (Hx.out.symm.trans Hy.out))
          have Hne := Lib.hid hne
          clear hne hxy
          go_wp2
          go_quiet (fail)
          go_wp2
          go_ret
          exact ⟨by rw [decide_eq_false Hne.out]; rfl, below_dn hB _⟩
      · have : k = xs.length := by omega
        subst this
        have he : xs = ys := by
          have := hd.out
          rw [List.take_length, hl, List.take_length] at this
          exact this
        clear hd
        go_wp2
        go_ret
        exact ⟨by rw [decide_eq_true he]; rfl, hB⟩
  · have hne : xs ≠ ys := fun h => hl (by rw [h])
    go_wp2
    go_ret
    exact ⟨by rw [decide_eq_false hne]; rfl, Below.refl _ _⟩
theorem sameI_b (B : Bool) (xs ys : List Int) (n m : Nat) (hn : xs.length = n) (hm : ys.length = m) (hb : decide (xs = ys) = B) (A1 A2 : Option Addr) (c d : Nat) (w : World) (h1 : Sl w w.heap.size A1 (xs.map (Value.int .i64))) (h2 : Sl w w.heap.size A2 (ys.map (Value.int .i64))) (n1 : n ≤ 1000000) (n2 : m ≤ 1000000) :
    Calls Tryz.prog 42 #[.slice A1 n c, .slice A2 m d] w fun e w' => e = .returned (.bool B) ∧ Below w.heap.size w w' := by
  subst hn hm hb
  exact sameI_any xs ys A1 A2 c d w h1 h2 n1 n2
end Go.Proofs.YtkpcohfdcilfcaaGreat
namespace Go.Proofs.YtkpcohfdcilfcaaGreat
open Go.ChangeShapes Go.WideShapes Go.ChangeAt Go.RowKit
theorem below5 {w w' : World} {m : Nat} {v0 v1 v2 v3 v4 : Value} (hb : Below w.heap.size w w') (hm : m < w.heap.size)
    (h : w.cell? ⟨m, 0, none⟩ = some v0 ∧ w.cell? ⟨m, 1, none⟩ = some v1 ∧ w.cell? ⟨m, 2, none⟩ = some v2 ∧ w.cell? ⟨m, 3, none⟩ = some v3 ∧ w.cell? ⟨m, 4, none⟩ = some v4) :
    w'.cell? ⟨m, 0, none⟩ = some v0 ∧ w'.cell? ⟨m, 1, none⟩ = some v1 ∧ w'.cell? ⟨m, 2, none⟩ = some v2 ∧ w'.cell? ⟨m, 3, none⟩ = some v3 ∧ w'.cell? ⟨m, 4, none⟩ = some v4 := by
  obtain ⟨h0, h1, h2, h3, h4⟩ := h
  have q : ∀ i, w'.cell? ⟨m, i, none⟩ = w.cell? ⟨m, i, none⟩ := fun i => hb.cell (p := ⟨m, i, none⟩) hm
  exact ⟨(q 0).trans h0, (q 1).trans h1, (q 2).trans h2, (q 3).trans h3, (q 4).trans h4⟩
theorem build_one (z : Int) (w : World) : (Instr.buildSlice 24 1 #[(0, .int .i64 z)]).run Tryz.prog w = .ok (.slice (some ⟨w.heap.size, 0, none⟩) 1 1) (w.alloc (.cells #[.int .i64 z] 3)) := by kernel_rfl
theorem wp_build1m {w : World} {o : Oper} {a : Act} {K : Act → World → Prop} {Q : Exit → Act → World → Prop} (x : Operand) (hop : o.op = Op.buildSlice 24 1 #[(0, x)])
    (z : Int) (hx : a.eval x = .int .i64 z)
    (hK : ∀ w' b, Blk w' b 3 #[.int .i64 z] → w.heap.size ≤ b → Below w.heap.size w w' → K (a.put o.dst (.slice (some ⟨b, 0, none⟩) 1 1)) w') : Oper.wp Tryz.prog o a w K Q := by
  have hrun := build_one z w
  unfold Oper.wp
  simp [execOp, hop, hx, hrun, Result.andThen]
  exact hK _ _ (Blk.new_ _ _ _) (Nat.le_refl _) ((Below.refl _ _).alloc (Nat.le_refl _) _)
theorem box_map (a b c d e : Int) (g1 L c1 g2 N c2 : Nat) (w : World) : (Instr.box 138 (.agg #[.int .i64 a, .int .i64 b, .int .i64 c, .int .i64 d, .int .i64 e, .slice (some ⟨g1, 0, none⟩) L c1, .slice (some ⟨g2, 0, none⟩) N c2])).run Tryz.prog w = .ok (.pointer (some ⟨w.heap.size, 0, none⟩)) (w.alloc (.cells #[.int .i64 a, .int .i64 b, .int .i64 c, .int .i64 d, .int .i64 e, .slice (some ⟨g1, 0, none⟩) L c1, .slice (some ⟨g2, 0, none⟩) N c2] 138)) := by kernel_rfl
theorem wp_boxM {w : World} {o : Oper} {a' : Act} {K : Act → World → Prop} {Q : Exit → Act → World → Prop} (x : Operand) (hop : o.op = Op.box 138 x)
    (a b c d e : Int) {g1 L c1 g2 N c2 : Nat} (hx : a'.eval x = .agg #[.int .i64 a, .int .i64 b, .int .i64 c, .int .i64 d, .int .i64 e, .slice (some ⟨g1, 0, none⟩) L c1, .slice (some ⟨g2, 0, none⟩) N c2])
    (hK : ∀ w' m, Blk w' m 138 #[.int .i64 a, .int .i64 b, .int .i64 c, .int .i64 d, .int .i64 e, .slice (some ⟨g1, 0, none⟩) L c1, .slice (some ⟨g2, 0, none⟩) N c2] → w.heap.size ≤ m → Below w.heap.size w w' → K (a'.put o.dst (.pointer (some ⟨m, 0, none⟩))) w') : Oper.wp Tryz.prog o a' w K Q := by
  have hrun := box_map a b c d e g1 L c1 g2 N c2 w
  unfold Oper.wp
  simp [execOp, hop, hx, hrun, Result.andThen]
  exact hK _ _ (Blk.new_ _ _ _) (Nat.le_refl _) ((Below.refl _ _).alloc (Nat.le_refl _) _)
theorem logi_b (a b c d e : Int) (L : Nat) (w : World) (hm : Hid (mayB a b c d e = true)) (hl : Hid (logicalI a b d = (L : Int))) :
    Calls Tryz.prog 89 #[.agg #[.int .i64 a, .int .i64 b, .int .i64 c, .int .i64 d, .int .i64 e]] w fun e' w' => e' = .returned (.int .i64 (L : Int)) ∧ Below w.heap.size w w' := by
  have q := Logical_any a b c d e w
  rwa [ifMay_yes _ hm.out, hl.out] at q
theorem gmay_b (a b c d e : Int) (M : Bool) (w : World) (hm : Hid (mayB a b c d e = M)) :
    Calls Tryz.prog 108 #[.agg #[.int .i64 a, .int .i64 b, .int .i64 c, .int .i64 d, .int .i64 e]] w fun e' w' => e' = .returned (.bool M) ∧ Below w.heap.size w w' := by
  have q := may_any a b c d e w
  rwa [hm.out] at q
theorem rep_b (v : Int) (b n : Nat) (w : World) (hB : Blk w b 3 #[.int .i64 v]) (n1 : 1 ≤ n) (n2 : n ≤ 1000) :
    Calls Tryz.prog 116 #[.slice (some ⟨b, 0, none⟩) 1 1, .int .i64 (n : Int)] w fun e' w' => ∃ g, e' = .returned (.slice (some ⟨g, 0, none⟩) n n) ∧ w.heap.size ≤ g ∧ Row w' g (List.replicate n v) ∧ Below w.heap.size w w' := by
  refine (rep_any v b n w (hB.cell_ 0) hB.lt n1 n2).mono ?_
  rintro e' w' ⟨rfl, hb, hB'⟩
  exact ⟨_, rfl, Nat.le_refl _, Row.of_blk hB', hb⟩
theorem new_yes (a b c d e : Int) (L N : Nat) (w : World) (HM : Hid (mayB a b c d e = true)) (HLOG : Hid (logicalI a b d = (L : Int))) (hab : (N : Int) = a * b) (n1 : 1 ≤ L) (n2 : L ≤ 1000) (m1 : 1 ≤ N) (m2 : N ≤ 1000) :
    Calls Tryz.prog 76 #[.agg #[.int .i64 a, .int .i64 b, .int .i64 c, .int .i64 d, .int .i64 e]] w fun e' w' => (∃ m g1 g2, e' = .returned (.pointer (some ⟨m, 0, none⟩)) ∧ MapW w' m g1 g2 a b c d e L N (List.replicate L (-1)) (List.replicate N (-1)) ∧ w.heap.size ≤ m ∧ w.heap.size ≤ g1 ∧ w.heap.size ≤ g2) ∧ Below w.heap.size w w' := by
  have hab' : a * b = (N : Int) := hab.symm
  have hwN : IntKind.i64.wrap (N : Int) = (N : Int) := wrapSM _ (by omega) (by omega)
  have HB0 : Below w.heap.size w (w.alloc (.cells #[.int .i64 a, .int .i64 b, .int .i64 c, .int .i64 d, .int .i64 e] 23)) := (Below.refl _ _).alloc (Nat.le_refl _) _
  have G1 : Blk (w.alloc (.cells #[.int .i64 a, .int .i64 b, .int .i64 c, .int .i64 d, .int .i64 e] 23)) w.heap.size 23 #[.int .i64 a, .int .i64 b, .int .i64 c, .int .i64 d, .int .i64 e] := Blk.new_ _ _ _
  clear hab
  go_enter Tryz.func76, Tryz.ntmps76
  go_upto_region 3 with (go_at_call 108; ((with_reducible refine (gmay_b _ _ _ _ _ _ _ HM).mono ?_); rintro e' w1 ⟨rfl, hb⟩; have HB0 := btr HB0 HB0.size hb; have G1 := G1.below hb G1.lt))
  have HY : w1.drew.cell? ⟨w.heap.size, 0, none⟩ = some (.int .i64 a) ∧ w1.drew.cell? ⟨w.heap.size, 1, none⟩ = some (.int .i64 b) ∧ w1.drew.cell? ⟨w.heap.size, 2, none⟩ = some (.int .i64 c) ∧ w1.drew.cell? ⟨w.heap.size, 3, none⟩ = some (.int .i64 d) ∧ w1.drew.cell? ⟨w.heap.size, 4, none⟩ = some (.int .i64 e) := ⟨G1.cell_ 0, G1.cell_ 1, G1.cell_ 2, G1.cell_ 3, G1.cell_ 4⟩
  have HB0 := HB0.drew
  have HS : w.heap.size + 1 ≤ w1.drew.heap.size := G1.lt
  clear G1 hb
  refine wp_region_noPanic ?_
  refine wp_region_held_drew (S := (fun w' => w'.cell? ⟨w.heap.size, 0, none⟩ = some (.int .i64 a) ∧ w'.cell? ⟨w.heap.size, 1, none⟩ = some (.int .i64 b) ∧ w'.cell? ⟨w.heap.size, 2, none⟩ = some (.int .i64 c) ∧ w'.cell? ⟨w.heap.size, 3, none⟩ = some (.int .i64 d) ∧ w'.cell? ⟨w.heap.size, 4, none⟩ = some (.int .i64 e))) (by kernel_rfl) ?_ (fun hHeld => ?_)
  · (first | exact HY | assumption)
  refine tk 0 ?_; try simp only [Act.put, pz1, pz2, pz3]
  refine tk 2 ?_; try simp only [Act.put, pz1, pz2, pz3]
  refine tk 6 ?_; try simp only [Act.put, pz1, pz2, pz3]
  refine tk 7 ?_; try simp only [Act.put, pz1, pz2, pz3]
  refine tk 8 ?_; try simp only [Act.put, pz1, pz2, pz3]
  refine tk 9 ?_; try simp only [Act.put, pz1, pz2, pz3]
  refine tk 10 ?_; try simp only [Act.put, pz1, pz2, pz3]
  refine wpAnyH_ready (rs := [1, 3, 5]) (by kernel_rfl) (by simp) ?_
  refine (AllReadyH.cons (o := ⟨some 7, .buildSlice 24 1 #[(0, .const (.int .i64 (-1)))], 24, "maps.go:25", #[], none⟩) rfl (fun K hK => ?_) (AllReadyH.cons (o := ⟨some 9, .call { callee := .value (.func 89), args := #[.tmp 8], argTypes := #[23] }, 3, "maps.go:27", #[⟨2, .data⟩], none⟩) rfl (fun K hK => ?_) (AllReadyH.cons (o := ⟨some 11, .buildSlice 24 1 #[(0, .const (.int .i64 (-1)))], 24, "maps.go:25", #[], none⟩) rfl (fun K hK => ?_) AllReadyH.nil)))
  · refine wp_build1m _ rfl (-1) rfl ?_
    intro wN b1 B1 hq1 hb
    (try have B5 := B5.below hb B5.lt)
    (try have R1 := R1.below hb)
    (try have R2 := R2.below hb)
    have HY := below5 hb (Nat.lt_of_lt_of_le (Nat.lt_succ_self _) HS) HY
    have HB0 := btr HB0 HB0.size hb
    have HS := Nat.le_trans HS hb.size
    refine hK.out _ _ ?_ (fun hNew => ?_)
    · (first | exact HY | assumption)
    clear hK K hHeld
    have hHeld := hNew
    clear hNew
    try simp only [Act.put, pz1, pz2, pz3]
    refine wpAnyH_ready (rs := [3, 5]) (by kernel_rfl) (by simp) ?_
    refine (AllReadyH.cons (o := ⟨some 9, .call { callee := .value (.func 89), args := #[.tmp 8], argTypes := #[23] }, 3, "maps.go:27", #[⟨2, .data⟩], none⟩) rfl (fun K hK => ?_) (AllReadyH.cons (o := ⟨some 11, .buildSlice 24 1 #[(0, .const (.int .i64 (-1)))], 24, "maps.go:25", #[], none⟩) rfl (fun K hK => ?_) AllReadyH.nil))
    · go_simp
      (go_at_call 89; ((with_reducible refine (logi_b _ _ _ _ _ L _ HM HLOG).mono ?_); rintro e' wN ⟨rfl, hb⟩))
      go_wp2_with fail
      (try have B1 := B1.below hb B1.lt)
      (try have B5 := B5.below hb B5.lt)
      (try have R1 := R1.below hb)
      (try have R2 := R2.below hb)
      have HY := below5 hb (Nat.lt_of_lt_of_le (Nat.lt_succ_self _) HS) HY
      have HB0 := btr HB0 HB0.size hb
      have HS := Nat.le_trans HS hb.size
      refine hK.out _ _ ?_ (fun hNew => ?_)
      · (first | exact HY | assumption)
      clear hK K hHeld
      have hHeld := hNew
      clear hNew
      try simp only [Act.put, pz1, pz2, pz3]
      refine wpAnyH_ready (rs := [4, 5]) (by kernel_rfl) (by simp) ?_
      refine (AllReadyH.cons (o := ⟨some 10, .call { callee := .value (.func 116), args := #[.tmp 7, .tmp 9], argTypes := #[24, 3] }, 24, "maps.go:27", #[⟨1, .data⟩, ⟨3, .data⟩, ⟨3, .chain⟩], none⟩) rfl (fun K hK => ?_) (AllReadyH.cons (o := ⟨some 11, .buildSlice 24 1 #[(0, .const (.int .i64 (-1)))], 24, "maps.go:25", #[], none⟩) rfl (fun K hK => ?_) AllReadyH.nil))
      · go_simp
        (go_at_call 116; ((with_reducible refine (rep_b (-1) b1 L _ B1 n1 n2).mono ?_); rintro e' wN ⟨g1, rfl, hq, R1, hb⟩))
        go_wp2_with fail
        have hg1 := Nat.le_trans HS hq
        have hn1 : ∀ g, g < _ → g ≠ g1 := fun g hg he => Nat.lt_irrefl _ (Nat.lt_of_lt_of_le (he ▸ hg) hq)
        (try have B1 := B1.below hb B1.lt)
        (try have B5 := B5.below hb B5.lt)
        (try have R2 := R2.below hb)
        have HY := below5 hb (Nat.lt_of_lt_of_le (Nat.lt_succ_self _) HS) HY
        have HB0 := btr HB0 HB0.size hb
        have HS := Nat.le_trans HS hb.size
        refine hK.out _ _ ?_ (fun hNew => ?_)
        · (first | exact HY | assumption)
        clear hK K hHeld
        have hHeld := hNew
        clear hNew
        try simp only [Act.put, pz1, pz2, pz3]
        refine wpAnyH_ready (rs := [5]) (by kernel_rfl) (by simp) ?_
        refine AllReadyH.cons (o := ⟨some 11, .buildSlice 24 1 #[(0, .const (.int .i64 (-1)))], 24, "maps.go:25", #[], none⟩) rfl (fun K hK => ?_) AllReadyH.nil
        refine wp_build1m _ rfl (-1) rfl ?_
        intro wN b5 B5 hq5 hb
        (try have B1 := B1.below hb B1.lt)
        (try have R1 := R1.below hb)
        (try have R2 := R2.below hb)
        have HY := below5 hb (Nat.lt_of_lt_of_le (Nat.lt_succ_self _) HS) HY
        have HB0 := btr HB0 HB0.size hb
        have HS := Nat.le_trans HS hb.size
        refine hK.out _ _ ?_ (fun hNew => ?_)
        · (first | exact HY | assumption)
        clear hK K hHeld
        have hHeld := hNew
        clear hNew
        try simp only [Act.put, pz1, pz2, pz3]
        refine wpAnyH_ready (rs := [11]) (by kernel_rfl) (by simp) ?_
        refine AllReadyH.cons (o := ⟨some 17, .call { callee := .value (.func 116), args := #[.tmp 11, .tmp 16], argTypes := #[24, 3] }, 24, "maps.go:28", #[⟨5, .data⟩, ⟨10, .data⟩, ⟨4, .chain⟩], none⟩) rfl (fun K hK => ?_) AllReadyH.nil
        go_simp
        (go_at_call 116; ((with_reducible refine (rep_b (-1) b5 N _ B5 m1 m2).mono ?_); rintro e' wN ⟨g2, rfl, hq, R2, hb⟩))
        go_wp2_with fail
        have hg2 := Nat.le_trans HS hq
        have hn2 : ∀ g, g < _ → g ≠ g2 := fun g hg he => Nat.lt_irrefl _ (Nat.lt_of_lt_of_le (he ▸ hg) hq)
        have h12 := hn2 g1 R1.lt
        (try have B1 := B1.below hb B1.lt)
        (try have B5 := B5.below hb B5.lt)
        (try have R1 := R1.below hb)
        have HY := below5 hb (Nat.lt_of_lt_of_le (Nat.lt_succ_self _) HS) HY
        have HB0 := btr HB0 HB0.size hb
        have HS := Nat.le_trans HS hb.size
        refine hK.out _ _ ?_ (fun hNew => ?_)
        · (first | exact HY | assumption)
        clear hK K hHeld
        have hHeld := hNew
        clear hNew
        try simp only [Act.put, pz1, pz2, pz3]
        refine tk 12 ?_; try simp only [Act.put, pz1, pz2, pz3]
        refine wpAnyH_ready (rs := [13]) (by kernel_rfl) (by simp) ?_
        refine AllReadyH.cons (o := ⟨some 19, .box 138 (.tmp 18), 82, "maps.go:25", #[⟨12, .data⟩], none⟩) rfl (fun K hK => ?_) AllReadyH.nil
        refine wp_boxM _ rfl a b c d e rfl ?_
        intro wN m BM hq hb
        have hm := Nat.le_trans HS hq
        have h1 : m ≠ g1 := fun he => Nat.lt_irrefl _ (Nat.lt_of_lt_of_le (he ▸ R1.lt) hq)
        have h2 : m ≠ g2 := fun he => Nat.lt_irrefl _ (Nat.lt_of_lt_of_le (he ▸ R2.lt) hq)
        (try have B1 := B1.below hb B1.lt)
        (try have B5 := B5.below hb B5.lt)
        (try have R1 := R1.below hb)
        (try have R2 := R2.below hb)
        have HY := below5 hb (Nat.lt_of_lt_of_le (Nat.lt_succ_self _) HS) HY
        have HB0 := btr HB0 HB0.size hb
        have HS := Nat.le_trans HS hb.size
        refine hK.out _ _ ?_ (fun hNew => ?_)
        · (first | exact HY | assumption)
        clear hK K hHeld
        have hHeld := hNew
        clear hNew
        try simp only [Act.put, pz1, pz2, pz3]
        refine tk 14 ?_; try simp only [Act.put, pz1, pz2, pz3]
        refine wpAnyH_done (by kernel_rfl) ?_ _
        refine NoPanic.normal ?_
        go_wp2_with fail
        go_ret
        refine ⟨⟨m, g1, g2, rfl, ⟨⟨L, N, BM⟩, R1, R2, h12, h1, h2, InvM.start N L, by simp⟩, by omega, by omega, by omega⟩, HB0⟩
      · refine wp_build1m _ rfl (-1) rfl ?_
        intro wN b5 B5 hq5 hb
        (try have B1 := B1.below hb B1.lt)
        (try have R1 := R1.below hb)
        (try have R2 := R2.below hb)
        have HY := below5 hb (Nat.lt_of_lt_of_le (Nat.lt_succ_self _) HS) HY
        have HB0 := btr HB0 HB0.size hb
        have HS := Nat.le_trans HS hb.size
        refine hK.out _ _ ?_ (fun hNew => ?_)
        · (first | exact HY | assumption)
        clear hK K hHeld
        have hHeld := hNew
        clear hNew
        try simp only [Act.put, pz1, pz2, pz3]
        refine wpAnyH_ready (rs := [4]) (by kernel_rfl) (by simp) ?_
        refine AllReadyH.cons (o := ⟨some 10, .call { callee := .value (.func 116), args := #[.tmp 7, .tmp 9], argTypes := #[24, 3] }, 24, "maps.go:27", #[⟨1, .data⟩, ⟨3, .data⟩, ⟨3, .chain⟩], none⟩) rfl (fun K hK => ?_) AllReadyH.nil
        go_simp
        (go_at_call 116; ((with_reducible refine (rep_b (-1) b1 L _ B1 n1 n2).mono ?_); rintro e' wN ⟨g1, rfl, hq, R1, hb⟩))
        go_wp2_with fail
        have hg1 := Nat.le_trans HS hq
        have hn1 : ∀ g, g < _ → g ≠ g1 := fun g hg he => Nat.lt_irrefl _ (Nat.lt_of_lt_of_le (he ▸ hg) hq)
        (try have B1 := B1.below hb B1.lt)
        (try have B5 := B5.below hb B5.lt)
        (try have R2 := R2.below hb)
        have HY := below5 hb (Nat.lt_of_lt_of_le (Nat.lt_succ_self _) HS) HY
        have HB0 := btr HB0 HB0.size hb
        have HS := Nat.le_trans HS hb.size
        refine hK.out _ _ ?_ (fun hNew => ?_)
        · (first | exact HY | assumption)
        clear hK K hHeld
        have hHeld := hNew
        clear hNew
        try simp only [Act.put, pz1, pz2, pz3]
        refine wpAnyH_ready (rs := [11]) (by kernel_rfl) (by simp) ?_
        refine AllReadyH.cons (o := ⟨some 17, .call { callee := .value (.func 116), args := #[.tmp 11, .tmp 16], argTypes := #[24, 3] }, 24, "maps.go:28", #[⟨5, .data⟩, ⟨10, .data⟩, ⟨4, .chain⟩], none⟩) rfl (fun K hK => ?_) AllReadyH.nil
        go_simp
        (go_at_call 116; ((with_reducible refine (rep_b (-1) b5 N _ B5 m1 m2).mono ?_); rintro e' wN ⟨g2, rfl, hq, R2, hb⟩))
        go_wp2_with fail
        have hg2 := Nat.le_trans HS hq
        have hn2 : ∀ g, g < _ → g ≠ g2 := fun g hg he => Nat.lt_irrefl _ (Nat.lt_of_lt_of_le (he ▸ hg) hq)
        have h12 := hn2 g1 R1.lt
        (try have B1 := B1.below hb B1.lt)
        (try have B5 := B5.below hb B5.lt)
        (try have R1 := R1.below hb)
        have HY := below5 hb (Nat.lt_of_lt_of_le (Nat.lt_succ_self _) HS) HY
        have HB0 := btr HB0 HB0.size hb
        have HS := Nat.le_trans HS hb.size
        refine hK.out _ _ ?_ (fun hNew => ?_)
        · (first | exact HY | assumption)
        clear hK K hHeld
        have hHeld := hNew
        clear hNew
        try simp only [Act.put, pz1, pz2, pz3]
        refine tk 12 ?_; try simp only [Act.put, pz1, pz2, pz3]
        refine wpAnyH_ready (rs := [13]) (by kernel_rfl) (by simp) ?_
        refine AllReadyH.cons (o := ⟨some 19, .box 138 (.tmp 18), 82, "maps.go:25", #[⟨12, .data⟩], none⟩) rfl (fun K hK => ?_) AllReadyH.nil
        refine wp_boxM _ rfl a b c d e rfl ?_
        intro wN m BM hq hb
        have hm := Nat.le_trans HS hq
        have h1 : m ≠ g1 := fun he => Nat.lt_irrefl _ (Nat.lt_of_lt_of_le (he ▸ R1.lt) hq)
        have h2 : m ≠ g2 := fun he => Nat.lt_irrefl _ (Nat.lt_of_lt_of_le (he ▸ R2.lt) hq)
        (try have B1 := B1.below hb B1.lt)
        (try have B5 := B5.below hb B5.lt)
        (try have R1 := R1.below hb)
        (try have R2 := R2.below hb)
        have HY := below5 hb (Nat.lt_of_lt_of_le (Nat.lt_succ_self _) HS) HY
        have HB0 := btr HB0 HB0.size hb
        have HS := Nat.le_trans HS hb.size
        refine hK.out _ _ ?_ (fun hNew => ?_)
        · (first | exact HY | assumption)
        clear hK K hHeld
        have hHeld := hNew
        clear hNew
        try simp only [Act.put, pz1, pz2, pz3]
        refine tk 14 ?_; try simp only [Act.put, pz1, pz2, pz3]
        refine wpAnyH_done (by kernel_rfl) ?_ _
        refine NoPanic.normal ?_
        go_wp2_with fail
        go_ret
        refine ⟨⟨m, g1, g2, rfl, ⟨⟨L, N, BM⟩, R1, R2, h12, h1, h2, InvM.start N L, by simp⟩, by omega, by omega, by omega⟩, HB0⟩
    · refine wp_build1m _ rfl (-1) rfl ?_
      intro wN b5 B5 hq5 hb
      (try have B1 := B1.below hb B1.lt)
      (try have R1 := R1.below hb)
      (try have R2 := R2.below hb)
      have HY := below5 hb (Nat.lt_of_lt_of_le (Nat.lt_succ_self _) HS) HY
      have HB0 := btr HB0 HB0.size hb
      have HS := Nat.le_trans HS hb.size
      refine hK.out _ _ ?_ (fun hNew => ?_)
      · (first | exact HY | assumption)
      clear hK K hHeld
      have hHeld := hNew
      clear hNew
      try simp only [Act.put, pz1, pz2, pz3]
      refine wpAnyH_ready (rs := [3]) (by kernel_rfl) (by simp) ?_
      refine AllReadyH.cons (o := ⟨some 9, .call { callee := .value (.func 89), args := #[.tmp 8], argTypes := #[23] }, 3, "maps.go:27", #[⟨2, .data⟩], none⟩) rfl (fun K hK => ?_) AllReadyH.nil
      go_simp
      (go_at_call 89; ((with_reducible refine (logi_b _ _ _ _ _ L _ HM HLOG).mono ?_); rintro e' wN ⟨rfl, hb⟩))
      go_wp2_with fail
      (try have B1 := B1.below hb B1.lt)
      (try have B5 := B5.below hb B5.lt)
      (try have R1 := R1.below hb)
      (try have R2 := R2.below hb)
      have HY := below5 hb (Nat.lt_of_lt_of_le (Nat.lt_succ_self _) HS) HY
      have HB0 := btr HB0 HB0.size hb
      have HS := Nat.le_trans HS hb.size
      refine hK.out _ _ ?_ (fun hNew => ?_)
      · (first | exact HY | assumption)
      clear hK K hHeld
      have hHeld := hNew
      clear hNew
      try simp only [Act.put, pz1, pz2, pz3]
      refine wpAnyH_ready (rs := [4]) (by kernel_rfl) (by simp) ?_
      refine AllReadyH.cons (o := ⟨some 10, .call { callee := .value (.func 116), args := #[.tmp 7, .tmp 9], argTypes := #[24, 3] }, 24, "maps.go:27", #[⟨1, .data⟩, ⟨3, .data⟩, ⟨3, .chain⟩], none⟩) rfl (fun K hK => ?_) AllReadyH.nil
      go_simp
      (go_at_call 116; ((with_reducible refine (rep_b (-1) b1 L _ B1 n1 n2).mono ?_); rintro e' wN ⟨g1, rfl, hq, R1, hb⟩))
      go_wp2_with fail
      have hg1 := Nat.le_trans HS hq
      have hn1 : ∀ g, g < _ → g ≠ g1 := fun g hg he => Nat.lt_irrefl _ (Nat.lt_of_lt_of_le (he ▸ hg) hq)
      (try have B1 := B1.below hb B1.lt)
      (try have B5 := B5.below hb B5.lt)
      (try have R2 := R2.below hb)
      have HY := below5 hb (Nat.lt_of_lt_of_le (Nat.lt_succ_self _) HS) HY
      have HB0 := btr HB0 HB0.size hb
      have HS := Nat.le_trans HS hb.size
      refine hK.out _ _ ?_ (fun hNew => ?_)
      · (first | exact HY | assumption)
      clear hK K hHeld
      have hHeld := hNew
      clear hNew
      try simp only [Act.put, pz1, pz2, pz3]
      refine wpAnyH_ready (rs := [11]) (by kernel_rfl) (by simp) ?_
      refine AllReadyH.cons (o := ⟨some 17, .call { callee := .value (.func 116), args := #[.tmp 11, .tmp 16], argTypes := #[24, 3] }, 24, "maps.go:28", #[⟨5, .data⟩, ⟨10, .data⟩, ⟨4, .chain⟩], none⟩) rfl (fun K hK => ?_) AllReadyH.nil
      go_simp
      (go_at_call 116; ((with_reducible refine (rep_b (-1) b5 N _ B5 m1 m2).mono ?_); rintro e' wN ⟨g2, rfl, hq, R2, hb⟩))
      go_wp2_with fail
      have hg2 := Nat.le_trans HS hq
      have hn2 : ∀ g, g < _ → g ≠ g2 := fun g hg he => Nat.lt_irrefl _ (Nat.lt_of_lt_of_le (he ▸ hg) hq)
      have h12 := hn2 g1 R1.lt
      (try have B1 := B1.below hb B1.lt)
      (try have B5 := B5.below hb B5.lt)
      (try have R1 := R1.below hb)
      have HY := below5 hb (Nat.lt_of_lt_of_le (Nat.lt_succ_self _) HS) HY
      have HB0 := btr HB0 HB0.size hb
      have HS := Nat.le_trans HS hb.size
      refine hK.out _ _ ?_ (fun hNew => ?_)
      · (first | exact HY | assumption)
      clear hK K hHeld
      have hHeld := hNew
      clear hNew
      try simp only [Act.put, pz1, pz2, pz3]
      refine tk 12 ?_; try simp only [Act.put, pz1, pz2, pz3]
      refine wpAnyH_ready (rs := [13]) (by kernel_rfl) (by simp) ?_
      refine AllReadyH.cons (o := ⟨some 19, .box 138 (.tmp 18), 82, "maps.go:25", #[⟨12, .data⟩], none⟩) rfl (fun K hK => ?_) AllReadyH.nil
      refine wp_boxM _ rfl a b c d e rfl ?_
      intro wN m BM hq hb
      have hm := Nat.le_trans HS hq
      have h1 : m ≠ g1 := fun he => Nat.lt_irrefl _ (Nat.lt_of_lt_of_le (he ▸ R1.lt) hq)
      have h2 : m ≠ g2 := fun he => Nat.lt_irrefl _ (Nat.lt_of_lt_of_le (he ▸ R2.lt) hq)
      (try have B1 := B1.below hb B1.lt)
      (try have B5 := B5.below hb B5.lt)
      (try have R1 := R1.below hb)
      (try have R2 := R2.below hb)
      have HY := below5 hb (Nat.lt_of_lt_of_le (Nat.lt_succ_self _) HS) HY
      have HB0 := btr HB0 HB0.size hb
      have HS := Nat.le_trans HS hb.size
      refine hK.out _ _ ?_ (fun hNew => ?_)
      · (first | exact HY | assumption)
      clear hK K hHeld
      have hHeld := hNew
      clear hNew
      try simp only [Act.put, pz1, pz2, pz3]
      refine tk 14 ?_; try simp only [Act.put, pz1, pz2, pz3]
      refine wpAnyH_done (by kernel_rfl) ?_ _
      refine NoPanic.normal ?_
      go_wp2_with fail
      go_ret
      refine ⟨⟨m, g1, g2, rfl, ⟨⟨L, N, BM⟩, R1, R2, h12, h1, h2, InvM.start N L, by simp⟩, by omega, by omega, by omega⟩, HB0⟩
  · go_simp
    (go_at_call 89; ((with_reducible refine (logi_b _ _ _ _ _ L _ HM HLOG).mono ?_); rintro e' wN ⟨rfl, hb⟩))
    go_wp2_with fail
    (try have B1 := B1.below hb B1.lt)
    (try have B5 := B5.below hb B5.lt)
    (try have R1 := R1.below hb)
    (try have R2 := R2.below hb)
    have HY := below5 hb (Nat.lt_of_lt_of_le (Nat.lt_succ_self _) HS) HY
    have HB0 := btr HB0 HB0.size hb
    have HS := Nat.le_trans HS hb.size
    refine hK.out _ _ ?_ (fun hNew => ?_)
    · (first | exact HY | assumption)
    clear hK K hHeld
    have hHeld := hNew
    clear hNew
    try simp only [Act.put, pz1, pz2, pz3]
    refine wpAnyH_ready (rs := [1, 5]) (by kernel_rfl) (by simp) ?_
    refine (AllReadyH.cons (o := ⟨some 7, .buildSlice 24 1 #[(0, .const (.int .i64 (-1)))], 24, "maps.go:25", #[], none⟩) rfl (fun K hK => ?_) (AllReadyH.cons (o := ⟨some 11, .buildSlice 24 1 #[(0, .const (.int .i64 (-1)))], 24, "maps.go:25", #[], none⟩) rfl (fun K hK => ?_) AllReadyH.nil))
    · refine wp_build1m _ rfl (-1) rfl ?_
      intro wN b1 B1 hq1 hb
      (try have B5 := B5.below hb B5.lt)
      (try have R1 := R1.below hb)
      (try have R2 := R2.below hb)
      have HY := below5 hb (Nat.lt_of_lt_of_le (Nat.lt_succ_self _) HS) HY
      have HB0 := btr HB0 HB0.size hb
      have HS := Nat.le_trans HS hb.size
      refine hK.out _ _ ?_ (fun hNew => ?_)
      · (first | exact HY | assumption)
      clear hK K hHeld
      have hHeld := hNew
      clear hNew
      try simp only [Act.put, pz1, pz2, pz3]
      refine wpAnyH_ready (rs := [4, 5]) (by kernel_rfl) (by simp) ?_
      refine (AllReadyH.cons (o := ⟨some 10, .call { callee := .value (.func 116), args := #[.tmp 7, .tmp 9], argTypes := #[24, 3] }, 24, "maps.go:27", #[⟨1, .data⟩, ⟨3, .data⟩, ⟨3, .chain⟩], none⟩) rfl (fun K hK => ?_) (AllReadyH.cons (o := ⟨some 11, .buildSlice 24 1 #[(0, .const (.int .i64 (-1)))], 24, "maps.go:25", #[], none⟩) rfl (fun K hK => ?_) AllReadyH.nil))
      · go_simp
        (go_at_call 116; ((with_reducible refine (rep_b (-1) b1 L _ B1 n1 n2).mono ?_); rintro e' wN ⟨g1, rfl, hq, R1, hb⟩))
        go_wp2_with fail
        have hg1 := Nat.le_trans HS hq
        have hn1 : ∀ g, g < _ → g ≠ g1 := fun g hg he => Nat.lt_irrefl _ (Nat.lt_of_lt_of_le (he ▸ hg) hq)
        (try have B1 := B1.below hb B1.lt)
        (try have B5 := B5.below hb B5.lt)
        (try have R2 := R2.below hb)
        have HY := below5 hb (Nat.lt_of_lt_of_le (Nat.lt_succ_self _) HS) HY
        have HB0 := btr HB0 HB0.size hb
        have HS := Nat.le_trans HS hb.size
        refine hK.out _ _ ?_ (fun hNew => ?_)
        · (first | exact HY | assumption)
        clear hK K hHeld
        have hHeld := hNew
        clear hNew
        try simp only [Act.put, pz1, pz2, pz3]
        refine wpAnyH_ready (rs := [5]) (by kernel_rfl) (by simp) ?_
        refine AllReadyH.cons (o := ⟨some 11, .buildSlice 24 1 #[(0, .const (.int .i64 (-1)))], 24, "maps.go:25", #[], none⟩) rfl (fun K hK => ?_) AllReadyH.nil
        refine wp_build1m _ rfl (-1) rfl ?_
        intro wN b5 B5 hq5 hb
        (try have B1 := B1.below hb B1.lt)
        (try have R1 := R1.below hb)
        (try have R2 := R2.below hb)
        have HY := below5 hb (Nat.lt_of_lt_of_le (Nat.lt_succ_self _) HS) HY
        have HB0 := btr HB0 HB0.size hb
        have HS := Nat.le_trans HS hb.size
        refine hK.out _ _ ?_ (fun hNew => ?_)
        · (first | exact HY | assumption)
        clear hK K hHeld
        have hHeld := hNew
        clear hNew
        try simp only [Act.put, pz1, pz2, pz3]
        refine wpAnyH_ready (rs := [11]) (by kernel_rfl) (by simp) ?_
        refine AllReadyH.cons (o := ⟨some 17, .call { callee := .value (.func 116), args := #[.tmp 11, .tmp 16], argTypes := #[24, 3] }, 24, "maps.go:28", #[⟨5, .data⟩, ⟨10, .data⟩, ⟨4, .chain⟩], none⟩) rfl (fun K hK => ?_) AllReadyH.nil
        go_simp
        (go_at_call 116; ((with_reducible refine (rep_b (-1) b5 N _ B5 m1 m2).mono ?_); rintro e' wN ⟨g2, rfl, hq, R2, hb⟩))
        go_wp2_with fail
        have hg2 := Nat.le_trans HS hq
        have hn2 : ∀ g, g < _ → g ≠ g2 := fun g hg he => Nat.lt_irrefl _ (Nat.lt_of_lt_of_le (he ▸ hg) hq)
        have h12 := hn2 g1 R1.lt
        (try have B1 := B1.below hb B1.lt)
        (try have B5 := B5.below hb B5.lt)
        (try have R1 := R1.below hb)
        have HY := below5 hb (Nat.lt_of_lt_of_le (Nat.lt_succ_self _) HS) HY
        have HB0 := btr HB0 HB0.size hb
        have HS := Nat.le_trans HS hb.size
        refine hK.out _ _ ?_ (fun hNew => ?_)
        · (first | exact HY | assumption)
        clear hK K hHeld
        have hHeld := hNew
        clear hNew
        try simp only [Act.put, pz1, pz2, pz3]
        refine tk 12 ?_; try simp only [Act.put, pz1, pz2, pz3]
        refine wpAnyH_ready (rs := [13]) (by kernel_rfl) (by simp) ?_
        refine AllReadyH.cons (o := ⟨some 19, .box 138 (.tmp 18), 82, "maps.go:25", #[⟨12, .data⟩], none⟩) rfl (fun K hK => ?_) AllReadyH.nil
        refine wp_boxM _ rfl a b c d e rfl ?_
        intro wN m BM hq hb
        have hm := Nat.le_trans HS hq
        have h1 : m ≠ g1 := fun he => Nat.lt_irrefl _ (Nat.lt_of_lt_of_le (he ▸ R1.lt) hq)
        have h2 : m ≠ g2 := fun he => Nat.lt_irrefl _ (Nat.lt_of_lt_of_le (he ▸ R2.lt) hq)
        (try have B1 := B1.below hb B1.lt)
        (try have B5 := B5.below hb B5.lt)
        (try have R1 := R1.below hb)
        (try have R2 := R2.below hb)
        have HY := below5 hb (Nat.lt_of_lt_of_le (Nat.lt_succ_self _) HS) HY
        have HB0 := btr HB0 HB0.size hb
        have HS := Nat.le_trans HS hb.size
        refine hK.out _ _ ?_ (fun hNew => ?_)
        · (first | exact HY | assumption)
        clear hK K hHeld
        have hHeld := hNew
        clear hNew
        try simp only [Act.put, pz1, pz2, pz3]
        refine tk 14 ?_; try simp only [Act.put, pz1, pz2, pz3]
        refine wpAnyH_done (by kernel_rfl) ?_ _
        refine NoPanic.normal ?_
        go_wp2_with fail
        go_ret
        refine ⟨⟨m, g1, g2, rfl, ⟨⟨L, N, BM⟩, R1, R2, h12, h1, h2, InvM.start N L, by simp⟩, by omega, by omega, by omega⟩, HB0⟩
      · refine wp_build1m _ rfl (-1) rfl ?_
        intro wN b5 B5 hq5 hb
        (try have B1 := B1.below hb B1.lt)
        (try have R1 := R1.below hb)
        (try have R2 := R2.below hb)
        have HY := below5 hb (Nat.lt_of_lt_of_le (Nat.lt_succ_self _) HS) HY
        have HB0 := btr HB0 HB0.size hb
        have HS := Nat.le_trans HS hb.size
        refine hK.out _ _ ?_ (fun hNew => ?_)
        · (first | exact HY | assumption)
        clear hK K hHeld
        have hHeld := hNew
        clear hNew
        try simp only [Act.put, pz1, pz2, pz3]
        refine wpAnyH_ready (rs := [4]) (by kernel_rfl) (by simp) ?_
        refine AllReadyH.cons (o := ⟨some 10, .call { callee := .value (.func 116), args := #[.tmp 7, .tmp 9], argTypes := #[24, 3] }, 24, "maps.go:27", #[⟨1, .data⟩, ⟨3, .data⟩, ⟨3, .chain⟩], none⟩) rfl (fun K hK => ?_) AllReadyH.nil
        go_simp
        (go_at_call 116; ((with_reducible refine (rep_b (-1) b1 L _ B1 n1 n2).mono ?_); rintro e' wN ⟨g1, rfl, hq, R1, hb⟩))
        go_wp2_with fail
        have hg1 := Nat.le_trans HS hq
        have hn1 : ∀ g, g < _ → g ≠ g1 := fun g hg he => Nat.lt_irrefl _ (Nat.lt_of_lt_of_le (he ▸ hg) hq)
        (try have B1 := B1.below hb B1.lt)
        (try have B5 := B5.below hb B5.lt)
        (try have R2 := R2.below hb)
        have HY := below5 hb (Nat.lt_of_lt_of_le (Nat.lt_succ_self _) HS) HY
        have HB0 := btr HB0 HB0.size hb
        have HS := Nat.le_trans HS hb.size
        refine hK.out _ _ ?_ (fun hNew => ?_)
        · (first | exact HY | assumption)
        clear hK K hHeld
        have hHeld := hNew
        clear hNew
        try simp only [Act.put, pz1, pz2, pz3]
        refine wpAnyH_ready (rs := [11]) (by kernel_rfl) (by simp) ?_
        refine AllReadyH.cons (o := ⟨some 17, .call { callee := .value (.func 116), args := #[.tmp 11, .tmp 16], argTypes := #[24, 3] }, 24, "maps.go:28", #[⟨5, .data⟩, ⟨10, .data⟩, ⟨4, .chain⟩], none⟩) rfl (fun K hK => ?_) AllReadyH.nil
        go_simp
        (go_at_call 116; ((with_reducible refine (rep_b (-1) b5 N _ B5 m1 m2).mono ?_); rintro e' wN ⟨g2, rfl, hq, R2, hb⟩))
        go_wp2_with fail
        have hg2 := Nat.le_trans HS hq
        have hn2 : ∀ g, g < _ → g ≠ g2 := fun g hg he => Nat.lt_irrefl _ (Nat.lt_of_lt_of_le (he ▸ hg) hq)
        have h12 := hn2 g1 R1.lt
        (try have B1 := B1.below hb B1.lt)
        (try have B5 := B5.below hb B5.lt)
        (try have R1 := R1.below hb)
        have HY := below5 hb (Nat.lt_of_lt_of_le (Nat.lt_succ_self _) HS) HY
        have HB0 := btr HB0 HB0.size hb
        have HS := Nat.le_trans HS hb.size
        refine hK.out _ _ ?_ (fun hNew => ?_)
        · (first | exact HY | assumption)
        clear hK K hHeld
        have hHeld := hNew
        clear hNew
        try simp only [Act.put, pz1, pz2, pz3]
        refine tk 12 ?_; try simp only [Act.put, pz1, pz2, pz3]
        refine wpAnyH_ready (rs := [13]) (by kernel_rfl) (by simp) ?_
        refine AllReadyH.cons (o := ⟨some 19, .box 138 (.tmp 18), 82, "maps.go:25", #[⟨12, .data⟩], none⟩) rfl (fun K hK => ?_) AllReadyH.nil
        refine wp_boxM _ rfl a b c d e rfl ?_
        intro wN m BM hq hb
        have hm := Nat.le_trans HS hq
        have h1 : m ≠ g1 := fun he => Nat.lt_irrefl _ (Nat.lt_of_lt_of_le (he ▸ R1.lt) hq)
        have h2 : m ≠ g2 := fun he => Nat.lt_irrefl _ (Nat.lt_of_lt_of_le (he ▸ R2.lt) hq)
        (try have B1 := B1.below hb B1.lt)
        (try have B5 := B5.below hb B5.lt)
        (try have R1 := R1.below hb)
        (try have R2 := R2.below hb)
        have HY := below5 hb (Nat.lt_of_lt_of_le (Nat.lt_succ_self _) HS) HY
        have HB0 := btr HB0 HB0.size hb
        have HS := Nat.le_trans HS hb.size
        refine hK.out _ _ ?_ (fun hNew => ?_)
        · (first | exact HY | assumption)
        clear hK K hHeld
        have hHeld := hNew
        clear hNew
        try simp only [Act.put, pz1, pz2, pz3]
        refine tk 14 ?_; try simp only [Act.put, pz1, pz2, pz3]
        refine wpAnyH_done (by kernel_rfl) ?_ _
        refine NoPanic.normal ?_
        go_wp2_with fail
        go_ret
        refine ⟨⟨m, g1, g2, rfl, ⟨⟨L, N, BM⟩, R1, R2, h12, h1, h2, InvM.start N L, by simp⟩, by omega, by omega, by omega⟩, HB0⟩
    · refine wp_build1m _ rfl (-1) rfl ?_
      intro wN b5 B5 hq5 hb
      (try have B1 := B1.below hb B1.lt)
      (try have R1 := R1.below hb)
      (try have R2 := R2.below hb)
      have HY := below5 hb (Nat.lt_of_lt_of_le (Nat.lt_succ_self _) HS) HY
      have HB0 := btr HB0 HB0.size hb
      have HS := Nat.le_trans HS hb.size
      refine hK.out _ _ ?_ (fun hNew => ?_)
      · (first | exact HY | assumption)
      clear hK K hHeld
      have hHeld := hNew
      clear hNew
      try simp only [Act.put, pz1, pz2, pz3]
      refine wpAnyH_ready (rs := [1]) (by kernel_rfl) (by simp) ?_
      refine AllReadyH.cons (o := ⟨some 7, .buildSlice 24 1 #[(0, .const (.int .i64 (-1)))], 24, "maps.go:25", #[], none⟩) rfl (fun K hK => ?_) AllReadyH.nil
      refine wp_build1m _ rfl (-1) rfl ?_
      intro wN b1 B1 hq1 hb
      (try have B5 := B5.below hb B5.lt)
      (try have R1 := R1.below hb)
      (try have R2 := R2.below hb)
      have HY := below5 hb (Nat.lt_of_lt_of_le (Nat.lt_succ_self _) HS) HY
      have HB0 := btr HB0 HB0.size hb
      have HS := Nat.le_trans HS hb.size
      refine hK.out _ _ ?_ (fun hNew => ?_)
      · (first | exact HY | assumption)
      clear hK K hHeld
      have hHeld := hNew
      clear hNew
      try simp only [Act.put, pz1, pz2, pz3]
      refine wpAnyH_ready (rs := [4]) (by kernel_rfl) (by simp) ?_
      refine AllReadyH.cons (o := ⟨some 10, .call { callee := .value (.func 116), args := #[.tmp 7, .tmp 9], argTypes := #[24, 3] }, 24, "maps.go:27", #[⟨1, .data⟩, ⟨3, .data⟩, ⟨3, .chain⟩], none⟩) rfl (fun K hK => ?_) AllReadyH.nil
      go_simp
      (go_at_call 116; ((with_reducible refine (rep_b (-1) b1 L _ B1 n1 n2).mono ?_); rintro e' wN ⟨g1, rfl, hq, R1, hb⟩))
      go_wp2_with fail
      have hg1 := Nat.le_trans HS hq
      have hn1 : ∀ g, g < _ → g ≠ g1 := fun g hg he => Nat.lt_irrefl _ (Nat.lt_of_lt_of_le (he ▸ hg) hq)
      (try have B1 := B1.below hb B1.lt)
      (try have B5 := B5.below hb B5.lt)
      (try have R2 := R2.below hb)
      have HY := below5 hb (Nat.lt_of_lt_of_le (Nat.lt_succ_self _) HS) HY
      have HB0 := btr HB0 HB0.size hb
      have HS := Nat.le_trans HS hb.size
      refine hK.out _ _ ?_ (fun hNew => ?_)
      · (first | exact HY | assumption)
      clear hK K hHeld
      have hHeld := hNew
      clear hNew
      try simp only [Act.put, pz1, pz2, pz3]
      refine wpAnyH_ready (rs := [11]) (by kernel_rfl) (by simp) ?_
      refine AllReadyH.cons (o := ⟨some 17, .call { callee := .value (.func 116), args := #[.tmp 11, .tmp 16], argTypes := #[24, 3] }, 24, "maps.go:28", #[⟨5, .data⟩, ⟨10, .data⟩, ⟨4, .chain⟩], none⟩) rfl (fun K hK => ?_) AllReadyH.nil
      go_simp
      (go_at_call 116; ((with_reducible refine (rep_b (-1) b5 N _ B5 m1 m2).mono ?_); rintro e' wN ⟨g2, rfl, hq, R2, hb⟩))
      go_wp2_with fail
      have hg2 := Nat.le_trans HS hq
      have hn2 : ∀ g, g < _ → g ≠ g2 := fun g hg he => Nat.lt_irrefl _ (Nat.lt_of_lt_of_le (he ▸ hg) hq)
      have h12 := hn2 g1 R1.lt
      (try have B1 := B1.below hb B1.lt)
      (try have B5 := B5.below hb B5.lt)
      (try have R1 := R1.below hb)
      have HY := below5 hb (Nat.lt_of_lt_of_le (Nat.lt_succ_self _) HS) HY
      have HB0 := btr HB0 HB0.size hb
      have HS := Nat.le_trans HS hb.size
      refine hK.out _ _ ?_ (fun hNew => ?_)
      · (first | exact HY | assumption)
      clear hK K hHeld
      have hHeld := hNew
      clear hNew
      try simp only [Act.put, pz1, pz2, pz3]
      refine tk 12 ?_; try simp only [Act.put, pz1, pz2, pz3]
      refine wpAnyH_ready (rs := [13]) (by kernel_rfl) (by simp) ?_
      refine AllReadyH.cons (o := ⟨some 19, .box 138 (.tmp 18), 82, "maps.go:25", #[⟨12, .data⟩], none⟩) rfl (fun K hK => ?_) AllReadyH.nil
      refine wp_boxM _ rfl a b c d e rfl ?_
      intro wN m BM hq hb
      have hm := Nat.le_trans HS hq
      have h1 : m ≠ g1 := fun he => Nat.lt_irrefl _ (Nat.lt_of_lt_of_le (he ▸ R1.lt) hq)
      have h2 : m ≠ g2 := fun he => Nat.lt_irrefl _ (Nat.lt_of_lt_of_le (he ▸ R2.lt) hq)
      (try have B1 := B1.below hb B1.lt)
      (try have B5 := B5.below hb B5.lt)
      (try have R1 := R1.below hb)
      (try have R2 := R2.below hb)
      have HY := below5 hb (Nat.lt_of_lt_of_le (Nat.lt_succ_self _) HS) HY
      have HB0 := btr HB0 HB0.size hb
      have HS := Nat.le_trans HS hb.size
      refine hK.out _ _ ?_ (fun hNew => ?_)
      · (first | exact HY | assumption)
      clear hK K hHeld
      have hHeld := hNew
      clear hNew
      try simp only [Act.put, pz1, pz2, pz3]
      refine tk 14 ?_; try simp only [Act.put, pz1, pz2, pz3]
      refine wpAnyH_done (by kernel_rfl) ?_ _
      refine NoPanic.normal ?_
      go_wp2_with fail
      go_ret
      refine ⟨⟨m, g1, g2, rfl, ⟨⟨L, N, BM⟩, R1, R2, h12, h1, h2, InvM.start N L, by simp⟩, by omega, by omega, by omega⟩, HB0⟩
  · refine wp_build1m _ rfl (-1) rfl ?_
    intro wN b5 B5 hq5 hb
    (try have B1 := B1.below hb B1.lt)
    (try have R1 := R1.below hb)
    (try have R2 := R2.below hb)
    have HY := below5 hb (Nat.lt_of_lt_of_le (Nat.lt_succ_self _) HS) HY
    have HB0 := btr HB0 HB0.size hb
    have HS := Nat.le_trans HS hb.size
    refine hK.out _ _ ?_ (fun hNew => ?_)
    · (first | exact HY | assumption)
    clear hK K hHeld
    have hHeld := hNew
    clear hNew
    try simp only [Act.put, pz1, pz2, pz3]
    refine wpAnyH_ready (rs := [1, 3]) (by kernel_rfl) (by simp) ?_
    refine (AllReadyH.cons (o := ⟨some 7, .buildSlice 24 1 #[(0, .const (.int .i64 (-1)))], 24, "maps.go:25", #[], none⟩) rfl (fun K hK => ?_) (AllReadyH.cons (o := ⟨some 9, .call { callee := .value (.func 89), args := #[.tmp 8], argTypes := #[23] }, 3, "maps.go:27", #[⟨2, .data⟩], none⟩) rfl (fun K hK => ?_) AllReadyH.nil))
    · refine wp_build1m _ rfl (-1) rfl ?_
      intro wN b1 B1 hq1 hb
      (try have B5 := B5.below hb B5.lt)
      (try have R1 := R1.below hb)
      (try have R2 := R2.below hb)
      have HY := below5 hb (Nat.lt_of_lt_of_le (Nat.lt_succ_self _) HS) HY
      have HB0 := btr HB0 HB0.size hb
      have HS := Nat.le_trans HS hb.size
      refine hK.out _ _ ?_ (fun hNew => ?_)
      · (first | exact HY | assumption)
      clear hK K hHeld
      have hHeld := hNew
      clear hNew
      try simp only [Act.put, pz1, pz2, pz3]
      refine wpAnyH_ready (rs := [3]) (by kernel_rfl) (by simp) ?_
      refine AllReadyH.cons (o := ⟨some 9, .call { callee := .value (.func 89), args := #[.tmp 8], argTypes := #[23] }, 3, "maps.go:27", #[⟨2, .data⟩], none⟩) rfl (fun K hK => ?_) AllReadyH.nil
      go_simp
      (go_at_call 89; ((with_reducible refine (logi_b _ _ _ _ _ L _ HM HLOG).mono ?_); rintro e' wN ⟨rfl, hb⟩))
      go_wp2_with fail
      (try have B1 := B1.below hb B1.lt)
      (try have B5 := B5.below hb B5.lt)
      (try have R1 := R1.below hb)
      (try have R2 := R2.below hb)
      have HY := below5 hb (Nat.lt_of_lt_of_le (Nat.lt_succ_self _) HS) HY
      have HB0 := btr HB0 HB0.size hb
      have HS := Nat.le_trans HS hb.size
      refine hK.out _ _ ?_ (fun hNew => ?_)
      · (first | exact HY | assumption)
      clear hK K hHeld
      have hHeld := hNew
      clear hNew
      try simp only [Act.put, pz1, pz2, pz3]
      refine wpAnyH_ready (rs := [4]) (by kernel_rfl) (by simp) ?_
      refine AllReadyH.cons (o := ⟨some 10, .call { callee := .value (.func 116), args := #[.tmp 7, .tmp 9], argTypes := #[24, 3] }, 24, "maps.go:27", #[⟨1, .data⟩, ⟨3, .data⟩, ⟨3, .chain⟩], none⟩) rfl (fun K hK => ?_) AllReadyH.nil
      go_simp
      (go_at_call 116; ((with_reducible refine (rep_b (-1) b1 L _ B1 n1 n2).mono ?_); rintro e' wN ⟨g1, rfl, hq, R1, hb⟩))
      go_wp2_with fail
      have hg1 := Nat.le_trans HS hq
      have hn1 : ∀ g, g < _ → g ≠ g1 := fun g hg he => Nat.lt_irrefl _ (Nat.lt_of_lt_of_le (he ▸ hg) hq)
      (try have B1 := B1.below hb B1.lt)
      (try have B5 := B5.below hb B5.lt)
      (try have R2 := R2.below hb)
      have HY := below5 hb (Nat.lt_of_lt_of_le (Nat.lt_succ_self _) HS) HY
      have HB0 := btr HB0 HB0.size hb
      have HS := Nat.le_trans HS hb.size
      refine hK.out _ _ ?_ (fun hNew => ?_)
      · (first | exact HY | assumption)
      clear hK K hHeld
      have hHeld := hNew
      clear hNew
      try simp only [Act.put, pz1, pz2, pz3]
      refine wpAnyH_ready (rs := [11]) (by kernel_rfl) (by simp) ?_
      refine AllReadyH.cons (o := ⟨some 17, .call { callee := .value (.func 116), args := #[.tmp 11, .tmp 16], argTypes := #[24, 3] }, 24, "maps.go:28", #[⟨5, .data⟩, ⟨10, .data⟩, ⟨4, .chain⟩], none⟩) rfl (fun K hK => ?_) AllReadyH.nil
      go_simp
      (go_at_call 116; ((with_reducible refine (rep_b (-1) b5 N _ B5 m1 m2).mono ?_); rintro e' wN ⟨g2, rfl, hq, R2, hb⟩))
      go_wp2_with fail
      have hg2 := Nat.le_trans HS hq
      have hn2 : ∀ g, g < _ → g ≠ g2 := fun g hg he => Nat.lt_irrefl _ (Nat.lt_of_lt_of_le (he ▸ hg) hq)
      have h12 := hn2 g1 R1.lt
      (try have B1 := B1.below hb B1.lt)
      (try have B5 := B5.below hb B5.lt)
      (try have R1 := R1.below hb)
      have HY := below5 hb (Nat.lt_of_lt_of_le (Nat.lt_succ_self _) HS) HY
      have HB0 := btr HB0 HB0.size hb
      have HS := Nat.le_trans HS hb.size
      refine hK.out _ _ ?_ (fun hNew => ?_)
      · (first | exact HY | assumption)
      clear hK K hHeld
      have hHeld := hNew
      clear hNew
      try simp only [Act.put, pz1, pz2, pz3]
      refine tk 12 ?_; try simp only [Act.put, pz1, pz2, pz3]
      refine wpAnyH_ready (rs := [13]) (by kernel_rfl) (by simp) ?_
      refine AllReadyH.cons (o := ⟨some 19, .box 138 (.tmp 18), 82, "maps.go:25", #[⟨12, .data⟩], none⟩) rfl (fun K hK => ?_) AllReadyH.nil
      refine wp_boxM _ rfl a b c d e rfl ?_
      intro wN m BM hq hb
      have hm := Nat.le_trans HS hq
      have h1 : m ≠ g1 := fun he => Nat.lt_irrefl _ (Nat.lt_of_lt_of_le (he ▸ R1.lt) hq)
      have h2 : m ≠ g2 := fun he => Nat.lt_irrefl _ (Nat.lt_of_lt_of_le (he ▸ R2.lt) hq)
      (try have B1 := B1.below hb B1.lt)
      (try have B5 := B5.below hb B5.lt)
      (try have R1 := R1.below hb)
      (try have R2 := R2.below hb)
      have HY := below5 hb (Nat.lt_of_lt_of_le (Nat.lt_succ_self _) HS) HY
      have HB0 := btr HB0 HB0.size hb
      have HS := Nat.le_trans HS hb.size
      refine hK.out _ _ ?_ (fun hNew => ?_)
      · (first | exact HY | assumption)
      clear hK K hHeld
      have hHeld := hNew
      clear hNew
      try simp only [Act.put, pz1, pz2, pz3]
      refine tk 14 ?_; try simp only [Act.put, pz1, pz2, pz3]
      refine wpAnyH_done (by kernel_rfl) ?_ _
      refine NoPanic.normal ?_
      go_wp2_with fail
      go_ret
      refine ⟨⟨m, g1, g2, rfl, ⟨⟨L, N, BM⟩, R1, R2, h12, h1, h2, InvM.start N L, by simp⟩, by omega, by omega, by omega⟩, HB0⟩
    · go_simp
      (go_at_call 89; ((with_reducible refine (logi_b _ _ _ _ _ L _ HM HLOG).mono ?_); rintro e' wN ⟨rfl, hb⟩))
      go_wp2_with fail
      (try have B1 := B1.below hb B1.lt)
      (try have B5 := B5.below hb B5.lt)
      (try have R1 := R1.below hb)
      (try have R2 := R2.below hb)
      have HY := below5 hb (Nat.lt_of_lt_of_le (Nat.lt_succ_self _) HS) HY
      have HB0 := btr HB0 HB0.size hb
      have HS := Nat.le_trans HS hb.size
      refine hK.out _ _ ?_ (fun hNew => ?_)
      · (first | exact HY | assumption)
      clear hK K hHeld
      have hHeld := hNew
      clear hNew
      try simp only [Act.put, pz1, pz2, pz3]
      refine wpAnyH_ready (rs := [1]) (by kernel_rfl) (by simp) ?_
      refine AllReadyH.cons (o := ⟨some 7, .buildSlice 24 1 #[(0, .const (.int .i64 (-1)))], 24, "maps.go:25", #[], none⟩) rfl (fun K hK => ?_) AllReadyH.nil
      refine wp_build1m _ rfl (-1) rfl ?_
      intro wN b1 B1 hq1 hb
      (try have B5 := B5.below hb B5.lt)
      (try have R1 := R1.below hb)
      (try have R2 := R2.below hb)
      have HY := below5 hb (Nat.lt_of_lt_of_le (Nat.lt_succ_self _) HS) HY
      have HB0 := btr HB0 HB0.size hb
      have HS := Nat.le_trans HS hb.size
      refine hK.out _ _ ?_ (fun hNew => ?_)
      · (first | exact HY | assumption)
      clear hK K hHeld
      have hHeld := hNew
      clear hNew
      try simp only [Act.put, pz1, pz2, pz3]
      refine wpAnyH_ready (rs := [4]) (by kernel_rfl) (by simp) ?_
      refine AllReadyH.cons (o := ⟨some 10, .call { callee := .value (.func 116), args := #[.tmp 7, .tmp 9], argTypes := #[24, 3] }, 24, "maps.go:27", #[⟨1, .data⟩, ⟨3, .data⟩, ⟨3, .chain⟩], none⟩) rfl (fun K hK => ?_) AllReadyH.nil
      go_simp
      (go_at_call 116; ((with_reducible refine (rep_b (-1) b1 L _ B1 n1 n2).mono ?_); rintro e' wN ⟨g1, rfl, hq, R1, hb⟩))
      go_wp2_with fail
      have hg1 := Nat.le_trans HS hq
      have hn1 : ∀ g, g < _ → g ≠ g1 := fun g hg he => Nat.lt_irrefl _ (Nat.lt_of_lt_of_le (he ▸ hg) hq)
      (try have B1 := B1.below hb B1.lt)
      (try have B5 := B5.below hb B5.lt)
      (try have R2 := R2.below hb)
      have HY := below5 hb (Nat.lt_of_lt_of_le (Nat.lt_succ_self _) HS) HY
      have HB0 := btr HB0 HB0.size hb
      have HS := Nat.le_trans HS hb.size
      refine hK.out _ _ ?_ (fun hNew => ?_)
      · (first | exact HY | assumption)
      clear hK K hHeld
      have hHeld := hNew
      clear hNew
      try simp only [Act.put, pz1, pz2, pz3]
      refine wpAnyH_ready (rs := [11]) (by kernel_rfl) (by simp) ?_
      refine AllReadyH.cons (o := ⟨some 17, .call { callee := .value (.func 116), args := #[.tmp 11, .tmp 16], argTypes := #[24, 3] }, 24, "maps.go:28", #[⟨5, .data⟩, ⟨10, .data⟩, ⟨4, .chain⟩], none⟩) rfl (fun K hK => ?_) AllReadyH.nil
      go_simp
      (go_at_call 116; ((with_reducible refine (rep_b (-1) b5 N _ B5 m1 m2).mono ?_); rintro e' wN ⟨g2, rfl, hq, R2, hb⟩))
      go_wp2_with fail
      have hg2 := Nat.le_trans HS hq
      have hn2 : ∀ g, g < _ → g ≠ g2 := fun g hg he => Nat.lt_irrefl _ (Nat.lt_of_lt_of_le (he ▸ hg) hq)
      have h12 := hn2 g1 R1.lt
      (try have B1 := B1.below hb B1.lt)
      (try have B5 := B5.below hb B5.lt)
      (try have R1 := R1.below hb)
      have HY := below5 hb (Nat.lt_of_lt_of_le (Nat.lt_succ_self _) HS) HY
      have HB0 := btr HB0 HB0.size hb
      have HS := Nat.le_trans HS hb.size
      refine hK.out _ _ ?_ (fun hNew => ?_)
      · (first | exact HY | assumption)
      clear hK K hHeld
      have hHeld := hNew
      clear hNew
      try simp only [Act.put, pz1, pz2, pz3]
      refine tk 12 ?_; try simp only [Act.put, pz1, pz2, pz3]
      refine wpAnyH_ready (rs := [13]) (by kernel_rfl) (by simp) ?_
      refine AllReadyH.cons (o := ⟨some 19, .box 138 (.tmp 18), 82, "maps.go:25", #[⟨12, .data⟩], none⟩) rfl (fun K hK => ?_) AllReadyH.nil
      refine wp_boxM _ rfl a b c d e rfl ?_
      intro wN m BM hq hb
      have hm := Nat.le_trans HS hq
      have h1 : m ≠ g1 := fun he => Nat.lt_irrefl _ (Nat.lt_of_lt_of_le (he ▸ R1.lt) hq)
      have h2 : m ≠ g2 := fun he => Nat.lt_irrefl _ (Nat.lt_of_lt_of_le (he ▸ R2.lt) hq)
      (try have B1 := B1.below hb B1.lt)
      (try have B5 := B5.below hb B5.lt)
      (try have R1 := R1.below hb)
      (try have R2 := R2.below hb)
      have HY := below5 hb (Nat.lt_of_lt_of_le (Nat.lt_succ_self _) HS) HY
      have HB0 := btr HB0 HB0.size hb
      have HS := Nat.le_trans HS hb.size
      refine hK.out _ _ ?_ (fun hNew => ?_)
      · (first | exact HY | assumption)
      clear hK K hHeld
      have hHeld := hNew
      clear hNew
      try simp only [Act.put, pz1, pz2, pz3]
      refine tk 14 ?_; try simp only [Act.put, pz1, pz2, pz3]
      refine wpAnyH_done (by kernel_rfl) ?_ _
      refine NoPanic.normal ?_
      go_wp2_with fail
      go_ret
      refine ⟨⟨m, g1, g2, rfl, ⟨⟨L, N, BM⟩, R1, R2, h12, h1, h2, InvM.start N L, by simp⟩, by omega, by omega, by omega⟩, HB0⟩
end Go.Proofs.YtkpcohfdcilfcaaGreat
namespace Go.Proofs.YtkpcohfdcilfcaaGreat
open Go.ChangeShapes Go.WideShapes Go.ChangeAt Go.RowKit
theorem Raw_any (a b c d e : Int) (w : World) :
    Calls Tryz.prog 67 #[.agg #[.int .i64 a, .int .i64 b, .int .i64 c, .int .i64 d, .int .i64 e]] w fun e' w' => e' = .returned (.int .i64 (ifMay a b c d e (c + 16))) ∧ Below w.heap.size w w' := by
  cases hm : mayB a b c d e
  · rw [ifMay_no _ hm]
    have Hm := Lib.hid hm
    clear hm
    go_enter Tryz.func67, Tryz.ntmps67
    go_wp2_with (go_at_call 108; refine (may_any _ _ _ _ _ _).mono ?_; rw [Hm.out]; rintro e' w1 ⟨rfl, hb1⟩)
    go_ret
    exact ⟨rfl, below1 hb1⟩
  · rw [ifMay_yes _ hm]
    obtain ⟨k1, k2, k3, k4, k7, k8, k5, k6, _⟩ := may_bd hm
    have Hm := Lib.hid hm
    clear hm
    go_enter Tryz.func67, Tryz.ntmps67
    go_wp2_with (go_at_call 108; refine (may_any _ _ _ _ _ _).mono ?_; rw [Hm.out]; rintro e' w1 ⟨rfl, hb1⟩; obtain ⟨hc1, hf1⟩ := bcell hb1)
    go_ret
    exact ⟨rfl, below1 hb1⟩
def ChS.boot (s : ChS) : ChS := if s.on then s else { s with on := true, armed := false }
def ChS.bootC (s : ChS) : Int := if s.on then 7 else 0
def armOkB (xo xb : Int) : Bool := decide (1 ≤ xo) && decide (xo ≤ 1073741824) && decide (0 ≤ xb) && decide (xb ≤ 1073741824)
def ChS.arm (s : ChS) (xo xb : Int) (xf : Nat) : ChS := if s.on && armOkB xo xb then { s with armed := true, turn := s.ops + xo, cop := xo, cby := xb, fill := xf } else s
def ChS.armC (s : ChS) (xo xb : Int) : Int := if s.on then (if armOkB xo xb then 0 else 2) else 9
theorem arm_off (m gx gb : Nat) (Af : Option Addr) (nf cf : Nat) (a b c d e : Int) (fs : List Flt) (xo xb : Int) (xf : Nat) (w : World) (s : ChS) (hC : ChipW w m gx gb Af nf cf a b c d e fs s) (ho : s.on = false) : Calls Tryz.prog 38 #[.pointer (some ⟨m, 0, none⟩), .agg #[.int .i64 xo, .int .i64 xb, .int .u8 (xf : Nat)]] w fun e' w' => e' = .returned (.int .i64 9) ∧ Below w.heap.size w w' := by
  obtain ⟨HC⟩ : Nonempty (Hid (ChipW w m gx gb Af nf cf a b c d e fs s)) := ⟨Lib.hid hC⟩
  obtain ⟨⟨cx, cb, NX, NB, hX, hN, hcx, hB⟩, rX, rK, rF, n1, n2, n3, l1, l2, l3, l4⟩ := hC
  have H1 := Lib.hid hX
  have H2 := Lib.hid hN
  clear hX hN rX rK rF l1 l2 l3 l4
  rw [ho] at hB
  have hB := hB.alloc_ (.cells #[.int .i64 xo, .int .i64 xb, .int .u8 (xf : Nat)] 54)
  have y10 := hB.cell_ 10; simp at y10
  clear hB ho
  go_enter Tryz.func38, Tryz.ntmps38
  go_wp2_with fail
  go_ret
  exact ⟨rfl, (Below.refl _ _).alloc (Nat.le_refl _) _⟩
theorem arm_arg (m gx gb : Nat) (Af : Option Addr) (nf cf : Nat) (a b c d e : Int) (fs : List Flt) (xo xb : Int) (xf : Nat) (w : World) (s : ChS) (hC : ChipW w m gx gb Af nf cf a b c d e fs s) (ho : s.on = true) (hx : xo < 1 ∨ (1 ≤ xo ∧ 1073741824 < xo) ∨ (1 ≤ xo ∧ xo ≤ 1073741824 ∧ xb < 0) ∨ (1 ≤ xo ∧ xo ≤ 1073741824 ∧ 0 ≤ xb ∧ 1073741824 < xb)) : Calls Tryz.prog 38 #[.pointer (some ⟨m, 0, none⟩), .agg #[.int .i64 xo, .int .i64 xb, .int .u8 (xf : Nat)]] w fun e' w' => e' = .returned (.int .i64 2) ∧ Below w.heap.size w w' := by
  obtain ⟨HC⟩ : Nonempty (Hid (ChipW w m gx gb Af nf cf a b c d e fs s)) := ⟨Lib.hid hC⟩
  obtain ⟨⟨cx, cb, NX, NB, hX, hN, hcx, hB⟩, rX, rK, rF, n1, n2, n3, l1, l2, l3, l4⟩ := hC
  have H1 := Lib.hid hX
  have H2 := Lib.hid hN
  clear hX hN rX rK rF l1 l2 l3 l4
  rw [ho] at hB
  have hB := hB.alloc_ (.cells #[.int .i64 xo, .int .i64 xb, .int .u8 (xf : Nat)] 54)
  have y10 := hB.cell_ 10; simp at y10
  clear hB ho
  rcases hx with h1 | ⟨h1, h2⟩ | ⟨h1, h2, h3⟩ | ⟨h1, h2, h3, h4⟩
  all_goals
    go_enter Tryz.func38, Tryz.ntmps38
    go_wp2_with fail
    go_ret
    exact ⟨rfl, (Below.refl _ _).alloc (Nat.le_refl _) _⟩
theorem arm_yes (m gx gb : Nat) (Af : Option Addr) (nf cf : Nat) (a b c d e : Int) (fs : List Flt) (xo xb : Int) (xf : Nat) (n : Int) (w : World) (s : ChS) (hC : ChipW w m gx gb Af nf cf a b c d e fs s) (hb : s.Bnd n) (hn : n ≤ 1000000000) (ho : s.on = true) (x1 : 1 ≤ xo) (x2 : xo ≤ 1073741824) (x3 : 0 ≤ xb) (x4 : xb ≤ 1073741824) : Calls Tryz.prog 38 #[.pointer (some ⟨m, 0, none⟩), .agg #[.int .i64 xo, .int .i64 xb, .int .u8 (xf : Nat)]] w fun e' w' => e' = .returned (.int .i64 0) ∧ ChipW w' m gx gb Af nf cf a b c d e fs { s with armed := true, turn := s.ops + xo, cop := xo, cby := xb, fill := xf } ∧ Tch (chB m gx gb) w w' := by
  obtain ⟨o0, o1, -, -, -, -⟩ := hb
  have HB0 : Below w.heap.size w (w.alloc (.cells #[.int .i64 xo, .int .i64 xb, .int .u8 (xf : Nat)] 54)) := (Below.refl _ _).alloc (Nat.le_refl _) _
  have hmw := hC.lt.1
  have hC := hC.below HB0
  have G1 : Blk (w.alloc (.cells #[.int .i64 xo, .int .i64 xb, .int .u8 (xf : Nat)] 54)) w.heap.size 54 #[.int .i64 xo, .int .i64 xb, .int .u8 (xf : Nat)] := Blk.new_ _ _ _
  obtain ⟨w0, hw0⟩ : ∃ W : World, W = w.alloc (.cells #[.int .i64 xo, .int .i64 xb, .int .u8 (xf : Nat)] 54) := ⟨_, rfl⟩
  obtain ⟨HC⟩ : Nonempty (Hid (ChipW w0 m gx gb Af nf cf a b c d e fs s)) := ⟨Lib.hid (by rw [hw0]; exact hC)⟩
  obtain ⟨⟨cx, cb, NX, NB, hX, hN, hcx, hB⟩, rX, rK, rF, n1, n2, n3, l1, l2, l3, l4⟩ := hC
  have H1 := Lib.hid hX
  have H2 := Lib.hid hN
  clear hX hN rX rK rF l1 l2 l3 l4
  rw [ho] at hB
  have HO := Lib.hid ho
  have hsum : IntKind.i64.wrap (s.ops + xo) = s.ops + xo := wrapS _ (by omega) (by omega)
  rw [← hw0] at hB G1 HB0
  have HW0 := Lib.hid hw0
  have y10 := hB.cell_ 10; have y11 := hB.cell_ 11; simp at y10 y11
  have fm := hB.free
  have hne : w.heap.size ≠ m := by omega
  have Q1 := hB.set_ 11 (.bool true)
  simp at Q1
  have k8 := Q1.cell_ 8; have k12 := Q1.cell_ 12; simp at k8 k12
  have fq1 := Q1.free
  have g0 := G1.cell_ 0; have g1 := G1.cell_ 1; have g2 := G1.cell_ 2; simp at g0 g1 g2
  have P1 := G1.far (p := ⟨m, 11, none⟩) hne (.bool true)
  have p0 := P1.cell_ 0; have p1 := P1.cell_ 1; have p2 := P1.cell_ 2; simp at p0 p1 p2
  have Q2 := Q1.set_ 12 (.int .i64 (s.ops + xo))
  simp at Q2
  have fq2 := Q2.free
  have j8 := Q2.cell_ 8; have j13 := Q2.cell_ 13; have j14 := Q2.cell_ 14; have j15 := Q2.cell_ 15; simp at j8 j13 j14 j15
  have P2 := P1.far (p := ⟨m, 12, none⟩) hne (.int .i64 (s.ops + xo))
  have r0 := P2.cell_ 0; have r1 := P2.cell_ 1; have r2 := P2.cell_ 2; simp at r0 r1 r2
  have Q3 := ((Q2.set_ 13 (.int .i64 xo)).set_ 14 (.int .i64 xb)).set_ 15 (.int .u8 (xf : Nat))
  simp at Q3
  have HQ := Lib.hid Q3
  have d1 : decide (xo < 1) = false := decide_eq_false (by omega)
  have d2 : decide (1073741824 < xo) = false := decide_eq_false (by omega)
  have d3 : decide (xb < 0) = false := decide_eq_false (by omega)
  have d4 : decide (1073741824 < xb) = false := decide_eq_false (by omega)
  have HNE := Lib.hid hne
  have HCX := Lib.hid hcx
  clear hB ho Q1 Q2 Q3 P1 P2 G1 hC x1 x2 x3 x4 o0 o1 hn hne n1 n2 n3 hcx hmw
  go_enter Tryz.func38, Tryz.ntmps38
  go_upto_block 0 with fail
  rw [← hw0]
  clear hw0
  go_upto_region 8 with fail
  refine wp_region_noPanic ?_
  refine wp_region_held_drew (S := (fun w' => w'.cell? ⟨m, 8, none⟩ = some (.int .i64 s.ops) ∧ w'.cell? ⟨w.heap.size, 0, none⟩ = some (.int .i64 xo))) (by kernel_rfl) ?_ (fun hHeld => ?_)
  · (first | exact ⟨k8, p0⟩ | exact ⟨j8, r0⟩ | assumption)
  refine tk 0 ?_; try simp only [Act.put, pz1, pz2, pz3]
  refine tk 1 ?_; try simp only [Act.put, pz1, pz2, pz3]
  refine tk 2 ?_; try simp only [Act.put, pz1, pz2, pz3]
  refine tk 3 ?_; try simp only [Act.put, pz1, pz2, pz3]
  refine tk 4 ?_; try simp only [Act.put, pz1, pz2, pz3]
  refine tk 5 ?_; try simp only [Act.put, pz1, pz2, pz3]
  refine tk 6 ?_; try simp only [Act.put, pz1, pz2, pz3]
  refine tk 7 ?_; try simp only [Act.put, pz1, pz2, pz3]
  refine tk 8 ?_; try simp only [Act.put, pz1, pz2, pz3]
  refine tk 9 ?_; try simp only [Act.put, pz1, pz2, pz3]
  refine wpAnyH_ready (rs := [10]) (by kernel_rfl) (by simp) ?_
  refine AllReadyH.cons (o := ⟨none, .store 3 (.tmp 45) (.tmp 43), 0, "chip.go:192", #[⟨9, .data⟩, ⟨7, .data⟩, ⟨0, .phase⟩, ⟨1, .phase⟩, ⟨2, .phase⟩, ⟨3, .phase⟩, ⟨4, .phase⟩, ⟨5, .phase⟩, ⟨6, .phase⟩, ⟨7, .phase⟩], none⟩) rfl (fun K hK => ?_) AllReadyH.nil
  go_simp
  skip
  refine hK.out _ _ ?_ (fun hNew => ?_)
  · (first | exact ⟨k8, p0⟩ | exact ⟨j8, r0⟩ | assumption)
  clear hK K hHeld
  have hHeld := hNew
  clear hNew
  try simp only [Act.put, pz1, pz2, pz3]
  refine wpAnyH_done (by kernel_rfl) ?_ _
  refine NoPanic.normal ?_
  go_wp2_with fail
  go_ret
  have HT : Tch (fun g => g = m) w0 _ := ((((Tch.setm w0 m 11 (.bool true)).trans (Tch.setm _ m 12 (.int .i64 (s.ops + xo)))).trans (Tch.setm _ m 13 (.int .i64 xo))).trans (Tch.setm _ m 14 (.int .i64 xb))).trans (Tch.setm _ m 15 (.int .u8 (xf : Nat)))
  have HCC := HC.out.put { s with armed := true, turn := s.ops + xo, cop := xo, cby := xb, fill := xf } H1.out H2.out HCX.out (by rw [show ({ s with armed := true, turn := s.ops + xo, cop := xo, cby := xb, fill := xf } : ChS).on = true from HO.out]; exact HQ.out) HT rfl rfl
  have HTT := (Tch.of_below HB0).trans (tch_m (gx := gx) (gb := gb) HT)
  exact ⟨rfl, HCC.like, HTT.like⟩
end Go.Proofs.YtkpcohfdcilfcaaGreat
namespace Go.Proofs.YtkpcohfdcilfcaaGreat
open Go.ChangeShapes Go.WideShapes Go.ChangeAt Go.RowKit
def ChS.wrong (s : ChS) (a : Int) (fs : List Flt) (k l : Nat) : Int := if failedB a fs s (k : Int) then 10 else if (l : Int) ≠ s.k (k : Int) 0 then 11 else 0
theorem refusal_any (m gx gb : Nat) (Af : Option Addr) (nf cf : Nat) (a b c d e : Int) (fs : List Flt) (k l : Nat) (w : World) (s : ChS) (hC : ChipW w m gx gb Af nf cf a b c d e fs s) (hk : (k : Int) < a) : Calls Tryz.prog 177 #[.pointer (some ⟨m, 0, none⟩), .agg #[.int .i64 (k : Int), .int .i64 (l : Int)]] w fun e' w' => e' = .returned (.int .i64 (s.wrong a fs k l)) ∧ Below w.heap.size w w' := by
  have HB0 : Below w.heap.size w (w.alloc (.cells #[.int .i64 (k : Int), .int .i64 (l : Int)] 68)) := (Below.refl _ _).alloc (Nat.le_refl _) _
  have G1 : Blk (w.alloc (.cells #[.int .i64 (k : Int), .int .i64 (l : Int)] 68)) w.heap.size 68 #[.int .i64 (k : Int), .int .i64 (l : Int)] := Blk.new_ _ _ _
  have z0 : (w.alloc (.cells #[.int .i64 (k : Int), .int .i64 (l : Int)] 68)).cell? ⟨w.heap.size, 0, none⟩ = some (.int .i64 (k : Int)) := G1.cell_ 0
  have z1 : (w.alloc (.cells #[.int .i64 (k : Int), .int .i64 (l : Int)] 68)).cell? ⟨w.heap.size, 1, none⟩ = some (.int .i64 (l : Int)) := G1.cell_ 1
  have hC := hC.below HB0
  rcases (by cases hq : failedB a fs s (k : Int) <;> simp : failedB a fs s (k : Int) = true ∨ failedB a fs s (k : Int) = false) with hq | hq
  · rw [show s.wrong a fs k l = 10 by unfold ChS.wrong; rw [hq]; rfl]
    have hfl := Lib.hid hq
    clear hq
    go_enter Tryz.func177, Tryz.ntmps177
    go_wp2_with (go_at_call 54; ((with_reducible refine (failed_b _ _ _ _ _ _ _ _ _ _ _ _ _ _ _ _ (by first | exact hC | exact ChipW.drew hC) hfl).mono ?_); rintro e' wN ⟨rfl, hb⟩; (try have hb := undrew hb); replace hC := ChipW.likeB hC hb; replace HB0 := btr HB0 HB0.size hb; replace G1 := G1.below hb G1.lt; clear z0 z1; have z0 := G1.cell_ 0; have z1 := G1.cell_ 1; simp at z0 z1))
    go_ret
    exact ⟨rfl, HB0⟩
  · have hfl := Lib.hid hq
    have hw : s.wrong a fs k l = if (l : Int) ≠ s.k (k : Int) 0 then 11 else 0 := by unfold ChS.wrong; rw [hq]; rfl
    obtain ⟨z, hz⟩ : ∃ z, s.K.getD (3 * k) 0 = z := ⟨_, rfl⟩
    have hkz : s.k (k : Int) 0 = z := by unfold ChS.k; rw [Int.toNat_natCast, Nat.add_zero]; exact hz
    rw [hw, hkz]
    have HZ := Lib.hid hz
    have HK := Lib.hid hk
    clear hq hw hkz hz hk
    rcases (by by_cases h : (l : Int) = z; exact Or.inl h; exact Or.inr h : (l : Int) = z ∨ (l : Int) ≠ z) with hl | hl
    · rw [if_neg (not_not_intro hl)]
      have hlz : ((l : Int) != z) = false := by simp [hl]
      clear hl
      go_enter Tryz.func177, Tryz.ntmps177
      go_upto_region 3 with (go_at_call 54; ((with_reducible refine (failed_b _ _ _ _ _ _ _ _ _ _ _ _ _ _ _ _ (by first | exact hC | exact ChipW.drew hC) hfl).mono ?_); rintro e' wN ⟨rfl, hb⟩; (try have hb := undrew hb); replace hC := ChipW.likeB hC hb; replace HB0 := btr HB0 HB0.size hb; replace G1 := G1.below hb G1.lt; clear z0 z1; have z0 := G1.cell_ 0; have z1 := G1.cell_ 1; simp at z0 z1))
      obtain ⟨cx, cb, NX, NB, hNX, hNB, y0, y1, y2, y3, y4, y5, y6, y7, y8, y9, y10, y11, y12, y13, y14, y15, yx, yb, fm, fx, fb⟩ := hC.get
      have cz := yb (3 * k) (by have := hNB.out; have := HK.out; omega)
      rw [HZ.out, Nat.mul_comm] at cz
      have i0 : (0 : Int) ≤ (k : Int) := by omega
      have i1 : (k : Int) < (NB : Int) := by have := hNB.out; have := HK.out; omega
      clear yx yb fm fx fb y0 y1 y2 y3 y4 y5 y6 y8 y9 y10 y11 y12 y13 y14 y15
      refine wp_region_noPanic ?_
      refine wp_region_held_drew (S := (fun w' => w'.cell? ⟨w.heap.size, 0, none⟩ = some (.int .i64 (k : Int)) ∧ w'.cell? ⟨w.heap.size, 1, none⟩ = some (.int .i64 (l : Int)) ∧ w'.cell? ⟨m, 7, none⟩ = some (.slice (some ⟨gb, 0, none⟩) NB cb) ∧ w'.cell? ⟨gb, k * 3, none⟩ = some (.int .i64 z))) (by kernel_rfl) ?_ (fun hHeld => ?_)
      · (first | exact ⟨z0, z1, y7, cz⟩ | assumption)
      refine tk 0 ?_; try simp only [Act.put, pz1, pz2, pz3]
      refine tk 1 ?_; try simp only [Act.put, pz1, pz2, pz3]
      refine tk 2 ?_; try simp only [Act.put, pz1, pz2, pz3]
      refine tk 3 ?_; try simp only [Act.put, pz1, pz2, pz3]
      refine tk 4 ?_; try simp only [Act.put, pz1, pz2, pz3]
      refine tk 5 ?_; try simp only [Act.put, pz1, pz2, pz3]
      refine tk 6 ?_; try simp only [Act.put, pz1, pz2, pz3]
      refine tk 7 ?_; try simp only [Act.put, pz1, pz2, pz3]
      refine tk 8 ?_; try simp only [Act.put, pz1, pz2, pz3]
      refine tk 9 ?_; try simp only [Act.put, pz1, pz2, pz3]
      refine tk 10 ?_; try simp only [Act.put, pz1, pz2, pz3]
      refine tk 11 ?_; try simp only [Act.put, pz1, pz2, pz3]
      refine wpAnyH_done (by kernel_rfl) ?_ _
      refine NoPanic.normal ?_
      go_wp2_with fail
      go_ret
      exact ⟨rfl, HB0.drew⟩
    · rw [if_pos hl]
      have hlz : ((l : Int) != z) = true := by simp [hl]
      clear hl
      go_enter Tryz.func177, Tryz.ntmps177
      go_upto_region 3 with (go_at_call 54; ((with_reducible refine (failed_b _ _ _ _ _ _ _ _ _ _ _ _ _ _ _ _ (by first | exact hC | exact ChipW.drew hC) hfl).mono ?_); rintro e' wN ⟨rfl, hb⟩; (try have hb := undrew hb); replace hC := ChipW.likeB hC hb; replace HB0 := btr HB0 HB0.size hb; replace G1 := G1.below hb G1.lt; clear z0 z1; have z0 := G1.cell_ 0; have z1 := G1.cell_ 1; simp at z0 z1))
      obtain ⟨cx, cb, NX, NB, hNX, hNB, y0, y1, y2, y3, y4, y5, y6, y7, y8, y9, y10, y11, y12, y13, y14, y15, yx, yb, fm, fx, fb⟩ := hC.get
      have cz := yb (3 * k) (by have := hNB.out; have := HK.out; omega)
      rw [HZ.out, Nat.mul_comm] at cz
      have i0 : (0 : Int) ≤ (k : Int) := by omega
      have i1 : (k : Int) < (NB : Int) := by have := hNB.out; have := HK.out; omega
      clear yx yb fm fx fb y0 y1 y2 y3 y4 y5 y6 y8 y9 y10 y11 y12 y13 y14 y15
      refine wp_region_noPanic ?_
      refine wp_region_held_drew (S := (fun w' => w'.cell? ⟨w.heap.size, 0, none⟩ = some (.int .i64 (k : Int)) ∧ w'.cell? ⟨w.heap.size, 1, none⟩ = some (.int .i64 (l : Int)) ∧ w'.cell? ⟨m, 7, none⟩ = some (.slice (some ⟨gb, 0, none⟩) NB cb) ∧ w'.cell? ⟨gb, k * 3, none⟩ = some (.int .i64 z))) (by kernel_rfl) ?_ (fun hHeld => ?_)
      · (first | exact ⟨z0, z1, y7, cz⟩ | assumption)
      refine tk 0 ?_; try simp only [Act.put, pz1, pz2, pz3]
      refine tk 1 ?_; try simp only [Act.put, pz1, pz2, pz3]
      refine tk 2 ?_; try simp only [Act.put, pz1, pz2, pz3]
      refine tk 3 ?_; try simp only [Act.put, pz1, pz2, pz3]
      refine tk 4 ?_; try simp only [Act.put, pz1, pz2, pz3]
      refine tk 5 ?_; try simp only [Act.put, pz1, pz2, pz3]
      refine tk 6 ?_; try simp only [Act.put, pz1, pz2, pz3]
      refine tk 7 ?_; try simp only [Act.put, pz1, pz2, pz3]
      refine tk 8 ?_; try simp only [Act.put, pz1, pz2, pz3]
      refine tk 9 ?_; try simp only [Act.put, pz1, pz2, pz3]
      refine tk 10 ?_; try simp only [Act.put, pz1, pz2, pz3]
      refine tk 11 ?_; try simp only [Act.put, pz1, pz2, pz3]
      refine wpAnyH_done (by kernel_rfl) ?_ _
      refine NoPanic.normal ?_
      go_wp2_with fail
      go_ret
      exact ⟨rfl, HB0.drew⟩
theorem raw_b (a b c d e : Int) (w : World) (hm : Hid (mayB a b c d e = true)) :
    Calls Tryz.prog 67 #[.agg #[.int .i64 a, .int .i64 b, .int .i64 c, .int .i64 d, .int .i64 e]] w fun e' w' => e' = .returned (.int .i64 (c + 16)) ∧ Below w.heap.size w w' := by
  have q := Raw_any a b c d e w
  rwa [ifMay_yes _ hm.out] at q
theorem number_yes {a b x y : Int} (h : thereB a b x y = true) : numberI a b x y = x * b + y := by simp [numberI, h]
theorem num_c (a b c d e : Int) (k l n : Nat) (w : World) (hm : Hid (mayB a b c d e = true)) (hn : Hid (numberI a b (k : Int) (l : Int) = (n : Int))) :
    Calls Tryz.prog 115 #[.agg #[.int .i64 a, .int .i64 b, .int .i64 c, .int .i64 d, .int .i64 e], .agg #[.int .i64 (k : Int), .int .i64 (l : Int)]] w fun e' w' => e' = .returned (.int .i64 (n : Int)) ∧ Below w.heap.size w w' := by
  have q := Number_any a b c d e (k : Int) (l : Int) w
  rwa [ifMay_yes _ hm.out, hn.out] at q
theorem ret_sl {A : Option Addr} {n n' q : Nat} (h : n = n') : Ending.returned (.slice A n q) = .returned (.slice A n' q) := by rw [h]
theorem geo5 {w : World} {m gx gb : Nat} {Af : Option Addr} {nf cf : Nat} {a b c d e : Int} {fs : List Flt} {s : ChS} (h : ChipW w m gx gb Af nf cf a b c d e fs s) : w.cell? ⟨m, 0, none⟩ = some (.int .i64 a) ∧ w.cell? ⟨m, 1, none⟩ = some (.int .i64 b) ∧ w.cell? ⟨m, 2, none⟩ = some (.int .i64 c) ∧ w.cell? ⟨m, 3, none⟩ = some (.int .i64 d) ∧ w.cell? ⟨m, 4, none⟩ = some (.int .i64 e) := by
  obtain ⟨cx, cb, NX, NB, hX, hN, hcx, hB⟩ := h.blk
  exact ⟨hB.cell_ 0, hB.cell_ 1, hB.cell_ 2, hB.cell_ 3, hB.cell_ 4⟩
theorem cells6x {w : World} {m gx gb : Nat} {Af : Option Addr} {nf cf : Nat} {a b c d e : Int} {fs : List Flt} {s : ChS} (h : ChipW w m gx gb Af nf cf a b c d e fs s) : ∃ cx : Nat, s.X.length ≤ cx ∧ w.cell? ⟨m, 6, none⟩ = some (.slice (some ⟨gx, 0, none⟩) s.X.length cx) := by
  obtain ⟨cx, cb, NX, NB, hX, hN, hcx, hB⟩ := h.blk
  subst hX
  exact ⟨cx, hcx, hB.cell_ 6⟩
theorem page_ok {w : World} {m gx gb : Nat} {Af : Option Addr} {nf cf : Nat} {a b c d e : Int} {fs : List Flt} {s : ChS} (hC : ChipW w m gx gb Af nf cf a b c d e fs s) {k l : Nat} (hk : (k : Int) < a) (hl : (l : Int) < b) : ∃ n RW : Nat, numberI a b (k : Int) (l : Int) = (n : Int) ∧ (RW : Int) = c + 16 ∧ n * RW + RW ≤ s.X.length ∧ 40 ≤ RW ∧ RW ≤ 80 ∧ n < 200 ∧ (n : Int) = (k : Int) * b + (l : Int) := by
  obtain ⟨hm, -, -⟩ := planMay_bd hC.may
  obtain ⟨g1, g2, g3, g4, g5, g6, -⟩ := may_bd hm
  have hth : thereB a b (k : Int) (l : Int) = true := by
    unfold thereB withinB
    simp
    omega
  have h1 : (k : Int) * b ≤ (a - 1) * b := Int.mul_le_mul_of_nonneg_right (by omega) (by omega)
  rw [Int.sub_mul] at h1
  have h0 : 0 ≤ (k : Int) * b := Int.mul_nonneg (by omega) (by omega)
  have h2 : a * b ≤ 20 * 8 := Int.mul_le_mul g2 g4 (by omega) (by omega)
  have h3 : ((k : Int) * b + (l : Int) + 1) * (c + 16) ≤ a * b * (c + 16) := Int.mul_le_mul_of_nonneg_right (by omega) (by omega)
  obtain ⟨n, hn⟩ : ∃ n : Nat, (n : Int) = (k : Int) * b + (l : Int) := ⟨((k : Int) * b + (l : Int)).toNat, by omega⟩
  obtain ⟨RW, hR⟩ : ∃ RW : Nat, (RW : Int) = c + 16 := ⟨(c + 16).toNat, by omega⟩
  refine ⟨n, RW, by rw [number_yes hth]; exact hn.symm, hR, ?_, by omega, by omega, by omega, hn⟩
  rw [← hn, ← hR, Int.add_mul, Int.one_mul] at h3
  have h4 : ((n * RW + RW : Nat) : Int) = (n : Int) * (RW : Int) + (RW : Int) := by push_cast; rfl
  rw [hC.lenX, ← hR]
  omega
theorem page_any (m gx gb : Nat) (Af : Option Addr) (nf cf : Nat) (a b c d e : Int) (fs : List Flt) (k l n RW : Nat) (w : World) (s : ChS) (hC : ChipW w m gx gb Af nf cf a b c d e fs s) (hk : (k : Int) < a) (hl : (l : Int) < b) (hnum : Hid (numberI a b (k : Int) (l : Int) = (n : Int))) (hrw : (RW : Int) = c + 16) (hfit : n * RW + RW ≤ s.X.length) (r1 : 40 ≤ RW) (r2 : RW ≤ 80) (hn2 : n < 200) : Calls Tryz.prog 75 #[.pointer (some ⟨m, 0, none⟩), .agg #[.int .i64 (k : Int), .int .i64 (l : Int)]] w fun e' w' => (∃ q : Nat, RW ≤ q ∧ e' = .returned (.slice (some ⟨gx, n * RW, none⟩) RW q)) ∧ Below w.heap.size w w' := by
  have HB0 : Below w.heap.size w (w.alloc (.cells #[.int .i64 (k : Int), .int .i64 (l : Int)] 68)) := (Below.refl _ _).alloc (Nat.le_refl _) _
  have G1 : Blk (w.alloc (.cells #[.int .i64 (k : Int), .int .i64 (l : Int)] 68)) w.heap.size 68 #[.int .i64 (k : Int), .int .i64 (l : Int)] := Blk.new_ _ _ _
  have z0 : (w.alloc (.cells #[.int .i64 (k : Int), .int .i64 (l : Int)] 68)).cell? ⟨w.heap.size, 0, none⟩ = some (.int .i64 (k : Int)) := G1.cell_ 0
  have z1 : (w.alloc (.cells #[.int .i64 (k : Int), .int .i64 (l : Int)] 68)).cell? ⟨w.heap.size, 1, none⟩ = some (.int .i64 (l : Int)) := G1.cell_ 1
  have hC := hC.below HB0
  have HM := Lib.hid (planMay_bd hC.may).1
  obtain ⟨y0, y1, y2, y3, y4⟩ := geo5 hC
  have hrw' : c + 16 = (RW : Int) := hrw.symm
  have hbd : n * RW ≤ 200 * 80 := Nat.mul_le_mul (by omega) r2
  obtain ⟨F, hF⟩ : ∃ F, n * RW = F := ⟨_, rfl⟩
  have hFi : (n : Int) * (RW : Int) = (F : Int) := by rw [← hF]; push_cast; rfl
  rw [hF] at hfit hbd ⊢
  have hw1 : IntKind.i64.wrap (F : Int) = (F : Int) := wrapS _ (by omega) (by omega)
  have HFIT := Lib.hid hfit
  clear hk hl hrw hF hfit
  go_enter Tryz.func75, Tryz.ntmps75
  go_upto_region 2 with (go_at_call 67; ((with_reducible refine (raw_b _ _ _ _ _ _ HM).mono ?_); rintro e' wN ⟨rfl, hb⟩; (try have hb := undrew hb); replace hC := ChipW.likeB hC hb; replace HB0 := btr HB0 HB0.size hb; replace G1 := G1.below hb G1.lt; clear z0 z1 y0 y1 y2 y3 y4; have z0 := G1.cell_ 0; have z1 := G1.cell_ 1; simp at z0 z1; obtain ⟨y0, y1, y2, y3, y4⟩ := geo5 hC))
  refine wp_region_noPanic ?_
  refine wp_region_held_drew (S := (fun w' => w'.cell? ⟨m, 0, none⟩ = some (.int .i64 a) ∧ w'.cell? ⟨m, 1, none⟩ = some (.int .i64 b) ∧ w'.cell? ⟨m, 2, none⟩ = some (.int .i64 c) ∧ w'.cell? ⟨m, 3, none⟩ = some (.int .i64 d) ∧ w'.cell? ⟨m, 4, none⟩ = some (.int .i64 e) ∧ w'.cell? ⟨w.heap.size, 0, none⟩ = some (.int .i64 (k : Int)) ∧ w'.cell? ⟨w.heap.size, 1, none⟩ = some (.int .i64 (l : Int)))) (by kernel_rfl) ?_ (fun hHeld => ?_)
  · (first | exact ⟨y0, y1, y2, y3, y4, z0, z1⟩ | assumption)
  refine tk 0 ?_; try simp only [Act.put, pz1, pz2, pz3]
  refine tk 1 ?_; try simp only [Act.put, pz1, pz2, pz3]
  refine tk 2 ?_; try simp only [Act.put, pz1, pz2, pz3]
  refine tk 3 ?_; try simp only [Act.put, pz1, pz2, pz3]
  refine tk 4 ?_; try simp only [Act.put, pz1, pz2, pz3]
  refine tk 6 ?_; try simp only [Act.put, pz1, pz2, pz3]
  refine wpAnyH_ready (rs := [5]) (by kernel_rfl) (by simp) ?_
  refine AllReadyH.cons (o := ⟨some 17, .call { callee := .value (.func 115), args := #[.tmp 15, .tmp 16], argTypes := #[23, 68] }, 3, "chip.go:63", #[⟨3, .data⟩, ⟨4, .data⟩], none⟩) rfl (fun K hK => ?_) AllReadyH.nil
  go_simp
  (go_at_call 115; ((with_reducible refine (num_c _ _ _ _ _ k l n _ HM hnum).mono ?_); rintro e' wN ⟨rfl, hb⟩; (try have hb := undrew hb); replace hC := ChipW.likeB hC hb; replace HB0 := btr HB0 HB0.size hb; replace G1 := G1.below hb G1.lt; clear z0 z1 y0 y1 y2 y3 y4; have z0 := G1.cell_ 0; have z1 := G1.cell_ 1; simp at z0 z1; obtain ⟨y0, y1, y2, y3, y4⟩ := geo5 hC))
  go_wp2_with fail
  refine hK.out _ _ ?_ (fun hNew => ?_)
  · (first | exact ⟨y0, y1, y2, y3, y4, z0, z1⟩ | assumption)
  clear hK K hHeld
  have hHeld := hNew
  clear hNew
  try simp only [Act.put, pz1, pz2, pz3]
  refine tk 7 ?_; try simp only [Act.put, pz1, pz2, pz3]
  refine tk 8 ?_; try simp only [Act.put, pz1, pz2, pz3]
  refine wpAnyH_done (by kernel_rfl) ?_ _
  refine NoPanic.normal ?_
  obtain ⟨cx, hcx, y6⟩ := cells6x hC
  have hcx2 := HFIT.out
  obtain ⟨NX, hNX⟩ : ∃ NX, s.X.length = NX := ⟨_, rfl⟩
  rw [hNX] at y6 hcx hcx2
  clear hNX
  have f0 : (0 : Int) ≤ (F : Int) := by omega
  have f1 : F + RW ≤ cx := by omega
  have f2 : ¬ cx = F := by omega
  have f3 : (F : Int) + (RW : Int) ≤ (cx : Int) := by omega
  have f4 : (0 : Int) ≤ (RW : Int) := by omega
  go_wp2_with fail
  go_ret
  exact ⟨⟨cx - F, by omega, ret_sl (Nat.add_sub_cancel_left F RW)⟩, (by first | exact HB0 | exact HB0.drew)⟩
end Go.Proofs.YtkpcohfdcilfcaaGreat
namespace Go.Proofs.YtkpcohfdcilfcaaGreat
open Go.ChangeShapes Go.WideShapes Go.ChangeAt Go.RowKit
theorem slB_not_nil (a : Addr) (n c : Nat) (w : World) : (binOp BinOp.eql 37 (.slice (some a) n c) (.slice none 0 0)).run Tryz.prog w = .ok (.bool false) w := by kernel_rfl
theorem own_emptyB (w : World) (e : TypeId) : (w.alloc (.cells #[] e)).ownsRow w.heap.size e 1 (.slice (some ⟨w.heap.size, 0, none⟩) 0 0) 0 [] :=
  ⟨by simp, Or.inr ⟨w.heap.size, 0, #[], rfl, Nat.le_refl _, heap_alloc_new w _, by omega, by unfold maxLen; omega, by simp, by simp⟩⟩
theorem own_rowT {w : World} {base n : Nat} {t : TypeId} {v : Value} {xs : List Value} (h : w.ownsRow base t 1 v n xs) (hn : 1 ≤ n) : ∃ g c, v = .slice (some ⟨g, 0, none⟩) n c ∧ RowT w g t xs ∧ base ≤ g := by
  obtain ⟨hl, h'⟩ := h
  rcases h' with ⟨_, h0⟩ | ⟨g, cap, cur, rfl, hb, hh, hnc, _, hsz, ht⟩
  · rw [h0] at hl
    simp at hl
    omega
  · refine ⟨g, cap, rfl, ⟨cur.toList.drop (n * 1), ?_⟩, hb⟩
    unfold Blk
    rw [← ht, List.take_append_drop]
    exact hh
theorem bclone_any (g o n c : Nat) (bs : List Nat) (w : World) (hr : Rd w (some ⟨g, o, none⟩) n 1 (bs.map byteV)) (hlt : g < w.heap.size) (hn : 1 ≤ n) (hn2 : n ≤ 100000) :
    Calls Tryz.prog 48 #[.slice (some ⟨g, o, none⟩) n c] w fun e' w' => (∃ g' c', e' = .returned (.slice (some ⟨g', 0, none⟩) n c') ∧ RowT w' g' 5 (bs.map byteV) ∧ w.heap.size ≤ g') ∧ Below w.heap.size w w' := by
  have HR : Rd (w.alloc (.cells #[] 5)) (some ⟨g, o, none⟩) n 1 (bs.map byteV) := hr.keep (fun b o' e j => by
    cases e
    exact Below.cell (p := ⟨g, j, none⟩) ((Below.refl w.heap.size w).alloc (Nat.le_refl _) (.cells #[] 5)) hlt)
  have hnil := slB_not_nil ⟨g, o, none⟩ n c w
  go_enter Tryz.func48, Tryz.ntmps48
  go_upto_region 3 with fail
  refine wp_region_lit ?_
  refine wpList_plain rfl (fun K hK => ?_)
  go_simp
  refine hK _ _ ?_
  clear hK K
  try simp only [Act.put, pz1, pz2, pz3]
  refine wpList_plain rfl (fun K hK => ?_)
  go_simp
  refine hK _ _ ?_
  clear hK K
  try simp only [Act.put, pz1, pz2, pz3]
  obtain ⟨ti0, hi, hz0, hz1, hz2⟩ := info_parts infoByte
  refine wpList_app _ rfl (.tmp 5) (.tmp 6) _ rfl w.heap.size 5 ti0 _ 1 1 Tryz.underlying37 hi hz0 hz1 hz2 rfl (by decide) (.slice (some ⟨w.heap.size, 0, none⟩) 0 0) 0 [] rfl (own_emptyB w _) (some ⟨g, o, none⟩) n c (bs.map byteV) rfl HR (oneB bs) (by unfold maxLen; omega) (by omega) (by simp) ?_
  intro v' w' ho' hg' hv'
  clear hi hz0 hz1 hz2
  rw [Nat.zero_add, List.nil_append] at ho'
  obtain ⟨g', c', rfl, hR', hge⟩ := own_rowT ho' hn
  have HG := Lib.hid hg'
  have HRR := Lib.hid hR'
  clear hg' hR' ho' hv' hnil
  try simp only [Act.put, pz1, pz2, pz3]
  go_wp2_with fail
  go_ret
  exact ⟨⟨g', c', rfl, HRR.out, hge⟩, ((Below.refl _ _).alloc (Nat.le_refl _) _).grown HG.out (by simp) (fun g' hg'' => by simp [Value.ownBlock] at hg''; omega)⟩
end Go.Proofs.YtkpcohfdcilfcaaGreat
namespace Go.Proofs.YtkpcohfdcilfcaaGreat
open Go.ChangeShapes Go.WideShapes Go.ChangeAt Go.RowKit
theorem cell10 {w : World} {m gx gb : Nat} {Af : Option Addr} {nf cf : Nat} {a b c d e : Int} {fs : List Flt} {s : ChS} (h : ChipW w m gx gb Af nf cf a b c d e fs s) : w.cell? ⟨m, 10, none⟩ = some (.bool s.on) := by
  obtain ⟨cx, cb, NX, NB, hX, hN, hcx, hB⟩ := h.blk
  exact hB.cell_ 10
theorem begin_b (m gx gb : Nat) (Af : Option Addr) (nf cf : Nat) (a b c d e : Int) (fs : List Flt) (n : Int) (T : Bool) (w : World) (s : ChS) (hC : ChipW w m gx gb Af nf cf a b c d e fs s) (hb : s.Bnd n) (hn : n ≤ 1000000000) (hcu : Hid (s.cutB = T)) : Calls Tryz.prog 74 #[.pointer (some ⟨m, 0, none⟩)] w fun e' w' => e' = .returned (.bool T) ∧ ChipW w' m gx gb Af nf cf a b c d e fs s.tick ∧ Tch (chB m gx gb) w w' := by
  have := begin_any m gx gb Af nf cf a b c d e fs n w s hC hb hn
  rwa [hcu.out] at this
theorem tick_X (s : ChS) : s.tick.X = s.X := by unfold ChS.tick; split <;> rfl
theorem tick_K (s : ChS) : s.tick.K = s.K := by unfold ChS.tick; split <;> rfl
def ChS.pageOf (s : ChS) (n RW : Nat) : List Nat := (s.X.drop (n * RW)).take RW
theorem chip_rd {w : World} {m gx gb : Nat} {Af : Option Addr} {nf cf : Nat} {a b c d e : Int} {fs : List Flt} {s : ChS} (h : ChipW w m gx gb Af nf cf a b c d e fs s) {n RW : Nat} (hf : n * RW + RW ≤ s.X.length) : Rd w (some ⟨gx, n * RW, none⟩) RW 1 ((s.pageOf n RW).map byteV) := by
  refine ⟨by simp [ChS.pageOf]; omega, Or.inr ⟨gx, n * RW, rfl, fun j u hu => h.rX.cell_ ?_⟩⟩
  rw [List.getElem?_map] at hu ⊢
  unfold ChS.pageOf at hu
  rw [List.getElem?_take] at hu
  split at hu
  · rw [List.getElem?_drop] at hu
    exact hu
  · cases hu
theorem read_off (m gx gb : Nat) (Af : Option Addr) (nf cf : Nat) (a b c d e : Int) (fs : List Flt) (x y : Int) (w : World) (s : ChS) (hC : ChipW w m gx gb Af nf cf a b c d e fs s) (ho : s.on = false) : Calls Tryz.prog 39 #[.pointer (some ⟨m, 0, none⟩), .agg #[.int .i64 x, .int .i64 y]] w fun e' w' => e' = .returned (.tuple #[.slice none 0 0, .int .i64 9]) ∧ Below w.heap.size w w' := by
  have HB0 : Below w.heap.size w (w.alloc (.cells #[.int .i64 x, .int .i64 y] 68)) := (Below.refl _ _).alloc (Nat.le_refl _) _
  have G1 : Blk (w.alloc (.cells #[.int .i64 x, .int .i64 y] 68)) w.heap.size 68 #[.int .i64 x, .int .i64 y] := Blk.new_ _ _ _
  have z0 : (w.alloc (.cells #[.int .i64 x, .int .i64 y] 68)).cell? ⟨w.heap.size, 0, none⟩ = some (.int .i64 x) := G1.cell_ 0
  have z1 : (w.alloc (.cells #[.int .i64 x, .int .i64 y] 68)).cell? ⟨w.heap.size, 1, none⟩ = some (.int .i64 y) := G1.cell_ 1
  have hC := hC.below HB0
  have y10 := cell10 hC
  rw [ho] at y10
  clear ho
  clear hC
  go_enter Tryz.func39, Tryz.ntmps39
  go_wp2_with fail
  go_ret2
  exact ⟨rfl, HB0⟩
theorem read_arg (m gx gb : Nat) (Af : Option Addr) (nf cf : Nat) (a b c d e : Int) (fs : List Flt) (x y : Int) (w : World) (s : ChS) (hC : ChipW w m gx gb Af nf cf a b c d e fs s) (ho : s.on = true) (ht : Hid (thereB a b x y = false)) : Calls Tryz.prog 39 #[.pointer (some ⟨m, 0, none⟩), .agg #[.int .i64 x, .int .i64 y]] w fun e' w' => e' = .returned (.tuple #[.slice none 0 0, .int .i64 2]) ∧ Below w.heap.size w w' := by
  have HB0 : Below w.heap.size w (w.alloc (.cells #[.int .i64 x, .int .i64 y] 68)) := (Below.refl _ _).alloc (Nat.le_refl _) _
  have G1 : Blk (w.alloc (.cells #[.int .i64 x, .int .i64 y] 68)) w.heap.size 68 #[.int .i64 x, .int .i64 y] := Blk.new_ _ _ _
  have z0 : (w.alloc (.cells #[.int .i64 x, .int .i64 y] 68)).cell? ⟨w.heap.size, 0, none⟩ = some (.int .i64 x) := G1.cell_ 0
  have z1 : (w.alloc (.cells #[.int .i64 x, .int .i64 y] 68)).cell? ⟨w.heap.size, 1, none⟩ = some (.int .i64 y) := G1.cell_ 1
  have hC := hC.below HB0
  have y10 := cell10 hC
  rw [ho] at y10
  clear ho
  go_enter Tryz.func39, Tryz.ntmps39
  go_wp2_with (go_at_call 73; ((with_reducible refine (hasPage_b _ _ _ _ _ _ _ _ _ _ _ _ _ _ _ _ _ hC ht).mono ?_); rintro e' wN ⟨rfl, hb⟩; replace hC := hC.below hb; replace HB0 := btr HB0 HB0.size hb; replace G1 := G1.below hb G1.lt; clear z0 z1 y10; have z0 := G1.cell_ 0; have z1 := G1.cell_ 1; simp at z0 z1))
  go_ret2
  exact ⟨rfl, HB0⟩
theorem read_cut (m gx gb : Nat) (Af : Option Addr) (nf cf : Nat) (a b c d e : Int) (fs : List Flt) (x y n : Int) (w : World) (s : ChS) (hC : ChipW w m gx gb Af nf cf a b c d e fs s) (hbn : s.Bnd n) (hn : n ≤ 1000000000) (ho : s.on = true) (ht : Hid (thereB a b x y = true)) (hcu : Hid (s.cutB = true)) : Calls Tryz.prog 39 #[.pointer (some ⟨m, 0, none⟩), .agg #[.int .i64 x, .int .i64 y]] w fun e' w' => e' = .returned (.tuple #[.slice none 0 0, .int .i64 9]) ∧ ChipW w' m gx gb Af nf cf a b c d e fs s.tick ∧ Tch (chB m gx gb) w w' := by
  have hnb : ¬ chB m gx gb w.heap.size := by have := hC.lt; unfold chB; omega
  have HB0 : Below w.heap.size w (w.alloc (.cells #[.int .i64 x, .int .i64 y] 68)) := (Below.refl _ _).alloc (Nat.le_refl _) _
  have G1 : Blk (w.alloc (.cells #[.int .i64 x, .int .i64 y] 68)) w.heap.size 68 #[.int .i64 x, .int .i64 y] := Blk.new_ _ _ _
  have z0 : (w.alloc (.cells #[.int .i64 x, .int .i64 y] 68)).cell? ⟨w.heap.size, 0, none⟩ = some (.int .i64 x) := G1.cell_ 0
  have z1 : (w.alloc (.cells #[.int .i64 x, .int .i64 y] 68)).cell? ⟨w.heap.size, 1, none⟩ = some (.int .i64 y) := G1.cell_ 1
  have hC := hC.below HB0
  have y10 := cell10 hC
  rw [ho] at y10
  clear ho
  go_enter Tryz.func39, Tryz.ntmps39
  go_wp2_with (first
    | (go_at_call 73; ((with_reducible refine (hasPage_b _ _ _ _ _ _ _ _ _ _ _ _ _ _ _ _ _ hC ht).mono ?_); rintro e' wN ⟨rfl, hb⟩; replace hC := hC.below hb; replace HB0 := btr HB0 HB0.size hb; replace G1 := G1.below hb G1.lt; clear z0 z1 y10; have z0 := G1.cell_ 0; have z1 := G1.cell_ 1; simp at z0 z1))
    | (go_at_call 74; ((with_reducible refine (begin_b _ _ _ _ _ _ _ _ _ _ _ _ _ _ _ _ hC hbn hn hcu).mono ?_); rintro e' wN ⟨rfl, hC2, hT⟩; have HT := (Tch.of_below (S := chB m gx gb) HB0).trans hT; have hlt0 := hT.far w.heap.size G1.lt hnb; replace G1 : Blk wN w.heap.size _ _ := hlt0.trans G1; clear hlt0 hC; have hC := hC2; clear hC2 z0 z1; have z0 := G1.cell_ 0; have z1 := G1.cell_ 1; simp at z0 z1)))
  go_ret2
  exact ⟨rfl, hC, HT⟩
theorem read_ok (m gx gb : Nat) (Af : Option Addr) (nf cf : Nat) (a b c d e : Int) (fs : List Flt) (k l N RW : Nat) (n : Int) (w : World) (s : ChS) (hC : ChipW w m gx gb Af nf cf a b c d e fs s) (hbn : s.Bnd n) (hn : n ≤ 1000000000) (ho : s.on = true) (hcu : Hid (s.cutB = false)) (hk : (k : Int) < a) (hl : (l : Int) < b) (hnum : Hid (numberI a b (k : Int) (l : Int) = (N : Int))) (hrw : (RW : Int) = c + 16) (hfit0 : N * RW + RW ≤ s.X.length) (r1 : 40 ≤ RW) (r2 : RW ≤ 80) (hN2 : N < 200) : Calls Tryz.prog 39 #[.pointer (some ⟨m, 0, none⟩), .agg #[.int .i64 (k : Int), .int .i64 (l : Int)]] w fun e' w' => (∃ g' c', e' = .returned (.tuple #[.slice (some ⟨g', 0, none⟩) RW c', .int .i64 0]) ∧ RowT w' g' 5 ((s.pageOf N RW).map byteV) ∧ w.heap.size ≤ g') ∧ ChipW w' m gx gb Af nf cf a b c d e fs s.tick ∧ Tch (chB m gx gb) w w' := by
  have hnb : ¬ chB m gx gb w.heap.size := by have := hC.lt; unfold chB; omega
  have ht : Hid (thereB a b (k : Int) (l : Int) = true) := Lib.hid (by unfold thereB withinB; simp; omega)
  have hfit : N * RW + RW ≤ s.tick.X.length := by rw [tick_X]; exact hfit0
  have hpo : s.tick.pageOf N RW = s.pageOf N RW := by unfold ChS.pageOf; rw [tick_X]
  have HPO := Lib.hid hpo
  have HRW := Lib.hid hrw
  clear hpo hrw hfit0
  have HB0 : Below w.heap.size w (w.alloc (.cells #[.int .i64 (k : Int), .int .i64 (l : Int)] 68)) := (Below.refl _ _).alloc (Nat.le_refl _) _
  have G1 : Blk (w.alloc (.cells #[.int .i64 (k : Int), .int .i64 (l : Int)] 68)) w.heap.size 68 #[.int .i64 (k : Int), .int .i64 (l : Int)] := Blk.new_ _ _ _
  have z0 : (w.alloc (.cells #[.int .i64 (k : Int), .int .i64 (l : Int)] 68)).cell? ⟨w.heap.size, 0, none⟩ = some (.int .i64 (k : Int)) := G1.cell_ 0
  have z1 : (w.alloc (.cells #[.int .i64 (k : Int), .int .i64 (l : Int)] 68)).cell? ⟨w.heap.size, 1, none⟩ = some (.int .i64 (l : Int)) := G1.cell_ 1
  have hC := hC.below HB0
  have y10 := cell10 hC
  rw [ho] at y10
  clear ho
  go_enter Tryz.func39, Tryz.ntmps39
  go_wp2_with (first
    | (go_at_call 73; ((with_reducible refine (hasPage_b _ _ _ _ _ _ _ _ _ _ _ _ _ _ _ _ _ hC ht).mono ?_); rintro e' wN ⟨rfl, hb⟩; replace hC := hC.below hb; replace HB0 := btr HB0 HB0.size hb; replace G1 := G1.below hb G1.lt; clear z0 z1 y10; have z0 := G1.cell_ 0; have z1 := G1.cell_ 1; simp at z0 z1))
    | (go_at_call 74; ((with_reducible refine (begin_b _ _ _ _ _ _ _ _ _ _ _ _ _ _ _ _ hC hbn hn hcu).mono ?_); rintro e' wN ⟨rfl, hC2, hT⟩; have HT := (Tch.of_below (S := chB m gx gb) HB0).trans hT; have hlt0 := hT.far w.heap.size G1.lt hnb; replace G1 : Blk wN w.heap.size _ _ := hlt0.trans G1; clear hlt0 hC; have hC := hC2; clear hC2 z0 z1; have z0 := G1.cell_ 0; have z1 := G1.cell_ 1; simp at z0 z1))
    | (go_at_call 75; ((with_reducible refine (page_any _ _ _ _ _ _ _ _ _ _ _ _ k l N RW _ _ hC hk hl hnum HRW.out hfit r1 r2 hN2).mono ?_); rintro e' wN ⟨⟨q, hq, rfl⟩, hb⟩; replace hC := hC.below hb; replace HT := HT.then hb))
    | (go_at_call 48; ((with_reducible refine (bclone_any gx (N * RW) RW q (s.pageOf N RW) _ (by rw [← HPO.out]; exact chip_rd hC hfit) hC.lt.2.1 (by omega) (by omega)).mono ?_); rintro e' wN ⟨⟨g9, c9, rfl, hR9, hg9⟩, hb⟩; replace hC := hC.below hb; have HSZ := HT.size; replace HT := HT.then hb)))
  go_ret2
  exact ⟨⟨g9, c9, rfl, hR9, by omega⟩, hC, HT⟩
end Go.Proofs.YtkpcohfdcilfcaaGreat
namespace Go.Proofs.YtkpcohfdcilfcaaGreat
open Go.ChangeShapes Go.WideShapes Go.ChangeAt Go.RowKit
def putX (X : List Nat) (F : Nat) (vs : List Nat) : List Nat := X.take F ++ vs ++ X.drop (F + vs.length)
theorem putX_len {X : List Nat} {F : Nat} {vs : List Nat} (h : F + vs.length ≤ X.length) : (putX X F vs).length = X.length := by
  simp [putX]
  omega
theorem copy_chip {w : World} {m gx gb : Nat} {Af : Option Addr} {nf cf : Nat} {a b c d e : Int} {fs : List Flt} {s : ChS} (hC : ChipW w m gx gb Af nf cf a b c d e fs s) {F RW q : Nat} (ad : Addr) (nv cv : Nat) (vs : List Nat) (hF : F + RW ≤ s.X.length) (hv : vs.length = min nv RW) (hread : ∀ j u, (vs.map byteV)[j]? = some u → w.cell? (ad.add j) = some u) :
    ∃ w', (Builtin.copy_ #[37, 37] 3 #[.slice (some ⟨gx, F, none⟩) RW q, .slice (some ad) nv cv]).run Tryz.prog w = .ok (.int .i64 (vs.length : Nat)) w' ∧ ChipW w' m gx gb Af nf cf a b c d e fs { s with X := putX s.X F vs } ∧ Tch (chB m gx gb) w w' := by
  obtain ⟨⟨cx, cb, NX, NB, hX, hN, hcx, hB⟩, ⟨r, rX⟩, rK, rF, n1, n2, n3, l1, l2, l3, l4⟩ := hC
  have hrun := run_copy_row (P := Tryz.prog) w 37 37 3 5 gx F RW q ad nv cv (s.X.map byteV ++ r).toArray 5 (vs.map byteV) Tryz.underlying37 infoByteSz rX (by rw [List.length_map]; exact hv) hread (by simp; omega) (oneB vs)
  obtain ⟨A2, hA2⟩ : ∃ A2, spl (s.X.map byteV ++ r).toArray F (vs.map byteV) = A2 := ⟨_, rfl⟩
  have hrun2 : (Builtin.copy_ #[37, 37] 3 #[.slice (some ⟨gx, F, none⟩) RW q, .slice (some ad) nv cv]).run Tryz.prog w = .ok (.int .i64 (vs.length : Nat)) (w.setRow gx A2) := by
    rw [← hA2]
    refine hrun.trans ?_
    rw [List.length_map]
    simp only [spl, List.length_map]
    rfl
  refine ⟨_, hrun2, ?_, Tch.setRow w gx _ chB_x⟩
  have hT := Tch.setRow (S := fun g => g = gx) w gx A2 rfl
  have hK := setRow_heap w gx _ A2 5 _ rX
  refine ⟨⟨cx, cb, NX, NB, by rw [putX_len (by omega)]; exact hX, hN, hcx, hT.blk hB (fun e => n1 e)⟩, ⟨r, hK.trans ?_⟩, rK.keep (hT.far _ rK.lt (fun e => n3 e.symm)), rF.keep hT.size (fun g hg g1 g2 g3 => hT.far g hg g2), n1, n2, n3, by rw [putX_len (by omega)]; exact l1, l2, l3, l4⟩
  rw [← hA2]
  congr 2
  simp only [spl, putX, List.map_append, List.map_take, List.map_drop, List.length_map]
  rw [List.take_append_of_le_length (by simp; omega), List.drop_append_of_le_length (by simp; omega)]
  simp
theorem setK_chip {w : World} {m gx gb : Nat} {Af : Option Addr} {nf cf : Nat} {a b c d e : Int} {fs : List Flt} {s : ChS} (hC : ChipW w m gx gb Af nf cf a b c d e fs s) {i : Nat} (hi : i < s.K.length) (v : Int) : ChipW (w.setCell ⟨gb, i, none⟩ (.int .i64 v)) m gx gb Af nf cf a b c d e fs { s with K := s.K.set i v } ∧ Tch (chB m gx gb) w (w.setCell ⟨gb, i, none⟩ (.int .i64 v)) := by
  obtain ⟨⟨cx, cb, NX, NB, hX, hN, hcx, hB⟩, rX, rK, rF, n1, n2, n3, l1, l2, l3, l4⟩ := hC
  refine ⟨⟨⟨cx, cb, NX, NB, hX, hN, hcx, hB.far n2 _⟩, rX.far n3 _, ?_, ?_, n1, n2, n3, l1, by simp; exact l2, l3, l4⟩, Tch.set w ⟨gb, i, none⟩ (.int .i64 v) chB_b⟩
  · have := rK.set_ (i := i) (by simpa using hi) (.int .i64 v)
    rw [← List.map_set] at this
    exact this
  · have hT := Tch.setm w gb i (.int .i64 v)
    exact rF.keep hT.size (fun g hg g1 g2 g3 => hT.far g hg g3)
theorem chip_k {w : World} {m gx gb : Nat} {Af : Option Addr} {nf cf : Nat} {a b c d e : Int} {fs : List Flt} {s : ChS} (hC : ChipW w m gx gb Af nf cf a b c d e fs s) {k j : Nat} (hk : (k : Int) < a) (hj : j < 3) : ∃ cb NB : Nat, (k : Int) < (NB : Int) ∧ w.cell? ⟨m, 7, none⟩ = some (.slice (some ⟨gb, 0, none⟩) NB cb) ∧ w.cell? ⟨gb, k * 3 + j, none⟩ = some (.int .i64 (s.k (k : Int) j)) ∧ (∀ i, w.frozen? ⟨gb, i, none⟩ = false) ∧ k * 3 + j < s.K.length := by
  obtain ⟨cx, cb, NX, NB, hNX, hNB, y0, y1, y2, y3, y4, y5, y6, y7, y8, y9, y10, y11, y12, y13, y14, y15, yx, yb, fm, fx, fb⟩ := hC.get
  have h1 := hNB.out
  have h2 := hC.lenK
  refine ⟨cb, NB, by omega, y7, ?_, fb, by omega⟩
  rw [yb _ (by omega)]
  unfold ChS.k
  rw [Int.toNat_natCast, Nat.mul_comm]
theorem cell14 {w : World} {m gx gb : Nat} {Af : Option Addr} {nf cf : Nat} {a b c d e : Int} {fs : List Flt} {s : ChS} (h : ChipW w m gx gb Af nf cf a b c d e fs s) : w.cell? ⟨m, 14, none⟩ = some (.int .i64 s.cby) := by
  obtain ⟨cx, cb, NX, NB, hX, hN, hcx, hB⟩ := h.blk
  exact hB.cell_ 14
def ChS.inc (s : ChS) (k j : Nat) : ChS := { s with K := s.K.set (k * 3 + j) (s.k (k : Int) j + 1) }
theorem wrong_tick (s : ChS) (a : Int) (fs : List Flt) (k l : Nat) : s.tick.wrong a fs k l = s.wrong a fs k l := by
  unfold ChS.wrong failedB ChS.k
  rw [tick_K]
theorem refusal_b (m gx gb : Nat) (Af : Option Addr) (nf cf : Nat) (a b c d e : Int) (fs : List Flt) (k l : Nat) (z : Int) (w : World) (s : ChS) (hC : ChipW w m gx gb Af nf cf a b c d e fs s) (hk : (k : Int) < a) (hz : Hid (s.wrong a fs k l = z)) : Calls Tryz.prog 177 #[.pointer (some ⟨m, 0, none⟩), .agg #[.int .i64 (k : Int), .int .i64 (l : Int)]] w fun e' w' => e' = .returned (.int .i64 z) ∧ Below w.heap.size w w' := by
  have := refusal_any m gx gb Af nf cf a b c d e fs k l w s hC hk
  rwa [hz.out] at this
theorem prog_off (m gx gb : Nat) (Af : Option Addr) (nf cf : Nat) (a b c d e : Int) (fs : List Flt) (x y : Int) (A : Option Addr) (nb cA : Nat) (w : World) (s : ChS) (hC : ChipW w m gx gb Af nf cf a b c d e fs s) (ho : s.on = false) : Calls Tryz.prog 162 #[.pointer (some ⟨m, 0, none⟩), .agg #[.int .i64 x, .int .i64 y], .slice A nb cA] w fun e' w' => e' = .returned (.int .i64 9) ∧ Below w.heap.size w w' := by
  have HB0 : Below w.heap.size w (w.alloc (.cells #[.int .i64 x, .int .i64 y] 68)) := (Below.refl _ _).alloc (Nat.le_refl _) _
  have G1 : Blk (w.alloc (.cells #[.int .i64 x, .int .i64 y] 68)) w.heap.size 68 #[.int .i64 x, .int .i64 y] := Blk.new_ _ _ _
  have z0 : (w.alloc (.cells #[.int .i64 x, .int .i64 y] 68)).cell? ⟨w.heap.size, 0, none⟩ = some (.int .i64 x) := G1.cell_ 0
  have z1 : (w.alloc (.cells #[.int .i64 x, .int .i64 y] 68)).cell? ⟨w.heap.size, 1, none⟩ = some (.int .i64 y) := G1.cell_ 1
  have hC := hC.below HB0
  have y10 := cell10 hC
  rw [ho] at y10
  clear ho
  clear hC
  go_enter Tryz.func162, Tryz.ntmps162
  go_wp2_with fail
  go_ret
  exact ⟨rfl, HB0⟩
theorem raw_bb (a b c d e : Int) (RW : Nat) (w : World) (hm : Hid (mayB a b c d e = true)) (hr : Hid ((RW : Int) = c + 16)) :
    Calls Tryz.prog 67 #[.agg #[.int .i64 a, .int .i64 b, .int .i64 c, .int .i64 d, .int .i64 e]] w fun e' w' => e' = .returned (.int .i64 (RW : Int)) ∧ Below w.heap.size w w' := by
  have q := raw_b a b c d e w hm
  rwa [← hr.out] at q
theorem prog_cutbad (m gx gb : Nat) (Af : Option Addr) (nf cf : Nat) (a b c d e : Int) (fs : List Flt) (k l N RW : Nat) (n : Int) (bs : List Nat) (gA oA cA : Nat) (w : World) (s : ChS) (hC : ChipW w m gx gb Af nf cf a b c d e fs s) (hbn : s.Bnd n) (hn : n ≤ 1000000000) (ho : s.on = true) (hk : (k : Int) < a) (hl : (l : Int) < b) (hnum : Hid (numberI a b (k : Int) (l : Int) = (N : Int))) (HRW : Hid ((RW : Int) = c + 16)) (hfit0 : Hid (N * RW + RW ≤ s.X.length)) (r1 : 40 ≤ RW) (r2 : RW ≤ 80) (hN2 : N < 200) (hsl : ∀ j u, (bs.map byteV)[j]? = some u → w.cell? ⟨gA, oA + j, none⟩ = some u) (hgA : gA < w.heap.size) (hgn : ¬ chB m gx gb gA) (hbl : bs.length = RW) (hcu : Hid (s.cutB = true)) (z : Int) (hwr0 : s.wrong a fs k l = z) (hz : z ≠ 0) : Calls Tryz.prog 162 #[.pointer (some ⟨m, 0, none⟩), .agg #[.int .i64 (k : Int), .int .i64 (l : Int)], .slice (some ⟨gA, oA, none⟩) RW cA] w fun e' w' => e' = .returned (.int .i64 9) ∧ ChipW w' m gx gb Af nf cf a b c d e fs s.tick ∧ Tch (chB m gx gb) w w' := by
  have hnb : ¬ chB m gx gb w.heap.size := by have := hC.lt; unfold chB; omega
  have ht : Hid (thereB a b (k : Int) (l : Int) = true) := Lib.hid (by unfold thereB withinB; simp; omega)
  have HM := Lib.hid (planMay_bd hC.may).1
  have hwr : Hid (s.tick.wrong a fs k l = z) := Lib.hid (by rw [wrong_tick]; exact hwr0)
  have hfit : Hid (N * RW + RW ≤ s.tick.X.length) := Lib.hid (by rw [tick_X]; exact hfit0.out)
  have HSL := Lib.hid hsl
  have HBL := Lib.hid hbl
  clear hsl hbl hwr0
  have HB0 : Below w.heap.size w (w.alloc (.cells #[.int .i64 (k : Int), .int .i64 (l : Int)] 68)) := (Below.refl _ _).alloc (Nat.le_refl _) _
  have G1 : Blk (w.alloc (.cells #[.int .i64 (k : Int), .int .i64 (l : Int)] 68)) w.heap.size 68 #[.int .i64 (k : Int), .int .i64 (l : Int)] := Blk.new_ _ _ _
  have z0 : (w.alloc (.cells #[.int .i64 (k : Int), .int .i64 (l : Int)] 68)).cell? ⟨w.heap.size, 0, none⟩ = some (.int .i64 (k : Int)) := G1.cell_ 0
  have z1 : (w.alloc (.cells #[.int .i64 (k : Int), .int .i64 (l : Int)] 68)).cell? ⟨w.heap.size, 1, none⟩ = some (.int .i64 (l : Int)) := G1.cell_ 1
  have hC := hC.below HB0
  have y10 := cell10 hC
  rw [ho] at y10
  clear ho
  have hzz : (z == 0) = false := by simp [hz]
  clear hz
  go_enter Tryz.func162, Tryz.ntmps162
  go_wp2_with (first
    | (go_at_call 73; ((with_reducible refine (hasPage_b _ _ _ _ _ _ _ _ _ _ _ _ _ _ _ _ _ hC ht).mono ?_); rintro e' wN ⟨rfl, hb⟩; replace hC := hC.below hb; replace HB0 := btr HB0 HB0.size hb; replace G1 := G1.below hb G1.lt; clear z0 z1 y10; have z0 := G1.cell_ 0; have z1 := G1.cell_ 1; simp at z0 z1; obtain ⟨y0, y1, y2, y3, y4⟩ := geo5 hC))
    | (go_at_call 67; ((with_reducible refine (raw_bb _ _ _ _ _ RW _ HM HRW).mono ?_); rintro e' wN ⟨rfl, hb⟩; replace hC := hC.below hb; replace HB0 := btr HB0 HB0.size hb; replace G1 := G1.below hb G1.lt; clear z0 z1 y0 y1 y2 y3 y4; have z0 := G1.cell_ 0; have z1 := G1.cell_ 1; simp at z0 z1))
    | (go_at_call 74; ((with_reducible refine (begin_b _ _ _ _ _ _ _ _ _ _ _ _ _ _ _ _ hC hbn hn hcu).mono ?_); rintro e' wN ⟨rfl, hC2, hT⟩; have HT := (Tch.of_below (S := chB m gx gb) HB0).trans hT; have hlt0 := hT.far w.heap.size G1.lt hnb; replace G1 : Blk wN w.heap.size _ _ := hlt0.trans G1; clear hlt0 hC; have hC := hC2; clear hC2 z0 z1; have z0 := G1.cell_ 0; have z1 := G1.cell_ 1; simp at z0 z1))
    | (go_at_call 177; ((with_reducible refine (refusal_b _ _ _ _ _ _ _ _ _ _ _ _ k l _ _ _ hC hk hwr).mono ?_); rintro e' wN ⟨rfl, hb⟩; (try have hb := undrew hb); replace hC := ChipW.likeB hC hb; replace HT := HT.then hb; replace G1 := G1.below hb G1.lt; clear z0 z1; have z0 := G1.cell_ 0; have z1 := G1.cell_ 1; simp at z0 z1)))
  go_ret
  exact ⟨rfl, hC, HT⟩
theorem prog_err (m gx gb : Nat) (Af : Option Addr) (nf cf : Nat) (a b c d e : Int) (fs : List Flt) (k l N RW : Nat) (n : Int) (bs : List Nat) (gA oA cA : Nat) (w : World) (s : ChS) (hC : ChipW w m gx gb Af nf cf a b c d e fs s) (hbn : s.Bnd n) (hn : n ≤ 1000000000) (ho : s.on = true) (hk : (k : Int) < a) (hl : (l : Int) < b) (hnum : Hid (numberI a b (k : Int) (l : Int) = (N : Int))) (HRW : Hid ((RW : Int) = c + 16)) (hfit0 : Hid (N * RW + RW ≤ s.X.length)) (r1 : 40 ≤ RW) (r2 : RW ≤ 80) (hN2 : N < 200) (hsl : ∀ j u, (bs.map byteV)[j]? = some u → w.cell? ⟨gA, oA + j, none⟩ = some u) (hgA : gA < w.heap.size) (hgn : ¬ chB m gx gb gA) (hbl : bs.length = RW) (hcu : Hid (s.cutB = false)) (z : Int) (hwr0 : s.wrong a fs k l = z) (hz : z ≠ 0) : Calls Tryz.prog 162 #[.pointer (some ⟨m, 0, none⟩), .agg #[.int .i64 (k : Int), .int .i64 (l : Int)], .slice (some ⟨gA, oA, none⟩) RW cA] w fun e' w' => e' = .returned (.int .i64 z) ∧ ChipW w' m gx gb Af nf cf a b c d e fs s.tick ∧ Tch (chB m gx gb) w w' := by
  have hnb : ¬ chB m gx gb w.heap.size := by have := hC.lt; unfold chB; omega
  have ht : Hid (thereB a b (k : Int) (l : Int) = true) := Lib.hid (by unfold thereB withinB; simp; omega)
  have HM := Lib.hid (planMay_bd hC.may).1
  have hwr : Hid (s.tick.wrong a fs k l = z) := Lib.hid (by rw [wrong_tick]; exact hwr0)
  have hfit : Hid (N * RW + RW ≤ s.tick.X.length) := Lib.hid (by rw [tick_X]; exact hfit0.out)
  have HSL := Lib.hid hsl
  have HBL := Lib.hid hbl
  clear hsl hbl hwr0
  have HB0 : Below w.heap.size w (w.alloc (.cells #[.int .i64 (k : Int), .int .i64 (l : Int)] 68)) := (Below.refl _ _).alloc (Nat.le_refl _) _
  have G1 : Blk (w.alloc (.cells #[.int .i64 (k : Int), .int .i64 (l : Int)] 68)) w.heap.size 68 #[.int .i64 (k : Int), .int .i64 (l : Int)] := Blk.new_ _ _ _
  have z0 : (w.alloc (.cells #[.int .i64 (k : Int), .int .i64 (l : Int)] 68)).cell? ⟨w.heap.size, 0, none⟩ = some (.int .i64 (k : Int)) := G1.cell_ 0
  have z1 : (w.alloc (.cells #[.int .i64 (k : Int), .int .i64 (l : Int)] 68)).cell? ⟨w.heap.size, 1, none⟩ = some (.int .i64 (l : Int)) := G1.cell_ 1
  have hC := hC.below HB0
  have y10 := cell10 hC
  rw [ho] at y10
  clear ho
  have hzz : (z != 0) = true := by simp [hz]
  clear hz
  go_enter Tryz.func162, Tryz.ntmps162
  go_wp2_with (first
    | (go_at_call 73; ((with_reducible refine (hasPage_b _ _ _ _ _ _ _ _ _ _ _ _ _ _ _ _ _ hC ht).mono ?_); rintro e' wN ⟨rfl, hb⟩; replace hC := hC.below hb; replace HB0 := btr HB0 HB0.size hb; replace G1 := G1.below hb G1.lt; clear z0 z1 y10; have z0 := G1.cell_ 0; have z1 := G1.cell_ 1; simp at z0 z1; obtain ⟨y0, y1, y2, y3, y4⟩ := geo5 hC))
    | (go_at_call 67; ((with_reducible refine (raw_bb _ _ _ _ _ RW _ HM HRW).mono ?_); rintro e' wN ⟨rfl, hb⟩; replace hC := hC.below hb; replace HB0 := btr HB0 HB0.size hb; replace G1 := G1.below hb G1.lt; clear z0 z1 y0 y1 y2 y3 y4; have z0 := G1.cell_ 0; have z1 := G1.cell_ 1; simp at z0 z1))
    | (go_at_call 74; ((with_reducible refine (begin_b _ _ _ _ _ _ _ _ _ _ _ _ _ _ _ _ hC hbn hn hcu).mono ?_); rintro e' wN ⟨rfl, hC2, hT⟩; have HT := (Tch.of_below (S := chB m gx gb) HB0).trans hT; have hlt0 := hT.far w.heap.size G1.lt hnb; replace G1 : Blk wN w.heap.size _ _ := hlt0.trans G1; clear hlt0 hC; have hC := hC2; clear hC2 z0 z1; have z0 := G1.cell_ 0; have z1 := G1.cell_ 1; simp at z0 z1))
    | (go_at_call 177; ((with_reducible refine (refusal_b _ _ _ _ _ _ _ _ _ _ _ _ k l _ _ _ hC hk hwr).mono ?_); rintro e' wN ⟨rfl, hb⟩; (try have hb := undrew hb); replace hC := ChipW.likeB hC hb; replace HT := HT.then hb; replace G1 := G1.below hb G1.lt; clear z0 z1; have z0 := G1.cell_ 0; have z1 := G1.cell_ 1; simp at z0 z1)))
  go_ret
  exact ⟨rfl, hC, HT⟩
end Go.Proofs.YtkpcohfdcilfcaaGreat
namespace Go.Proofs.YtkpcohfdcilfcaaGreat
open Go.ChangeShapes Go.WideShapes Go.ChangeAt Go.RowKit
theorem rd_keep {w wN : World} {m gx gb : Nat} (HT : Tch (chB m gx gb) w wN) {gA oA : Nat} (hgA : gA < w.heap.size) (hgn : ¬ chB m gx gb gA) {bs vs : List Nat} (hsl : ∀ j u, (bs.map byteV)[j]? = some u → w.cell? ⟨gA, oA + j, none⟩ = some u) (hv : ∀ (j : Nat) (u : Value), (vs.map byteV)[j]? = some u → (bs.map byteV)[j]? = some u) :
    ∀ j u, (vs.map byteV)[j]? = some u → wN.cell? ((⟨gA, oA, none⟩ : Addr).add j) = some u := by
  intro j u hu
  have e : (⟨gA, oA, none⟩ : Addr).add j = ⟨gA, oA + j, none⟩ := by
    unfold Addr.add
    split <;> simp_all
  rw [e]
  exact (World.cell?_of_block (w := w) (HT.far gA hgA hgn)).trans (hsl j u (hv j u hu))
theorem getD_setN (A : List Int) (p q : Nat) (v d : Int) : (A.set p v).getD q d = if p = q ∧ p < A.length then v else A.getD q d := by
  rw [List.getD_eq_getElem?_getD, List.getD_eq_getElem?_getD, List.getElem?_set]
  by_cases h : p = q
  · subst h
    by_cases h2 : p < A.length
    · simp [h2]
    · simp [h2]
  · simp [h]
theorem take_sub {bs : List Nat} {q : Nat} : ∀ (j : Nat) (u : Value), ((bs.take q).map byteV)[j]? = some u → (bs.map byteV)[j]? = some u := by
  intro j u hu
  rw [List.map_take, List.getElem?_take] at hu
  split at hu
  · exact hu
  · cases hu
def ChS.prog (s : ChS) (k N RW : Nat) (bs : List Nat) : ChS := (({ s.tick with X := putX s.X (N * RW) bs } : ChS).inc k 0).inc k 2
def ChS.progCut (s : ChS) (k N RW : Nat) (bs : List Nat) : ChS := ({ s.tick with X := putX s.X (N * RW) bs } : ChS).inc k 0
theorem prog_ok (m gx gb : Nat) (Af : Option Addr) (nf cf : Nat) (a b c d e : Int) (fs : List Flt) (k l N RW : Nat) (n : Int) (bs : List Nat) (gA oA cA : Nat) (w : World) (s : ChS) (hC : ChipW w m gx gb Af nf cf a b c d e fs s) (hbn : s.Bnd n) (hn : n ≤ 1000000000) (ho : s.on = true) (hk : (k : Int) < a) (hl : (l : Int) < b) (hnum : Hid (numberI a b (k : Int) (l : Int) = (N : Int))) (HRW : Hid ((RW : Int) = c + 16)) (hfit0 : Hid (N * RW + RW ≤ s.X.length)) (r1 : 40 ≤ RW) (r2 : RW ≤ 80) (hN2 : N < 200) (hsl : ∀ j u, (bs.map byteV)[j]? = some u → w.cell? ⟨gA, oA + j, none⟩ = some u) (hgA : gA < w.heap.size) (hgn : ¬ chB m gx gb gA) (hbl : bs.length = RW) (hcu : Hid (s.cutB = false)) (hwr0 : s.wrong a fs k l = 0) : Calls Tryz.prog 162 #[.pointer (some ⟨m, 0, none⟩), .agg #[.int .i64 (k : Int), .int .i64 (l : Int)], .slice (some ⟨gA, oA, none⟩) RW cA] w fun e' w' => e' = .returned (.int .i64 0) ∧ ChipW w' m gx gb Af nf cf a b c d e fs (s.prog k N RW bs) ∧ Tch (chB m gx gb) w w' := by
  have KB : ∀ i, 0 ≤ s.k (k : Int) i ∧ s.k (k : Int) i ≤ n + 1 := fun i => ⟨hbn.k0 _, by have := hbn.k1 (3 * (k : Int).toNat + i); unfold ChS.k; omega⟩
  have KB : ∀ i, 0 ≤ (({ s.tick with X := putX s.tick.X (N * RW) bs } : ChS)).k (k : Int) i ∧ (({ s.tick with X := putX s.tick.X (N * RW) bs } : ChS)).k (k : Int) i ≤ n + 1 := fun i => by
    have := KB i
    unfold ChS.k at this ⊢
    dsimp only
    rw [tick_K]
    exact this
  have HKB := Lib.hid KB
  clear KB
  have hnb : ¬ chB m gx gb w.heap.size := by have := hC.lt; unfold chB; omega
  have ht : Hid (thereB a b (k : Int) (l : Int) = true) := Lib.hid (by unfold thereB withinB; simp; omega)
  have HM := Lib.hid (planMay_bd hC.may).1
  have hwr : Hid (s.tick.wrong a fs k l = 0) := Lib.hid (by rw [wrong_tick]; exact hwr0)
  have hfit : Hid (N * RW + RW ≤ s.tick.X.length) := Lib.hid (by rw [tick_X]; exact hfit0.out)
  have HSL := Lib.hid hsl
  have HBL := Lib.hid hbl
  clear hsl hbl hwr0
  have HB0 : Below w.heap.size w (w.alloc (.cells #[.int .i64 (k : Int), .int .i64 (l : Int)] 68)) := (Below.refl _ _).alloc (Nat.le_refl _) _
  have G1 : Blk (w.alloc (.cells #[.int .i64 (k : Int), .int .i64 (l : Int)] 68)) w.heap.size 68 #[.int .i64 (k : Int), .int .i64 (l : Int)] := Blk.new_ _ _ _
  have z0 : (w.alloc (.cells #[.int .i64 (k : Int), .int .i64 (l : Int)] 68)).cell? ⟨w.heap.size, 0, none⟩ = some (.int .i64 (k : Int)) := G1.cell_ 0
  have z1 : (w.alloc (.cells #[.int .i64 (k : Int), .int .i64 (l : Int)] 68)).cell? ⟨w.heap.size, 1, none⟩ = some (.int .i64 (l : Int)) := G1.cell_ 1
  have hC := hC.below HB0
  have y10 := cell10 hC
  rw [ho] at y10
  clear ho
  go_enter Tryz.func162, Tryz.ntmps162
  go_upto_region 18 with (first
    | (go_at_call 73; ((with_reducible refine (hasPage_b _ _ _ _ _ _ _ _ _ _ _ _ _ _ _ _ _ hC ht).mono ?_); rintro e' wN ⟨rfl, hb⟩; replace hC := hC.below hb; replace HB0 := btr HB0 HB0.size hb; replace G1 := G1.below hb G1.lt; clear z0 z1 y10; have z0 := G1.cell_ 0; have z1 := G1.cell_ 1; simp at z0 z1; obtain ⟨y0, y1, y2, y3, y4⟩ := geo5 hC))
    | (go_at_call 67; ((with_reducible refine (raw_bb _ _ _ _ _ RW _ HM HRW).mono ?_); rintro e' wN ⟨rfl, hb⟩; replace hC := hC.below hb; replace HB0 := btr HB0 HB0.size hb; replace G1 := G1.below hb G1.lt; clear z0 z1 y0 y1 y2 y3 y4; have z0 := G1.cell_ 0; have z1 := G1.cell_ 1; simp at z0 z1))
    | (go_at_call 74; ((with_reducible refine (begin_b _ _ _ _ _ _ _ _ _ _ _ _ _ _ _ _ hC hbn hn hcu).mono ?_); rintro e' wN ⟨rfl, hC2, hT⟩; have HT := (Tch.of_below (S := chB m gx gb) HB0).trans hT; have hlt0 := hT.far w.heap.size G1.lt hnb; replace G1 : Blk wN w.heap.size _ _ := hlt0.trans G1; clear hlt0 hC; have hC := hC2; clear hC2 z0 z1; have z0 := G1.cell_ 0; have z1 := G1.cell_ 1; simp at z0 z1))
    | (go_at_call 177; ((with_reducible refine (refusal_b _ _ _ _ _ _ _ _ _ _ _ _ k l _ _ _ hC hk hwr).mono ?_); rintro e' wN ⟨rfl, hb⟩; (try have hb := undrew hb); replace hC := ChipW.likeB hC hb; replace HT := HT.then hb; replace G1 := G1.below hb G1.lt; clear z0 z1; have z0 := G1.cell_ 0; have z1 := G1.cell_ 1; simp at z0 z1))
    | (go_at_call 75; ((with_reducible refine (page_any _ _ _ _ _ _ _ _ _ _ _ _ k l N RW _ _ (by first | exact hC | exact ChipW.drew hC) hk hl hnum HRW.out hfit.out r1 r2 hN2).mono ?_); rintro e' wN ⟨⟨q, hq, rfl⟩, hb⟩; (try have hb := undrew hb); replace hC := ChipW.likeB hC hb; replace HT := HT.then hb; replace G1 := G1.below hb G1.lt; clear z0 z1; have z0 := G1.cell_ 0; have z1 := G1.cell_ 1; simp at z0 z1; have hrd : ∀ j u, ((bs).map byteV)[j]? = some u → wN.cell? ((⟨gA, oA, none⟩ : Addr).add j) = some u := rd_keep HT hgA hgn HSL.out (fun _ _ h => h); obtain ⟨wY, hrun, hCY, hTY⟩ := copy_chip (q := q) hC ⟨gA, oA, none⟩ RW cA (bs) hfit.out (by rw [HBL.out]; omega) hrd)))
  replace hC := hCY
  have hz9 := HT.size
  replace G1 := hTY.blk G1 hnb
  replace HT := HT.trans hTY
  clear hCY hTY z0 z1 hrun
  have z0 := G1.cell_ 0
  have z1 := G1.cell_ 1
  simp at z0 z1
  obtain ⟨S0, hS0⟩ : ∃ S0 : ChS, S0 = { s.tick with X := putX s.tick.X (N * RW) bs } := ⟨_, rfl⟩
  rw [← hS0] at hC HKB
  have HS0 := Lib.hid hS0
  have i0 : (0 : Int) ≤ (k : Int) := by omega
  clear hS0
  obtain ⟨cb0, NB0, hkN0, y7, cz, fb, hKl⟩ := chip_k (j := 0) hC hk (by omega)
  obtain ⟨v0, hv0⟩ : ∃ v, ChS.k S0 (k : Int) 0 = v := ⟨_, rfl⟩
  rw [hv0] at cz
  have HV0 := Lib.hid hv0
  have hbd0 : 0 ≤ v0 ∧ v0 ≤ n + 1 := by rw [← hv0]; exact HKB.out _
  obtain ⟨b00, b10⟩ := hbd0
  have hwr0 : IntKind.i64.wrap (v0 + 1) = v0 + 1 := wrapS _ (by omega) (by omega)
  (try rw [Nat.add_zero] at cz hKl)
  clear hv0
  go_still_tail 12, (by kernel_rfl)
  change wpList _ _ _ _ _ wY.drew
  go_wp2_with fail
  have hS := setK_chip hC hKl (v0 + 1)
  have hSd := ChipW.drew hS.1
  have hTd : Tch (chB m gx gb) w ((wY.setCell ⟨gb, k * 3, none⟩ (.int .i64 (v0 + 1))).drew) := (HT.trans hS.2).like
  have hG : Blk ((wY.setCell ⟨gb, k * 3, none⟩ (.int .i64 (v0 + 1))).drew) w.heap.size 68 #[.int .i64 (k : Int), .int .i64 (l : Int)] := G1.far (p := ⟨gb, k * 3, none⟩) (fun e => hnb (Or.inr (Or.inr e))) _
  clear HT hC G1 z0 z1 y7 cz fb hS hwr0
  generalize (wY.setCell ⟨gb, k * 3, none⟩ (.int .i64 (v0 + 1))).drew = w2 at hSd hTd hG ⊢
  have hC := hSd
  have HT := hTd
  have G1 := hG
  clear hSd hTd hG
  have z0 := G1.cell_ 0
  have z1 := G1.cell_ 1
  simp at z0 z1
  obtain ⟨S1, hS1⟩ : ∃ S1 : ChS, S1 = { S0 with K := S0.K.set (k * 3) (v0 + 1) } := ⟨_, rfl⟩
  rw [← hS1] at hC
  have KB1 : 0 ≤ S1.k (k : Int) 2 ∧ S1.k (k : Int) 2 ≤ n + 1 := by
    have := HKB.out 2
    rw [hS1]
    unfold ChS.k at this ⊢
    dsimp only
    rw [Int.toNat_natCast] at this ⊢
    rw [getD_setN, if_neg (by omega)]
    exact this
  have HS1 := Lib.hid hS1
  clear hS1
  go_upto_region 19 with fail
  obtain ⟨cb2, NB2, hkN2, y7, cz, fb, hKl⟩ := chip_k (j := 2) hC hk (by omega)
  obtain ⟨v2, hv2⟩ : ∃ v, ChS.k S1 (k : Int) 2 = v := ⟨_, rfl⟩
  rw [hv2] at cz
  have HV2 := Lib.hid hv2
  have hbd2 : 0 ≤ v2 ∧ v2 ≤ n + 1 := by rw [← hv2]; exact KB1
  obtain ⟨b02, b12⟩ := hbd2
  have hwr2 : IntKind.i64.wrap (v2 + 1) = v2 + 1 := wrapS _ (by omega) (by omega)
  (try rw [Nat.add_zero] at cz hKl)
  clear hv2
  go_still_tail 12, (by kernel_rfl)
  change wpList _ _ _ _ _ w2.drew
  go_wp2_with fail
  have hS := setK_chip hC hKl (v2 + 1)
  have hSd := ChipW.drew hS.1
  have hTd : Tch (chB m gx gb) w ((w2.setCell ⟨gb, k * 3 + 2, none⟩ (.int .i64 (v2 + 1))).drew) := (HT.trans hS.2).like
  have hG : Blk ((w2.setCell ⟨gb, k * 3 + 2, none⟩ (.int .i64 (v2 + 1))).drew) w.heap.size 68 #[.int .i64 (k : Int), .int .i64 (l : Int)] := G1.far (p := ⟨gb, k * 3 + 2, none⟩) (fun e => hnb (Or.inr (Or.inr e))) _
  clear HT hC G1 z0 z1 y7 cz fb hS hwr2
  generalize (w2.setCell ⟨gb, k * 3 + 2, none⟩ (.int .i64 (v2 + 1))).drew = w3 at hSd hTd hG ⊢
  have hC := hSd
  have HT := hTd
  have G1 := hG
  clear hSd hTd hG
  have z0 := G1.cell_ 0
  have z1 := G1.cell_ 1
  simp at z0 z1
  go_wp2_with fail
  go_ret
  have hfin : { S1 with K := S1.K.set (k * 3 + 2) (v2 + 1) } = s.prog k N RW bs := by
    rw [← HV2.out, HS1.out, ← HV0.out, HS0.out]
    unfold ChS.prog ChS.inc
    rw [tick_X]
    rfl
  rw [← hfin]
  exact ⟨rfl, hC, HT⟩
end Go.Proofs.YtkpcohfdcilfcaaGreat
namespace Go.Proofs.YtkpcohfdcilfcaaGreat
open Go.ChangeShapes Go.WideShapes Go.ChangeAt Go.RowKit
theorem tick_cby (s : ChS) : s.tick.cby = s.cby := by unfold ChS.tick; split <;> rfl
theorem prog_cut (m gx gb : Nat) (Af : Option Addr) (nf cf : Nat) (a b c d e : Int) (fs : List Flt) (k l N RW : Nat) (n : Int) (bs : List Nat) (gA oA cA : Nat) (w : World) (s : ChS) (hC : ChipW w m gx gb Af nf cf a b c d e fs s) (hbn : s.Bnd n) (hn : n ≤ 1000000000) (ho : s.on = true) (hk : (k : Int) < a) (hl : (l : Int) < b) (hnum : Hid (numberI a b (k : Int) (l : Int) = (N : Int))) (HRW : Hid ((RW : Int) = c + 16)) (hfit0 : Hid (N * RW + RW ≤ s.X.length)) (r1 : 40 ≤ RW) (r2 : RW ≤ 80) (hN2 : N < 200) (hsl : ∀ j u, (bs.map byteV)[j]? = some u → w.cell? ⟨gA, oA + j, none⟩ = some u) (hgA : gA < w.heap.size) (hgn : ¬ chB m gx gb gA) (hbl : bs.length = RW) (hcu : Hid (s.cutB = true)) (hwr0 : s.wrong a fs k l = 0) (Q : Nat) (hcb : 0 ≤ s.cby) (hQ : min RW s.cby.toNat = Q) (hcA : RW ≤ cA) (hcA2 : cA ≤ maxLen) : Calls Tryz.prog 162 #[.pointer (some ⟨m, 0, none⟩), .agg #[.int .i64 (k : Int), .int .i64 (l : Int)], .slice (some ⟨gA, oA, none⟩) RW cA] w fun e' w' => e' = .returned (.int .i64 9) ∧ ChipW w' m gx gb Af nf cf a b c d e fs (s.progCut k N RW (bs.take Q)) ∧ Tch (chB m gx gb) w w' := by
  have KB : ∀ i, 0 ≤ (({ s.tick with X := putX s.tick.X (N * RW) (bs.take Q) } : ChS)).k (k : Int) i ∧ (({ s.tick with X := putX s.tick.X (N * RW) (bs.take Q) } : ChS)).k (k : Int) i ≤ n + 1 := fun i => by
    have h1 := hbn.k0 (3 * (k : Int).toNat + i)
    have h2 := hbn.k1 (3 * (k : Int).toNat + i)
    unfold ChS.k
    dsimp only
    rw [tick_K]
    omega
  have HKB := Lib.hid KB
  have HQ := Lib.hid hQ
  obtain ⟨CB, hCB⟩ : ∃ z, s.tick.cby = z := ⟨_, rfl⟩
  have hmin : (if CB < (RW : Int) then CB else (RW : Int)) = (Q : Int) := by
    rw [← hCB, tick_cby]
    split <;> omega
  have q0 : (0 : Int) ≤ (Q : Int) := by omega
  have q1 : (Q : Int) ≤ (cA : Int) := by omega
  have q2 : Q ≤ cA := by omega
  unfold maxLen at hcA2
  have HCB := Lib.hid hCB
  clear KB hQ hCB hcb
  have hnb : ¬ chB m gx gb w.heap.size := by have := hC.lt; unfold chB; omega
  have ht : Hid (thereB a b (k : Int) (l : Int) = true) := Lib.hid (by unfold thereB withinB; simp; omega)
  have HM := Lib.hid (planMay_bd hC.may).1
  have hwr : Hid (s.tick.wrong a fs k l = 0) := Lib.hid (by rw [wrong_tick]; exact hwr0)
  have hfit : Hid (N * RW + RW ≤ s.tick.X.length) := Lib.hid (by rw [tick_X]; exact hfit0.out)
  have HSL := Lib.hid hsl
  have HBL := Lib.hid hbl
  clear hsl hbl hwr0
  have HB0 : Below w.heap.size w (w.alloc (.cells #[.int .i64 (k : Int), .int .i64 (l : Int)] 68)) := (Below.refl _ _).alloc (Nat.le_refl _) _
  have G1 : Blk (w.alloc (.cells #[.int .i64 (k : Int), .int .i64 (l : Int)] 68)) w.heap.size 68 #[.int .i64 (k : Int), .int .i64 (l : Int)] := Blk.new_ _ _ _
  have z0 : (w.alloc (.cells #[.int .i64 (k : Int), .int .i64 (l : Int)] 68)).cell? ⟨w.heap.size, 0, none⟩ = some (.int .i64 (k : Int)) := G1.cell_ 0
  have z1 : (w.alloc (.cells #[.int .i64 (k : Int), .int .i64 (l : Int)] 68)).cell? ⟨w.heap.size, 1, none⟩ = some (.int .i64 (l : Int)) := G1.cell_ 1
  have hC := hC.below HB0
  have y10 := cell10 hC
  rw [ho] at y10
  clear ho
  have HPG : True := trivial
  go_enter Tryz.func162, Tryz.ntmps162
  go_upto_region 10 with (first
    | (go_at_call 73; ((with_reducible refine (hasPage_b _ _ _ _ _ _ _ _ _ _ _ _ _ _ _ _ _ hC ht).mono ?_); rintro e' wN ⟨rfl, hb⟩; replace hC := hC.below hb; replace HB0 := btr HB0 HB0.size hb; replace G1 := G1.below hb G1.lt; clear z0 z1 y10; have z0 := G1.cell_ 0; have z1 := G1.cell_ 1; simp at z0 z1; obtain ⟨y0, y1, y2, y3, y4⟩ := geo5 hC))
    | (go_at_call 67; ((with_reducible refine (raw_bb _ _ _ _ _ RW _ HM HRW).mono ?_); rintro e' wN ⟨rfl, hb⟩; replace hC := hC.below hb; replace HB0 := btr HB0 HB0.size hb; replace G1 := G1.below hb G1.lt; clear z0 z1 y0 y1 y2 y3 y4; have z0 := G1.cell_ 0; have z1 := G1.cell_ 1; simp at z0 z1))
    | (go_at_call 74; ((with_reducible refine (begin_b _ _ _ _ _ _ _ _ _ _ _ _ _ _ _ _ hC hbn hn hcu).mono ?_); rintro e' wN ⟨rfl, hC2, hT⟩; have HT := (Tch.of_below (S := chB m gx gb) HB0).trans hT; have hlt0 := hT.far w.heap.size G1.lt hnb; replace G1 : Blk wN w.heap.size _ _ := hlt0.trans G1; clear hlt0 hC; have hC := hC2; clear hC2 z0 z1; have z0 := G1.cell_ 0; have z1 := G1.cell_ 1; simp at z0 z1))
    | (go_at_call 177; ((with_reducible refine (refusal_b _ _ _ _ _ _ _ _ _ _ _ _ k l _ _ _ hC hk hwr).mono ?_); rintro e' wN ⟨rfl, hb⟩; (try have hb := undrew hb); replace hC := ChipW.likeB hC hb; replace HT := HT.then hb; replace G1 := G1.below hb G1.lt; clear z0 z1; have z0 := G1.cell_ 0; have z1 := G1.cell_ 1; simp at z0 z1)))
  have y14 := cell14 hC
  rw [HCB.out] at y14
  refine wp_region_noPanic ?_
  refine wp_region_held_drew (S := (fun w' => w'.cell? ⟨m, 14, none⟩ = some (.int .i64 CB) ∧ w'.cell? ⟨w.heap.size, 0, none⟩ = some (.int .i64 (k : Int)) ∧ w'.cell? ⟨w.heap.size, 1, none⟩ = some (.int .i64 (l : Int)))) (by kernel_rfl) ?_ (fun hHeld => ?_)
  · (first | exact ⟨y14, z0, z1⟩ | exact ⟨c14, zz0, zz1⟩ | assumption)
  refine tk 0 ?_; try simp only [Act.put, pz1, pz2, pz3]
  refine tk 1 ?_; try simp only [Act.put, pz1, pz2, pz3]
  refine tk 3 ?_; try simp only [Act.put, pz1, pz2, pz3]
  refine tk 4 ?_; try simp only [Act.put, pz1, pz2, pz3]
  refine tk 5 ?_; try simp only [Act.put, pz1, pz2, pz3]
  refine tk 6 ?_; try simp only [Act.put, pz1, pz2, pz3]
  refine tk 7 ?_; try simp only [Act.put, pz1, pz2, pz3]
  refine tk 8 ?_; try simp only [Act.put, pz1, pz2, pz3]
  refine tk 9 ?_; try simp only [Act.put, pz1, pz2, pz3]
  refine tk 10 ?_; try simp only [Act.put, pz1, pz2, pz3]
  refine tk 11 ?_; try simp only [Act.put, pz1, pz2, pz3]
  refine tk 12 ?_; try simp only [Act.put, pz1, pz2, pz3]
  refine wpAnyH_ready (rs := [2]) (by kernel_rfl) (by simp) ?_
  refine AllReadyH.cons (o := ⟨some 46, .call { callee := .value (.func 75), args := #[.tmp 44, .tmp 45], argTypes := #[27, 68] }, 37, "chip.go:116", #[⟨0, .data⟩, ⟨1, .data⟩], none⟩) rfl (fun K hK => ?_) AllReadyH.nil
  go_simp
  (go_at_call 75; ((with_reducible refine (page_any _ _ _ _ _ _ _ _ _ _ _ _ k l N RW _ _ (by first | exact hC | exact ChipW.drew hC) hk hl hnum HRW.out hfit.out r1 r2 hN2).mono ?_); rintro e' wN ⟨⟨q, hq, rfl⟩, hb⟩; (try have hb := undrew hb); replace hC := ChipW.likeB hC hb; replace HT := HT.then hb; replace G1 := G1.below hb G1.lt; clear z0 z1; have z0 := G1.cell_ 0; have z1 := G1.cell_ 1; simp at z0 z1; have hrd : ∀ j u, (((bs.take Q)).map byteV)[j]? = some u → wN.cell? ((⟨gA, oA, none⟩ : Addr).add j) = some u := rd_keep HT hgA hgn HSL.out take_sub; obtain ⟨wY, hrun, hCY, hTY⟩ := copy_chip (q := q) hC ⟨gA, oA, none⟩ Q cA ((bs.take Q)) hfit.out (by rw [List.length_take, HBL.out]) hrd; have y14 := cell14 hC; have c14 := cell14 hCY; rw [HCB.out] at y14; rw [show ({ s.tick with X := putX s.tick.X (N * RW) (bs.take Q) } : ChS).cby = CB from HCB.out] at c14; replace G1 := hTY.blk G1 hnb; have zz0 := G1.cell_ 0; have zz1 := G1.cell_ 1; simp at zz0 zz1))
  go_wp2_with fail
  refine hK.out _ _ ?_ (fun hNew => ?_)
  · (first | exact ⟨y14, z0, z1⟩ | exact ⟨c14, zz0, zz1⟩ | assumption)
  clear hK K hHeld
  have hHeld := hNew
  clear hNew
  try simp only [Act.put, pz1, pz2, pz3]
  refine wpAnyH_ready (rs := [13]) (by kernel_rfl) (by simp) ?_
  refine AllReadyH.cons (o := ⟨some 57, .call { callee := .builtin .copy, args := #[.tmp 46, .tmp 56], argTypes := #[37, 37] }, 3, "chip.go:116", #[⟨2, .data⟩, ⟨12, .data⟩, ⟨2, .chain⟩], none⟩) rfl (fun K hK => ?_) AllReadyH.nil
  refine wp_copy _ _ 37 rfl _ _ _ _ rfl rfl hrun ?_
  refine hK.out _ _ ?_ (fun hNew => ?_)
  · (first | exact ⟨y14, z0, z1⟩ | exact ⟨c14, zz0, zz1⟩ | assumption)
  clear hK K hHeld
  have hHeld := hNew
  clear hNew
  try simp only [Act.put, pz1, pz2, pz3]
  refine wpAnyH_done (by kernel_rfl) ?_ _
  refine NoPanic.normal ?_
  go_wp2_with fail
  go_upto_region 11 with fail
  replace hC := hCY
  have hz9 := HT.size
  replace HT := HT.trans hTY
  clear hCY hTY z0 z1 zz0 zz1 hrun y14 c14 hmin
  have z0 := G1.cell_ 0
  have z1 := G1.cell_ 1
  simp at z0 z1
  obtain ⟨S0, hS0⟩ : ∃ S0 : ChS, S0 = { s.tick with X := putX s.tick.X (N * RW) (bs.take Q) } := ⟨_, rfl⟩
  rw [← hS0] at hC HKB
  have HS0 := Lib.hid hS0
  have i0 : (0 : Int) ≤ (k : Int) := by omega
  clear hS0
  obtain ⟨cb0, NB0, hkN0, y7, cz, fb, hKl⟩ := chip_k (j := 0) hC hk (by omega)
  obtain ⟨v0, hv0⟩ : ∃ v, ChS.k S0 (k : Int) 0 = v := ⟨_, rfl⟩
  rw [hv0] at cz
  have HV0 := Lib.hid hv0
  have hbd0 : 0 ≤ v0 ∧ v0 ≤ n + 1 := by rw [← hv0]; exact HKB.out _
  obtain ⟨b00, b10⟩ := hbd0
  have hwr0 : IntKind.i64.wrap (v0 + 1) = v0 + 1 := wrapS _ (by omega) (by omega)
  (try rw [Nat.add_zero] at cz hKl)
  clear hv0
  go_still_tail 12, (by kernel_rfl)
  change wpList _ _ _ _ _ wY.drew
  go_wp2_with fail
  have hS := setK_chip hC hKl (v0 + 1)
  have hSd := ChipW.drew hS.1
  have hTd : Tch (chB m gx gb) w ((wY.setCell ⟨gb, k * 3, none⟩ (.int .i64 (v0 + 1))).drew) := (HT.trans hS.2).like
  have hG : Blk ((wY.setCell ⟨gb, k * 3, none⟩ (.int .i64 (v0 + 1))).drew) w.heap.size 68 #[.int .i64 (k : Int), .int .i64 (l : Int)] := G1.far (p := ⟨gb, k * 3, none⟩) (fun e => hnb (Or.inr (Or.inr e))) _
  clear HT hC G1 z0 z1 y7 cz fb hS hwr0
  generalize (wY.setCell ⟨gb, k * 3, none⟩ (.int .i64 (v0 + 1))).drew = w2 at hSd hTd hG ⊢
  have hC := hSd
  have HT := hTd
  have G1 := hG
  clear hSd hTd hG
  have z0 := G1.cell_ 0
  have z1 := G1.cell_ 1
  simp at z0 z1
  go_wp2_with fail
  go_ret
  have hfin : { S0 with K := S0.K.set (k * 3) (v0 + 1) } = s.progCut k N RW (bs.take Q) := by
    rw [← HV0.out, HS0.out]
    unfold ChS.progCut ChS.inc
    rw [tick_X]
    rfl
  rw [← hfin]
  exact ⟨rfl, hC, HT⟩
end Go.Proofs.YtkpcohfdcilfcaaGreat
namespace Go.Proofs.YtkpcohfdcilfcaaGreat
open Go.ChangeShapes Go.WideShapes Go.ChangeAt Go.RowKit
theorem cells5 {w : World} {g : Nat} {t : TypeId} {u0 u1 u2 u3 u4 : Value} (h : Blk w g t #[u0, u1, u2, u3, u4]) : w.cell? ⟨g, 0, none⟩ = some u0 ∧ w.cell? ⟨g, 1, none⟩ = some u1 ∧ w.cell? ⟨g, 2, none⟩ = some u2 ∧ w.cell? ⟨g, 3, none⟩ = some u3 ∧ w.cell? ⟨g, 4, none⟩ = some u4 := ⟨h.cell_ 0, h.cell_ 1, h.cell_ 2, h.cell_ 3, h.cell_ 4⟩
def ChS.new (NX NB : Nat) : ChS := ⟨List.replicate NX 255, List.replicate (3 * NB) 0, 0, 0, true, false, 0, 0, 0, 0⟩
theorem infoBlk : (Tryz.prog.info? 112).map (fun i => (i.zero, i.size, i.bytes)) = some (some (.agg #[.int .i64 0, .int .i64 0, .int .i64 0]), 3, 24) := by kernel_rfl
theorem build_oneb (z : Int) (w : World) : (Instr.buildSlice 37 1 #[(0, .int .u8 z)]).run Tryz.prog w = .ok (.slice (some ⟨w.heap.size, 0, none⟩) 1 1) (w.alloc (.cells #[.int .u8 z] 5)) := by kernel_rfl
theorem wp_build1b {w : World} {o : Oper} {a : Act} {K : Act → World → Prop} {Q : Exit → Act → World → Prop} (x : Operand) (hop : o.op = Op.buildSlice 37 1 #[(0, x)])
    (z : Int) (hx : a.eval x = .int .u8 z)
    (hK : ∀ w' b, Blk w' b 5 #[.int .u8 z] → w.heap.size ≤ b → Below w.heap.size w w' → K (a.put o.dst (.slice (some ⟨b, 0, none⟩) 1 1)) w') : Oper.wp Tryz.prog o a w K Q := by
  have hrun := build_oneb z w
  unfold Oper.wp
  simp [execOp, hop, hx, hrun, Result.andThen]
  exact hK _ _ (Blk.new_ _ _ _) (Nat.le_refl _) ((Below.refl _ _).alloc (Nat.le_refl _) _)
theorem own_rowS {w : World} {base n size : Nat} {t : TypeId} {g : Nat} {xs : List Value} (h : w.ownsRow base t size (.slice (some ⟨g, 0, none⟩) n n) n xs) : RowT w g t xs := by
  obtain ⟨hl, h'⟩ := h
  rcases h' with ⟨h0, _⟩ | ⟨g', cap, cur, hv, hb, hh, hnc, _, hsz, ht⟩
  · cases h0
  · cases hv
    refine ⟨cur.toList.drop (n * size), ?_⟩
    unfold Blk
    rw [← ht, List.take_append_drop]
    exact hh
section
variable {P : Program} (w : World)
theorem wp_make {o : Oper} {a : Act} {K : Act → World → Prop} {Q : Exit → Act → World → Prop} (l c : Operand) (t : TypeId) (hop : o.op = Op.makeSlice t l c)
    (base : Nat) (e : TypeId) (i : TypeInfo) (z : Value) (size : Nat) (h1 : P.underlying t = some (.slice e)) (h2 : P.info? e = some i) (h3 : i.zero = some z) (h4 : i.size = size)
    (kl kc : IntKind) (L C : Int) (n : Nat) (hl : a.eval l = .int kl L) (hc : a.eval c = .int kc C) (hL : L = (n : Int)) (hC : C = (n : Int)) (b2 : i.bytes * n ≤ 281474976710656) (b3 : n ≤ maxLen) (b4 : base ≤ w.heap.size)
    (hK : ∀ w', w'.ownsRow base e size (.slice (some ⟨w.heap.size, 0, none⟩) n n) n (madeCells z.cells (n * size)).toList → w.grownBy w' none → K (a.put o.dst (.slice (some ⟨w.heap.size, 0, none⟩) n n)) w') :
    o.wp P a w K Q := by
  obtain ⟨w', hrun, r1, r2⟩ := run_make_full (P := P) w base t e i z size h1 h2 h3 h4 kl kc n b2 b3 b4
  subst hL
  subst hC
  unfold Oper.wp
  simp [execOp, hop, hl, hc, hrun, Result.andThen]
  exact hK w' r1 r2
end
theorem made_ints (n : Nat) : (madeCells (Value.agg #[.int .i64 0, .int .i64 0, .int .i64 0]).cells (n * 3)).toList = List.replicate (3 * n) (Value.int .i64 0) := by
  have hz : ∀ j, (#[Value.int .i64 0, .int .i64 0, .int .i64 0] : Array Value)[j % 3]! = .int .i64 0 := by
    intro j
    have : j % 3 = 0 ∨ j % 3 = 1 ∨ j % 3 = 2 := by omega
    rcases this with h | h | h <;> rw [h] <;> rfl
  have hc : (Value.agg #[.int .i64 0, .int .i64 0, .int .i64 0]).cells = #[Value.int .i64 0, .int .i64 0, .int .i64 0] := rfl
  rw [hc]
  apply List.ext_getElem?
  intro j
  rw [List.getElem?_replicate]
  by_cases hj : j < n * 3
  · rw [if_pos (by omega)]
    have := hz j
    simp only [madeCells, Array.toList_map, List.getElem?_map, Array.toList_range, List.getElem?_range hj, Option.map_some]
    exact congrArg some this
  · rw [if_neg (by omega), List.getElem?_eq_none]
    simp [madeCells]
    omega
theorem wp_makeK {w : World} {o : Oper} {a' : Act} {K : Act → World → Prop} {Q : Exit → Act → World → Prop} (l c : Operand) (hop : o.op = Op.makeSlice 79 l c)
    (a : Int) (NB : Nat) (hl : a'.eval l = .int .i64 a) (hc : a'.eval c = .int .i64 a) (hNB : (NB : Int) = a) (hb : NB ≤ 1000)
    (hK : ∀ w' g, RowT w' g 112 (List.replicate (3 * NB) (Value.int .i64 0)) → w.heap.size ≤ g → Below w.heap.size w w' → K (a'.put o.dst (.slice (some ⟨g, 0, none⟩) NB NB)) w') : Oper.wp Tryz.prog o a' w K Q := by
  obtain ⟨ti0, hi, hz0, hz1, hz2⟩ := info_parts infoBlk
  refine wp_make w l c 79 hop w.heap.size 112 ti0 _ 3 Tryz.underlying79 hi hz0 hz1 .i64 .i64 a a NB hl hc hNB.symm hNB.symm (by rw [hz2]; omega) (by unfold maxLen; omega) (Nat.le_refl _) ?_
  intro w' hown hgrow
  rw [made_ints] at hown
  exact hK w' _ (own_rowS hown) (Nat.le_refl _) ((Below.refl _ _).grown hgrow (Nat.le_refl _) (fun k h => by cases h))
theorem rptB_b (v : Int) (b n : Nat) (w : World) (hB : Blk w b 5 #[.int .u8 v]) (n1 : 1 ≤ n) (n2 : n ≤ 100000) :
    Calls Tryz.prog 69 #[.slice (some ⟨b, 0, none⟩) 1 1, .int .i64 (n : Int)] w fun e' w' => ∃ g, e' = .returned (.slice (some ⟨g, 0, none⟩) n n) ∧ w.heap.size ≤ g ∧ RowT w' g 5 (List.replicate n (.int .u8 v)) ∧ Below w.heap.size w w' :=
  rptB_any v b n w (hB.cell_ 0) hB.lt n1 n2
end Go.Proofs.YtkpcohfdcilfcaaGreat
namespace Go.Proofs.YtkpcohfdcilfcaaGreat
open Go.ChangeShapes Go.WideShapes Go.ChangeAt Go.RowKit
attribute [local go_sem ↓] Go.wp_at_zero Go.wp_at_succ
theorem geometry_any (m gx gb : Nat) (Af : Option Addr) (nf cf : Nat) (a b c d e : Int) (fs : List Flt) (w : World) (s : ChS) (hC : ChipW w m gx gb Af nf cf a b c d e fs s) : Calls Tryz.prog 51 #[.pointer (some ⟨m, 0, none⟩)] w fun e' w' => e' = .returned (.agg #[.int .i64 a, .int .i64 b, .int .i64 c, .int .i64 d, .int .i64 e]) ∧ Below w.heap.size w w' := by
  obtain ⟨cx, cb, NX, NB, hX, hN, hcx, hB⟩ := hC.blk
  have hB := hB.alloc_ (.cells #[.int .i64 0, .int .i64 0, .int .i64 0, .int .i64 0, .int .i64 0] 23)
  have HB0 : Below w.heap.size w (w.alloc (.cells #[.int .i64 0, .int .i64 0, .int .i64 0, .int .i64 0, .int .i64 0] 23)) := (Below.refl _ _).alloc (Nat.le_refl _) _
  have y0 := hB.cell_ 0; have y1 := hB.cell_ 1; have y2 := hB.cell_ 2; have y3 := hB.cell_ 3; have y4 := hB.cell_ 4
  simp at y0 y1 y2 y3 y4
  clear hC hB hX hN hcx
  go_enter Tryz.func51, Tryz.ntmps51
  go_wp2_with fail
  refine bodyPost_ret (v := .agg #[.int .i64 a, .int .i64 b, .int .i64 c, .int .i64 d, .int .i64 e]) (by simp [results, Tryz.results51, go_sem]) rfl ⟨rfl, ?_⟩
  exact (Below.refl _ _).alloc (Nat.le_refl _) _
theorem infoChg : (Tryz.prog.info? 88).map (fun i => (i.zero, i.size, i.bytes)) = some (some (.agg #[.int .i64 0, .slice none 0 0]), 2, 32) := by kernel_rfl
theorem made_chg (n : Nat) : (madeCells (Value.agg #[.int .i64 0, .slice none 0 0]).cells (n * 2)).toList = wtV (List.replicate n ⟨0, []⟩) (List.replicate n (none, 0)) := by
  have hz : ∀ j, (#[Value.int .i64 0, .slice none 0 0] : Array Value)[j % 2]! = if j % 2 = 0 then .int .i64 0 else .slice none 0 0 := by
    intro j
    have : j % 2 = 0 ∨ j % 2 = 1 := by omega
    rcases this with h | h <;> rw [h] <;> rfl
  have e : wtV (List.replicate n ⟨0, []⟩) (List.replicate n (none, 0)) = (List.replicate n [Value.int .i64 0, .slice none 0 0]).flatten := by
    unfold wtV
    rw [List.zipWith_replicate, Nat.min_self]
    rfl
  rw [e]
  apply List.ext_getElem?
  intro j
  by_cases hj : j < n * 2
  · have h1 : (madeCells (Value.agg #[.int .i64 0, .slice none 0 0]).cells (n * 2)).toList[j]? = some (if j % 2 = 0 then .int .i64 0 else .slice none 0 0) := by
      simp [madeCells, Value.cells, hj, hz]
    rw [h1]
    have h2 : ∀ (n j : Nat), j < n * 2 → ((List.replicate n [Value.int .i64 0, .slice none 0 0]).flatten)[j]? = some (if j % 2 = 0 then .int .i64 0 else .slice none 0 0) := by
      intro n
      induction n with
      | zero => intro j h; omega
      | succ n ih =>
        intro j h
        rw [List.replicate_succ, List.flatten_cons]
        match j, h with
        | 0, _ => rfl
        | 1, _ => rfl
        | j + 2, h =>
          have := ih j (by omega)
          simp only [List.cons_append, List.nil_append, List.getElem?_cons_succ]
          rw [this]
          simp
    rw [h2 n j hj]
  · rw [List.getElem?_eq_none (by simp [madeCells]; omega), List.getElem?_eq_none (by simp; omega)]
theorem box_fl (a b c d e cu : Int) (m km fr : Nat) (w : World) : (Instr.box 86 (.agg #[.pointer (some ⟨m, 0, none⟩), .int .i64 a, .int .i64 b, .int .i64 c, .int .i64 d, .int .i64 e, .int .i64 cu, .bool false, .int .i64 0, .int .i64 0, .pointer (some ⟨km, 0, none⟩), .slice none 0 0, .pointer (some ⟨fr, 0, none⟩), .int .i64 0, .int .i64 0, .bool false, .slice none 0 0, .slice none 0 0])).run Tryz.prog w = .ok (.pointer (some ⟨w.heap.size, 0, none⟩)) (w.alloc (.cells #[.pointer (some ⟨m, 0, none⟩), .int .i64 a, .int .i64 b, .int .i64 c, .int .i64 d, .int .i64 e, .int .i64 cu, .bool false, .int .i64 0, .int .i64 0, .pointer (some ⟨km, 0, none⟩), .slice none 0 0, .pointer (some ⟨fr, 0, none⟩), .int .i64 0, .int .i64 0, .bool false, .slice none 0 0, .slice none 0 0] 86)) := by kernel_rfl
theorem wp_boxFl {w : World} {o : Oper} {a' : Act} {K : Act → World → Prop} {Q : Exit → Act → World → Prop} (x : Operand) (hop : o.op = Op.box 86 x)
    (a b c d e cu : Int) {m km fr : Nat} (hx : a'.eval x = .agg #[.pointer (some ⟨m, 0, none⟩), .int .i64 a, .int .i64 b, .int .i64 c, .int .i64 d, .int .i64 e, .int .i64 cu, .bool false, .int .i64 0, .int .i64 0, .pointer (some ⟨km, 0, none⟩), .slice none 0 0, .pointer (some ⟨fr, 0, none⟩), .int .i64 0, .int .i64 0, .bool false, .slice none 0 0, .slice none 0 0])
    (hK : ∀ w' g, Blk w' g 86 #[.pointer (some ⟨m, 0, none⟩), .int .i64 a, .int .i64 b, .int .i64 c, .int .i64 d, .int .i64 e, .int .i64 cu, .bool false, .int .i64 0, .int .i64 0, .pointer (some ⟨km, 0, none⟩), .slice none 0 0, .pointer (some ⟨fr, 0, none⟩), .int .i64 0, .int .i64 0, .bool false, .slice none 0 0, .slice none 0 0] → w.heap.size ≤ g → Below w.heap.size w w' → K (a'.put o.dst (.pointer (some ⟨g, 0, none⟩))) w') : Oper.wp Tryz.prog o a' w K Q := by
  have hrun := box_fl a b c d e cu m km fr w
  unfold Oper.wp
  simp [execOp, hop, hx, hrun, Result.andThen]
  exact hK _ _ (Blk.new_ _ _ _) (Nat.le_refl _) ((Below.refl _ _).alloc (Nat.le_refl _) _)
end Go.Proofs.YtkpcohfdcilfcaaGreat
