/- WearErases: the walk. -/
import Derived.Test.YtlingchcfdielaaWearC
import Derived.Test.YtlingchcfdielaaWearM
import Derived.Test.YtlingchcfdielaaWearTells
import Derived.Test.YtlingchcfdielaaSl2
import Derived.Deep.AppendLies
import Derived.Laws.OwnMore
import Derived.Deep.RegionHeld3
import Derived.Deep.DrawnRows
import Derived.Deep.DeepCutAuto
namespace Go.Proofs.Ytlingchcfdielaa
open Go.ChangeShapes Go.WideShapes Go.ChangeAt Go.RowKit
attribute [local go_sem ↓] Go.wp_at_zero Go.wp_at_succ

theorem we_long (A1 : Option Addr) (c1 : Nat) (xs : List Int) (A2 : Option Addr) (c2 : Nat) (good : List Bool) (w : World) (hl : 40 < xs.length ∨ 40 < good.length) :
    Calls Try.prog 4 #[.slice A1 xs.length c1, .slice A2 good.length c2] w fun e' w' => e' = .returned (.bool true) ∧ Below w.heap.size w w' := by
  by_cases hg1 : 40 < xs.length
  · have g1 : (40 : Int) < (xs.length : Int) := by omega
    clear hl
    go_enter Try.func4, Try.ntmps4
    go_wp2_with (go_at_call 6; refine (awake_any _).mono ?_; rintro e' w2 ⟨rfl, hb2⟩)
    go_ret
    exact ⟨rfl, hb2⟩
  · have g1 : ¬ (40 : Int) < (xs.length : Int) := by omega
    have g2 : (40 : Int) < (good.length : Int) := by omega
    clear hl
    go_enter Try.func4, Try.ntmps4
    go_wp2_with (go_at_call 6; refine (awake_any _).mono ?_; rintro e' w2 ⟨rfl, hb2⟩)
    go_ret
    exact ⟨rfl, hb2⟩

set_option maxRecDepth 100000 in
set_option maxHeartbeats 4000000 in
theorem we_none (A1 : Option Addr) (c1 : Nat) (xs : List Int) (A2 : Option Addr) (c2 : Nat) (good : List Bool) (w : World)
    (h1 : Sl w w.heap.size A1 (xs.map (Value.int .i64))) (h2 : Sl w w.heap.size A2 (good.map Value.bool))
    (hg1 : ¬ 40 < xs.length) (hg2 : ¬ 40 < good.length) (hn : ext (lowL 1073741824 xs) good 1 (mlen (lowL 1073741824 xs) good) < 0) :
    Calls Try.prog 4 #[.slice A1 xs.length c1, .slice A2 good.length c2] w fun e' w' => e' = .returned (.bool true) ∧ Below w.heap.size w w' := by
  have g1 : ¬ (40 : Int) < (xs.length : Int) := by omega
  have g2 : ¬ (40 : Int) < (good.length : Int) := by omega
  have n2 : good.length ≤ 1000000 := by omega
  have n0 : xs.length ≤ 1000000 := by omega
  have E1 : leastI (lowL 1073741824 xs) good = -1 := by
    have := ext_bd (lowL 1073741824 xs) good 1 (mlen (lowL 1073741824 xs) good)
    unfold leastI
    omega
  have E2 : mostI (lowL 1073741824 xs) good = -1 := by
    have := ext_bd (lowL 1073741824 xs) good (-1) (mlen (lowL 1073741824 xs) good)
    have := (ext_set_neg (lowL 1073741824 xs) (lowL 1073741824 xs) good 1 (-1) (mlen (lowL 1073741824 xs) good)).1 hn
    unfold mostI
    omega
  have E3 : spreadI (lowL 1073741824 xs) good = 0 := by unfold spreadI; rw [if_pos hn]
  have E1 := Lib.hid E1
  have E2 := Lib.hid E2
  have E3 := Lib.hid E3
  clear hn
  go_enter Try.func4, Try.ntmps4
  go_wp2_with (first
    | (go_at_call 7; refine (low_list xs A1 c1 _ h1 n0).mono ?_; rintro e' w1 ⟨ws, A3, c3, hws, rfl, H1, HB⟩; have H2 := h2.next HB; have n1 : ws.length ≤ 1000000 := (by { rw [hws]; simp [lowL]; omega }); have hw : ∀ z ∈ ws, 0 ≤ z ∧ z ≤ 2147483648 := (by { intro z hz; rw [hws] at hz; have := lowL_bd (by omega) hz; omega }); have hwt : ∀ z ∈ ws, 0 ≤ z ∧ z ≤ 1073741824 := (by { intro z hz; rw [hws] at hz; have := lowL_bd (by omega) hz; omega }); rw [← hws] at E1 E2 E3; clear hws)
    | (go_at_call 10; refine (Least_any _ _ _ _ _ _ _ H1 H2 n1 n2 hw).mono ?_; rw [E1.out]; rintro e' w1 ⟨rfl, hb1⟩; have H1 := H1.next hb1; have H2 := H2.next hb1; have HB := btr HB HB.size hb1; clear hb1)
    | (go_at_call 12; refine (Most_any _ _ _ _ _ _ _ H1 H2 n1 n2 hw).mono ?_; rw [E2.out]; rintro e' w1 ⟨rfl, hb1⟩; have H1 := H1.next hb1; have H2 := H2.next hb1; have HB := btr HB HB.size hb1; clear hb1)
    | (go_at_call 8; refine (Spread_any _ _ _ _ _ _ _ H1 H2 n1 n2 hw).mono ?_; rw [E3.out]; rintro e' w1 ⟨rfl, hb1⟩; have H1 := H1.next hb1; have H2 := H2.next hb1; have HB := btr HB HB.size hb1; clear hb1)
    | (go_at_call 6; refine (awake_any _).mono ?_; rintro e' w2 ⟨rfl, hb2⟩))
  go_ret
  exact ⟨rfl, btr HB HB.size hb2⟩

theorem spread_of_ge (ws : List Int) (good : List Bool) : 0 ≤ spreadI ws good := by
  by_cases h : ext ws good 1 (mlen ws good) < 0
  · unfold spreadI
    rw [if_pos h]
    omega
  · obtain ⟨p, x, _, hx, _, gx, _, _⟩ := spread_of h
    have := p x x hx hx gx gx
    omega

theorem Spread_len (ws : List Int) (n : Nat) (hl : ws.length = n) (good : List Bool) (A1 A2 : Option Addr) (c1 c2 : Nat) (w : World)
    (h1 : Sl w w.heap.size A1 (ws.map (Value.int .i64))) (h2 : Sl w w.heap.size A2 (good.map Value.bool)) (n1 : n ≤ 1000000) (n2 : good.length ≤ 1000000) (hw : ∀ z ∈ ws, 0 ≤ z ∧ z ≤ 2147483648) :
    Calls Try.prog 8 #[.slice A1 n c1, .slice A2 good.length c2] w fun e w' => e = .returned (.int .i64 (spreadI ws good)) ∧ Below w.heap.size w w' := by
  subst hl
  exact Spread_any ws good A1 A2 c1 c2 w h1 h2 n1 n2 hw

set_option maxRecDepth 100000 in
set_option maxHeartbeats 8000000 in
theorem we_some (A1 : Option Addr) (c1 : Nat) (xs : List Int) (A2 : Option Addr) (c2 : Nat) (good : List Bool) (w : World)
    (h1 : Sl w w.heap.size A1 (xs.map (Value.int .i64))) (h2 : Sl w w.heap.size A2 (good.map Value.bool))
    (hg1 : ¬ 40 < xs.length) (hg2 : ¬ 40 < good.length) (hn : ¬ ext (lowL 1073741824 xs) good 1 (mlen (lowL 1073741824 xs) good) < 0) :
    Calls Try.prog 4 #[.slice A1 xs.length c1, .slice A2 good.length c2] w fun e' w' => e' = .returned (.bool true) ∧ Below w.heap.size w w' := by
  have g1 : ¬ (40 : Int) < (xs.length : Int) := by omega
  have g2 : ¬ (40 : Int) < (good.length : Int) := by omega
  have n2 : good.length ≤ 1000000 := by omega
  have n0 : xs.length ≤ 1000000 := by omega
  have hlen : (lowL 1073741824 xs).length ≤ 40 := by simp [lowL]; omega
  obtain ⟨j1, j2, hj1, hj2, k1, k2, hs⟩ := wear_idx hn
  have F1 := erase_least hj1
  have F2 : 2 ≤ cnt good (mlen (lowL 1073741824 xs) good) → _ := fun h => erase_most hj2 h
  have F3 : cnt good (mlen (lowL 1073741824 xs) good) < 2 → spreadI ((lowL 1073741824 xs).set j2 ((lowL 1073741824 xs).getD j2 0 + 1)) good = 0 := fun h => spread_few (by rw [mlen_set]; exact h)
  have F4 := ext_best (lowL 1073741824 xs) good 1 _ hn
  have F5 := ext_best (lowL 1073741824 xs) good (-1) _ (fun h => hn ((ext_set_neg _ _ good 1 (-1) _).2 h))
  rw [hj1] at F4
  rw [hj2] at F5
  simp only [Int.toNat_natCast] at F4 F5
  have J1 : Hid (leastI (lowL 1073741824 xs) good = (j1 : Int)) := hj1
  have J2 : Hid (mostI (lowL 1073741824 xs) good = (j2 : Int)) := hj2
  have J3 := Lib.hid hs
  have F1 := Lib.hid F1
  have F2 := Lib.hid F2
  have F3 := Lib.hid F3
  have F4 := Lib.hid F4.2
  have F5 := Lib.hid F5.2
  clear hn hj1 hj2 hs
  obtain ⟨i0, hi, hz0, hz1, hz2⟩ := info_parts infoInt
  go_enter Try.func4, Try.ntmps4
  go_upto_region 8 with (first
    | (go_at_call 7; refine (low_list xs A1 c1 _ h1 n0).mono ?_; rintro e' w1 ⟨ws, A3, c3, hws, rfl, H1, HB⟩; have H2 := h2.next HB; have n1 : ws.length ≤ 1000000 := (by { rw [hws]; simp [lowL]; omega }); have hw : ∀ z ∈ ws, 0 ≤ z ∧ z ≤ 2147483648 := (by { intro z hz; rw [hws] at hz; have := lowL_bd (by omega) hz; omega }); have hwt : ∀ z ∈ ws, 0 ≤ z ∧ z ≤ 1073741824 := (by { intro z hz; rw [hws] at hz; have := lowL_bd (by omega) hz; omega }); rw [← hws] at J1 J2 J3 F1 F2 F3 F4 F5 k1 k2 hlen; clear hws; obtain ⟨z1, hz1'⟩ : ∃ z, ws.getD j1 0 = z := ⟨_, rfl⟩; obtain ⟨z2, hz2'⟩ : ∃ z, ws.getD j2 0 = z := ⟨_, rfl⟩; rw [hz1'] at F1; rw [hz2'] at F2 F3; rw [hz1', hz2'] at J3; rw [hz1'] at F4; rw [hz2'] at F5; have Z1 := Lib.hid hz1'; have Z2 := Lib.hid hz2'; have ZZ1 := Lib.hid hz1'; have ZZ2 := Lib.hid hz2'; clear hz1' hz2')
    | (go_at_call 10; refine (Least_any _ _ _ _ _ _ _ H1 H2 n1 n2 hw).mono ?_; rw [J1.out]; rintro e' w1 ⟨rfl, hb1⟩; have H1 := H1.next hb1; have H2 := H2.next hb1; have HB := btr HB HB.size hb1; clear hb1)
    | (go_at_call 12; refine (Most_any _ _ _ _ _ _ _ H1 H2 n1 n2 hw).mono ?_; rw [J2.out]; rintro e' w1 ⟨rfl, hb1⟩; have H1 := H1.next hb1; have H2 := H2.next hb1; have HB := btr HB HB.size hb1; clear hb1)
    | (go_at_call 8; refine (Spread_any _ _ _ _ _ _ _ H1 H2 n1 n2 hw).mono ?_; rw [J3.out]; rintro e' w1 ⟨rfl, hb1⟩; have H1 := H1.next hb1; have H2 := H2.next hb1; have HB := btr HB HB.size hb1; clear hb1))
  have h0 : 0 < ws.length := by omega
  obtain ⟨b1, o1, rfl, l1, q1⟩ := H1.at_ (by simpa using h0)
  have Q1 := Lib.hid q1
  clear q1
  go_cut [8] (fun s8 wx => ∃ g cap, s8 = .slice (some ⟨g, 0, none⟩) ws.length cap ∧ wx.ownsRow w1.heap.size 3 1 (.slice (some ⟨g, 0, none⟩) ws.length cap) ws.length (ws.map (Value.int .i64)) ∧ Below w1.heap.size w1 wx)
  case first =>
    go_wp2_with (at_builtin; refine wpList_append_lies _ rfl _ _ 22 rfl w1.heap.size 3 i0 (.int .i64 0) 1 8 Try.underlying22 hi hz0 hz1 hz2 rfl (by decide) (.slice none 0 0) 0 [] rfl (World.ownsRow_nil _ _ _ _) ⟨b1, o1, none⟩ ws.length c3 (ws.map (Value.int .i64)) rfl (by simp) (fun j u hu => by rw [add_plain]; exact Q1.out j u hu) (fun u hu => by obtain ⟨z, _, rfl⟩ := List.mem_map.1 hu; rfl) (by omega) (by unfold maxLen; omega) (by omega) (Nat.le_refl _) _ rfl ?_; intro g cap w5 hown hgrow _ hlt)
    go_meet
    exact ⟨g, cap, by simp, by simpa using hown, (Below.refl _ _).grown hgrow (Nat.le_refl _) (by simp [Value.ownBlock])⟩
  case rest =>
    obtain ⟨ga, ca, rfl, hown, hb5⟩ := hcut
    obtain ⟨wA, rfl⟩ : ∃ W : World, W = wc := ⟨_, rfl⟩
    have B1 := hw _ (getD_mem k1)
    have B2 := hw _ (getD_mem k2)
    rw [ZZ1.out] at B1
    rw [ZZ2.out] at B2
    have va : wA.cell? ⟨ga, j1, none⟩ = some (.int .i64 z1) := by
      rw [hown.cellAt j1 (by omega), ← ZZ1.out]
      simp [k1]
    have fa : wA.frozen? ⟨ga, j1, none⟩ = false := hown.frozenAt j1
    have i1 : (0 : Int) ≤ (j1 : Int) := by omega
    have i2 : (j1 : Int) < (ws.length : Int) := by omega
    have i3 : (0 : Int) ≤ (j2 : Int) := by omega
    have i4 : (j2 : Int) < (ws.length : Int) := by omega
    go_upto_region 9 with fail
    go_cut [] (fun wx => wx.ownsRow w1.heap.size 3 1 (.slice (some ⟨ga, 0, none⟩) ws.length ca) ws.length ((ws.set j1 (z1 + 1)).map (Value.int .i64)) ∧ Below w1.heap.size w1 wx)
    case first =>
      go_wp2
      go_meet
      have hs := hown.stored j1 (.int .i64 (z1 + 1))
      exact ⟨by rw [List.map_set]; exact hs.1, hb5.grown hs.2 hb5.size (fun k hk => by cases hk; exact (hown.lt ga rfl).1)⟩
    case rest =>
      clear va fa hown hb5
      obtain ⟨hown, hb5⟩ := hcut
      obtain ⟨wA2, rfl⟩ : ∃ W : World, W = wc := ⟨_, rfl⟩
      have Ha := Sl.of_own hown
      have H1 := (H1.below hb5).mono hb5.size
      have H2 := (H2.below hb5).mono hb5.size
      have HB := btr HB HB.size hb5
      clear hown hb5 Q1
      obtain ⟨b1', o1', hA, l1, q1⟩ := H1.at_ (by simpa using h0)
      cases hA
      have Q1 := Lib.hid q1
      clear q1
      go_upto_region 10 with fail
      go_cut [9] (fun s8 wx => ∃ g cap, s8 = .slice (some ⟨g, 0, none⟩) ws.length cap ∧ wx.ownsRow wA2.heap.size 3 1 (.slice (some ⟨g, 0, none⟩) ws.length cap) ws.length (ws.map (Value.int .i64)) ∧ Below wA2.heap.size wA2 wx)
      case first =>
        go_wp2_with (at_builtin; refine wpList_append_lies _ rfl _ _ 22 rfl wA2.heap.size 3 i0 (.int .i64 0) 1 8 Try.underlying22 hi hz0 hz1 hz2 rfl (by decide) (.slice none 0 0) 0 [] rfl (World.ownsRow_nil _ _ _ _) ⟨b1, o1, none⟩ ws.length c3 (ws.map (Value.int .i64)) rfl (by simp) (fun j u hu => by rw [add_plain]; exact Q1.out j u hu) (fun u hu => by obtain ⟨z, _, rfl⟩ := List.mem_map.1 hu; rfl) (by omega) (by unfold maxLen; omega) (by omega) (Nat.le_refl _) _ rfl ?_; intro g cap w5 hown hgrow _ hlt)
        go_meet
        exact ⟨g, cap, by simp, by simpa using hown, (Below.refl _ _).grown hgrow (Nat.le_refl _) (by simp [Value.ownBlock])⟩
      case rest =>
        obtain ⟨gb, cb, rfl, hown, hb5⟩ := hcut
        obtain ⟨wB, rfl⟩ : ∃ W : World, W = wc := ⟨_, rfl⟩
        have va : wB.cell? ⟨gb, j2, none⟩ = some (.int .i64 z2) := by
          rw [hown.cellAt j2 (by omega), ← Z2.out]
          simp [k2]
        have fa : wB.frozen? ⟨gb, j2, none⟩ = false := hown.frozenAt j2
        go_upto_region 11 with fail
        go_cut [] (fun wx => wx.ownsRow wA2.heap.size 3 1 (.slice (some ⟨gb, 0, none⟩) ws.length cb) ws.length ((ws.set j2 (z2 + 1)).map (Value.int .i64)) ∧ Below wA2.heap.size wA2 wx)
        case first =>
          go_wp2
          go_meet
          have hs := hown.stored j2 (.int .i64 (z2 + 1))
          exact ⟨by rw [List.map_set]; exact hs.1, hb5.grown hs.2 hb5.size (fun k hk => by cases hk; exact (hown.lt gb rfl).1)⟩
        case rest =>
          clear va fa hown hb5
          obtain ⟨hown, hb5⟩ := hcut
          obtain ⟨wC, rfl⟩ : ∃ W : World, W = wc := ⟨_, rfl⟩
          have Hb := Sl.of_own hown
          have Ha := (Ha.below hb5).mono hb5.size
          have H1 := (H1.below hb5).mono hb5.size
          have H2 := (H2.below hb5).mono hb5.size
          have HB := btr HB HB.size hb5
          clear hown hb5 Q1
          have WT := Lib.hid hwt
          have HW := Lib.hid hw
          clear hwt hw i0 hi hz0 hz1 hz2 Z1 Z2
          obtain ⟨b1', o1', hA, l1, q1⟩ := H1.at_ (by simpa using h0)
          cases hA
          have Q1 := Lib.hid q1
          clear q1
          have v1 : wC.cell? ⟨b1, o1 + j1, none⟩ = some (.int .i64 z1) := by
            have := getD_cell Q1.out k1
            rwa [ZZ1.out] at this
          have v2 : wC.cell? ⟨b1, o1 + j2, none⟩ = some (.int .i64 z2) := by
            have := getD_cell Q1.out k2
            rwa [ZZ2.out] at this
          go_wp2
          have M1 : Hid (mlen ws good ≤ ws.length ∧ mlen ws good ≤ good.length) := by
            show _ ∧ _
            unfold mlen
            omega
          have M2 : Hid (ws.length ≤ mlen ws good ∨ good.length ≤ mlen ws good) := by
            show _ ∨ _
            unfold mlen
            omega
          obtain ⟨m, hm⟩ : ∃ m, mlen ws good = m := ⟨_, rfl⟩
          rw [hm] at M1 M2 F2 F3 F4 F5
          have MM := Lib.hid hm
          clear hm
          go_loopw [10, 11] (fun a i wr => ∃ k : Nat, k ≤ m ∧ i = .int .i64 k ∧ a = .int .i64 (cnt good k) ∧ Below wC.heap.size wC wr) (fun _ i _ => m - (intOf i).toNat)
          case atStart => exact ⟨0, Nat.zero_le _, rfl, rfl, Below.refl _ _⟩
          case round =>
            obtain ⟨k, hk, rfl, rfl, hBr⟩ := hrel
            by_cases hlt : k < m
            · have hm1 := M1.out
              have hk1 : k < ws.length := by omega
              have hk2 : k < good.length := by omega
              obtain ⟨b2, o2, hA2, l2, q2⟩ := (H2.below hBr).at_ (by simpa using (by omega : 0 < good.length))
              subst hA2
              obtain ⟨g, hg⟩ : ∃ g, good.getD k false = g := ⟨_, rfl⟩
              have cg : wr.cell? ⟨b2, o2 + k, none⟩ = some (.bool g) := q2 k _ (by rw [← hg]; simp [hk2])
              obtain ⟨zk, hzk⟩ : ∃ z, ws.getD k 0 = z := ⟨_, rfl⟩
              have ck : wr.cell? ⟨b1, o1 + k, none⟩ = some (.int .i64 zk) := by
                have := (hBr.cell (p := ⟨b1, o1 + k, none⟩) l1).trans (getD_cell Q1.out hk1)
                rwa [hzk] at this
              have u1 : wr.cell? ⟨b1, o1 + j1, none⟩ = some (.int .i64 z1) := (hBr.cell (p := ⟨b1, o1 + j1, none⟩) l1).trans v1
              have u2 : wr.cell? ⟨b1, o1 + j2, none⟩ = some (.int .i64 z2) := (hBr.cell (p := ⟨b1, o1 + j2, none⟩) l1).trans v2
              have y1 : (0 : Int) ≤ (k : Int) := by omega
              have y2 : (k : Int) < (ws.length : Int) := by omega
              have y3 : (k : Int) < (good.length : Int) := by omega
              have ec := cnt_le good k
              obtain ⟨c, hc⟩ : ∃ x, cnt good k = x := ⟨_, rfl⟩
              rw [hc] at ec ⊢
              have y4 : (0 : Int) ≤ (c : Int) := by omega
              have y5 : (c : Int) ≤ 1000000 := by omega
              have a2 : cnt good (k + 1) = c + if g = true then 1 else 0 := by unfold cnt; rw [hg, hc]
              have A2' := Lib.hid a2
              have Hr : Hid (g = true → 1 * z1 ≤ 1 * zk ∧ -1 * z2 ≤ -1 * zk) := fun h => by
                have p1 := F4.out k hlt (hg.trans h)
                have p2 := F5.out k hlt (hg.trans h)
                rw [hzk] at p1 p2
                exact ⟨p1, p2⟩
              clear q2 hg hzk hc a2 hm1
              by_cases hmin : ws.length ≤ good.length
              all_goals
                cases g
                · go_wp2
                  go_roundw
                  case rel => exact ⟨k + 1, by omega, by go_num, by rw [A2'.out]; simp, hBr⟩
                  case measure => simp [intOf]; omega
                · have hr := Hr.out rfl
                  have d1 : decide (zk < z1) = false := by simp; omega
                  have d2 : decide (z2 < zk) = false := by simp; omega
                  clear hr
                  go_wp2
                  go_quiet (fail)
                  go_wp2
                  go_roundw
                  case rel => exact ⟨k + 1, by omega, by go_num, by rw [A2'.out]; simp, below_dn hBr _⟩
                  case measure => simp [intOf]; omega
            · have hk' : k = m := by omega
              subst hk'
              have hm2 := M2.out
              have HB := btr HB HB.size hBr
              have H1 := H1.next hBr
              have H2 := H2.next hBr
              have Ha := Ha.next hBr
              have Hb := Hb.next hBr
              have u1 : wr.cell? ⟨b1, o1 + j1, none⟩ = some (.int .i64 z1) := (hBr.cell (p := ⟨b1, o1 + j1, none⟩) l1).trans v1
              have u2 : wr.cell? ⟨b1, o1 + j2, none⟩ = some (.int .i64 z2) := (hBr.cell (p := ⟨b1, o1 + j2, none⟩) l1).trans v2
              have l1' : b1 < wr.heap.size := by have := hBr.size; omega
              have hsa : ∃ x, spreadI (ws.set j1 (z1 + 1)) good = x := ⟨_, rfl⟩
              obtain ⟨sa, hsa⟩ := hsa
              have hsb : ∃ x, spreadI (ws.set j2 (z2 + 1)) good = x := ⟨_, rfl⟩
              obtain ⟨sb, hsb⟩ := hsb
              have f1 := F1.out
              have f2 := F2.out
              have f3 := F3.out
              have j3 := J3.out
              rw [hsa, j3] at f1
              rw [hsb, j3] at f2
              rw [hsb] at f3
              have hfew : cnt good k < 2 → z2 - z1 = 0 := fun h => by
                rw [← j3]
                exact spread_few (by rw [MM.out]; exact h)
              obtain ⟨c, hc⟩ : ∃ x, cnt good k = x := ⟨_, rfl⟩
              rw [hc] at f2 f3 hfew ⊢
              have SA := Lib.hid hsa
              have SB := Lib.hid hsb
              have ec : c ≤ 1000000 := by have := cnt_le good k; have := M1.out; omega
              have wsa : ∀ z ∈ ws.set j1 (z1 + 1), 0 ≤ z ∧ z ≤ 2147483648 := fun z hz => by
                rcases List.mem_or_eq_of_mem_set hz with h | h
                · have := WT.out z h; omega
                · have := WT.out z1 (by rw [← ZZ1.out]; exact getD_mem k1); omega
              have wsb : ∀ z ∈ ws.set j2 (z2 + 1), 0 ≤ z ∧ z ≤ 2147483648 := fun z hz => by
                rcases List.mem_or_eq_of_mem_set hz with h | h
                · have := WT.out z h; omega
                · have := WT.out z2 (by rw [← ZZ2.out]; exact getD_mem k2); omega
              have WA := Lib.hid wsa
              have WB := Lib.hid wsb
              have s1 : IntKind.i64.wrap (z2 - z1) = z2 - z1 := IntWalk.i64_in _ (by omega)
              have s2 : IntKind.i64.wrap (z2 - z1 + 1) = z2 - z1 + 1 := IntWalk.i64_in _ (by omega)
              have hge : 0 ≤ z2 - z1 := by
                have p := spread_of_ge ws good
                rw [j3] at p
                exact p
              clear hsa hsb hc j3 hBr v1 v2
              by_cases hmin : ws.length ≤ good.length
              all_goals
                have hx : ¬ ((k : Int) < (min ws.length good.length : Nat)) := by omega
                by_cases hc2 : c < 2
                · have t1 : ((c : Int) < 2) := by omega
                  have t2 : sb = 0 := f3 hc2
                  have t3 := hfew hc2
                  have t4 : z2 - z1 ≤ 0 := by omega
                  have t5 : sa ≤ 1 := by omega
                  have SB' : Hid (spreadI (ws.set j2 (z2 + 1)) good = 0) := SB.out.trans t2
                  clear t2 t3 f1 f2 f3 hfew hc2 SB
                  go_wp2
                  refine wp_region_noPanic ?_
                  refine wp_region_held_drew (S := (fun w' => Below w.heap.size w w' ∧ wr.heap.size ≤ w'.heap.size ∧ ∀ (k o : Nat), k < wr.heap.size → w'.cell? ⟨k, o, none⟩ = wr.cell? ⟨k, o, none⟩)) (by kernel_rfl) ?_ (fun hHeld => ?_)
                  · (first | exact ⟨HB.drew, by simp, by simp⟩ | exact kept_step (by assumption) hb3)
                  refine wpAnyH_take (i := 0) (oi := { dst := some 116, op := Op.move (Operand.tmp 7), type := 3, pos := "law.go:58", after := #[], guard := none }) (v := ?_) rfl (by kernel_rfl) (by kernel_rfl) (by kernel_rfl) (fun _ _ _ h => h) (Or.inl ⟨by rfl, ?_⟩) (by assumption) ?_
                  rotate_left
                  · (intro wS hSw; (try dsimp only at hSw); go_simp; (try with_reducible rfl))
                  try simp only [Act.put, List.setIfInBounds_toArray, List.set_cons_zero, List.set_cons_succ]
                  refine wpAnyH_take (i := 1) (oi := { dst := some 117, op := Op.move (Operand.tmp 0), type := 22, pos := "law.go:58", after := #[], guard := none }) (v := ?_) rfl (by kernel_rfl) (by kernel_rfl) (by kernel_rfl) (fun _ _ _ h => h) (Or.inl ⟨by rfl, ?_⟩) (by assumption) ?_
                  rotate_left
                  · (intro wS hSw; (try dsimp only at hSw); go_simp; (try with_reducible rfl))
                  try simp only [Act.put, List.setIfInBounds_toArray, List.set_cons_zero, List.set_cons_succ]
                  refine wpAnyH_take (i := 2) (oi := { dst := some 118, op := Op.move (Operand.tmp 6), type := 3, pos := "law.go:58", after := #[], guard := none }) (v := ?_) rfl (by kernel_rfl) (by kernel_rfl) (by kernel_rfl) (fun _ _ _ h => h) (Or.inl ⟨by rfl, ?_⟩) (by assumption) ?_
                  rotate_left
                  · (intro wS hSw; (try dsimp only at hSw); go_simp; (try with_reducible rfl))
                  try simp only [Act.put, List.setIfInBounds_toArray, List.set_cons_zero, List.set_cons_succ]
                  refine wpAnyH_take (i := 3) (oi := { dst := some 119, op := Op.indexAddr 22 (Operand.tmp 117) (Operand.tmp 118), type := 0, pos := "law.go:58", after := #[{ on := 1, ground := Ground.data }, { on := 2, ground := Ground.data }], guard := none }) (v := ?_) rfl (by kernel_rfl) (by kernel_rfl) (by kernel_rfl) (fun _ _ _ h => h) (Or.inl ⟨by rfl, ?_⟩) (by assumption) ?_
                  rotate_left
                  · (intro wS hSw; (try dsimp only at hSw); go_simp; (try with_reducible rfl))
                  try simp only [Act.put, List.setIfInBounds_toArray, List.set_cons_zero, List.set_cons_succ]
                  refine wpAnyH_take (i := 4) (oi := { dst := some 120, op := Op.load 3 (Operand.tmp 119), type := 3, pos := "law.go:58", after := #[{ on := 3, ground := Ground.data }], guard := none }) (v := ?_) rfl (by kernel_rfl) (by kernel_rfl) (by kernel_rfl) (fun _ _ _ h => h) (Or.inl ⟨by rfl, ?_⟩) (by assumption) ?_
                  rotate_left
                  · (intro wS hSw; (try dsimp only at hSw); go_simp; (try with_reducible rfl))
                  try simp only [Act.put, List.setIfInBounds_toArray, List.set_cons_zero, List.set_cons_succ]
                  refine wpAnyH_take (i := 5) (oi := { dst := some 121, op := Op.move (Operand.tmp 0), type := 22, pos := "law.go:58", after := #[], guard := none }) (v := ?_) rfl (by kernel_rfl) (by kernel_rfl) (by kernel_rfl) (fun _ _ _ h => h) (Or.inl ⟨by rfl, ?_⟩) (by assumption) ?_
                  rotate_left
                  · (intro wS hSw; (try dsimp only at hSw); go_simp; (try with_reducible rfl))
                  try simp only [Act.put, List.setIfInBounds_toArray, List.set_cons_zero, List.set_cons_succ]
                  refine wpAnyH_take (i := 6) (oi := { dst := some 122, op := Op.move (Operand.tmp 5), type := 3, pos := "law.go:58", after := #[], guard := none }) (v := ?_) rfl (by kernel_rfl) (by kernel_rfl) (by kernel_rfl) (fun _ _ _ h => h) (Or.inl ⟨by rfl, ?_⟩) (by assumption) ?_
                  rotate_left
                  · (intro wS hSw; (try dsimp only at hSw); go_simp; (try with_reducible rfl))
                  try simp only [Act.put, List.setIfInBounds_toArray, List.set_cons_zero, List.set_cons_succ]
                  refine wpAnyH_take (i := 7) (oi := { dst := some 123, op := Op.indexAddr 22 (Operand.tmp 121) (Operand.tmp 122), type := 0, pos := "law.go:58", after := #[{ on := 5, ground := Ground.data }, { on := 6, ground := Ground.data }], guard := none }) (v := ?_) rfl (by kernel_rfl) (by kernel_rfl) (by kernel_rfl) (fun _ _ _ h => h) (Or.inl ⟨by rfl, ?_⟩) (by assumption) ?_
                  rotate_left
                  · (intro wS hSw; (try dsimp only at hSw); go_simp; (try with_reducible rfl))
                  try simp only [Act.put, List.setIfInBounds_toArray, List.set_cons_zero, List.set_cons_succ]
                  refine wpAnyH_take (i := 8) (oi := { dst := some 124, op := Op.load 3 (Operand.tmp 123), type := 3, pos := "law.go:58", after := #[{ on := 7, ground := Ground.data }], guard := none }) (v := ?_) rfl (by kernel_rfl) (by kernel_rfl) (by kernel_rfl) (fun _ _ _ h => h) (Or.inl ⟨by rfl, ?_⟩) (by assumption) ?_
                  rotate_left
                  · (intro wS hSw; (try dsimp only at hSw); go_simp; (try with_reducible rfl))
                  try simp only [Act.put, List.setIfInBounds_toArray, List.set_cons_zero, List.set_cons_succ]
                  refine wpAnyH_take (i := 9) (oi := { dst := some 125, op := Op.binOp BinOp.sub 3 (Operand.tmp 120) (Operand.tmp 124) 3, type := 3, pos := "law.go:58", after := #[{ on := 4, ground := Ground.data }, { on := 8, ground := Ground.data }], guard := none }) (v := ?_) rfl (by kernel_rfl) (by kernel_rfl) (by kernel_rfl) (fun _ _ _ h => h) (Or.inl ⟨by rfl, ?_⟩) (by assumption) ?_
                  rotate_left
                  · (intro wS hSw; (try dsimp only at hSw); go_simp; (try with_reducible rfl))
                  try simp only [Act.put, List.setIfInBounds_toArray, List.set_cons_zero, List.set_cons_succ]
                  refine wpAnyH_take (i := 10) (oi := { dst := some 126, op := Op.binOp BinOp.eql 3 (Operand.tmp 116) (Operand.tmp 125) 3, type := 4, pos := "law.go:58", after := #[{ on := 0, ground := Ground.data }, { on := 9, ground := Ground.data }], guard := none }) (v := ?_) rfl (by kernel_rfl) (by kernel_rfl) (by kernel_rfl) (fun _ _ _ h => h) (Or.inl ⟨by rfl, ?_⟩) (by assumption) ?_
                  rotate_left
                  · (intro wS hSw; (try dsimp only at hSw); go_simp; (try with_reducible rfl))
                  try simp only [Act.put, List.setIfInBounds_toArray, List.set_cons_zero, List.set_cons_succ]
                  refine wpAnyH_take (i := 11) (oi := { dst := some 127, op := Op.move (Operand.tmp 126), type := 4, pos := "law.go:58", after := #[{ on := 10, ground := Ground.data }], guard := none }) (v := ?_) rfl (by kernel_rfl) (by kernel_rfl) (by kernel_rfl) (fun _ _ _ h => h) (Or.inl ⟨by rfl, ?_⟩) (by assumption) ?_
                  rotate_left
                  · (intro wS hSw; (try dsimp only at hSw); go_simp; (try with_reducible rfl))
                  try simp only [Act.put, List.setIfInBounds_toArray, List.set_cons_zero, List.set_cons_succ]
                  refine wpAnyH_take (i := 12) (oi := { dst := some 128, op := Op.move (Operand.tmp 8), type := 22, pos := "law.go:58", after := #[{ on := 11, ground := Ground.guard }], guard := some (11, true) }) (v := ?_) rfl (by kernel_rfl) (by kernel_rfl) (by kernel_rfl) (fun _ _ _ h => h) (Or.inl ⟨by rfl, ?_⟩) (by assumption) ?_
                  rotate_left
                  · (intro wS hSw; (try dsimp only at hSw); go_simp; (try with_reducible rfl))
                  try simp only [Act.put, List.setIfInBounds_toArray, List.set_cons_zero, List.set_cons_succ]
                  refine wpAnyH_take (i := 13) (oi := { dst := some 129, op := Op.move (Operand.tmp 1), type := 23, pos := "law.go:58", after := #[{ on := 11, ground := Ground.guard }], guard := some (11, true) }) (v := ?_) rfl (by kernel_rfl) (by kernel_rfl) (by kernel_rfl) (fun _ _ _ h => h) (Or.inl ⟨by rfl, ?_⟩) (by assumption) ?_
                  rotate_left
                  · (intro wS hSw; (try dsimp only at hSw); go_simp; (try with_reducible rfl))
                  try simp only [Act.put, List.setIfInBounds_toArray, List.set_cons_zero, List.set_cons_succ]
                  refine wpAnyH_take (i := 15) (oi := { dst := some 131, op := Op.move (Operand.tmp 7), type := 3, pos := "law.go:58", after := #[{ on := 11, ground := Ground.guard }], guard := some (11, true) }) (v := ?_) rfl (by kernel_rfl) (by kernel_rfl) (by kernel_rfl) (fun _ _ _ h => h) (Or.inl ⟨by rfl, ?_⟩) (by assumption) ?_
                  rotate_left
                  · (intro wS hSw; (try dsimp only at hSw); go_simp; (try with_reducible rfl))
                  try simp only [Act.put, List.setIfInBounds_toArray, List.set_cons_zero, List.set_cons_succ]
                  refine wpAnyH_take (i := 16) (oi := { dst := some 132, op := Op.call { callee := Callee.builtin Builtin.max, args := #[Operand.tmp 131, Operand.const (Value.int IntKind.i64 1)], argTypes := #[3, 3] }, type := 3, pos := "law.go:58", after := #[{ on := 15, ground := Ground.data }, { on := 11, ground := Ground.guard }], guard := some (11, true) }) (v := ?_) rfl (by kernel_rfl) (by kernel_rfl) (by kernel_rfl) (fun _ _ _ h => h) (Or.inl ⟨by rfl, ?_⟩) (by assumption) ?_
                  rotate_left
                  · (intro wS hSw; (try dsimp only at hSw); go_simp; (try with_reducible rfl))
                  try simp only [Act.put, List.setIfInBounds_toArray, List.set_cons_zero, List.set_cons_succ]
                  refine wpAnyH_ready (rs := [14]) (by kernel_rfl) (by simp) ?_
                  refine AllReadyH.cons (o := { dst := some 130, op := Op.call { callee := Callee.value (Operand.func 8), args := #[Operand.tmp 128, Operand.tmp 129], argTypes := #[22, 23] }, type := 3, pos := "law.go:58", after := #[{ on := 12, ground := Ground.data }, { on := 13, ground := Ground.data }, { on := 11, ground := Ground.chain }, { on := 11, ground := Ground.guard }], guard := some (11, true) }) rfl (fun K hK => ?_) AllReadyH.nil
                  go_simp
                  (first
                      | (go_at_call 8; ((with_reducible refine (Spread_len (ws.set j1 (z1 + 1)) ws.length (by simp) good (some ⟨ga, 0, none⟩) A2 ca c2 _ (Ha.held hHeld.2.1 hHeld.2.2) (H2.held hHeld.2.1 hHeld.2.2) n1 n2 WA.out).mono ?_); rw [SA.out]; rintro e' w3 ⟨rfl, hb3⟩))
                      | (go_at_call 8; ((with_reducible refine (Spread_len (ws.set j2 (z2 + 1)) ws.length (by simp) good (some ⟨gb, 0, none⟩) A2 cb c2 _ (Hb.held hHeld.2.1 hHeld.2.2) (H2.held hHeld.2.1 hHeld.2.2) n1 n2 WB.out).mono ?_); rw [SB'.out]; rintro e' w3 ⟨rfl, hb3⟩))
                      | (go_at_call 6; refine (awake_any _).mono ?_; rintro e' w3 ⟨rfl, hb3⟩))
                  go_wp2_with fail
                  refine hK.out _ _ ?_ (fun hNew => ?_)
                  · (first | exact ⟨HB.drew, by simp, by simp⟩ | exact kept_step (by assumption) hb3)
                  clear hK K hHeld
                  have hHeld := hNew
                  clear hNew
                  try simp only [Act.put, List.setIfInBounds_toArray, List.set_cons_zero, List.set_cons_succ]
                  refine wpAnyH_take (i := 17) (oi := { dst := some 133, op := Op.binOp BinOp.leq 3 (Operand.tmp 130) (Operand.tmp 132) 3, type := 4, pos := "law.go:58", after := #[{ on := 14, ground := Ground.data }, { on := 16, ground := Ground.data }, { on := 11, ground := Ground.guard }], guard := some (11, true) }) (v := ?_) rfl (by kernel_rfl) (by kernel_rfl) (by kernel_rfl) (fun _ _ _ h => h) (Or.inl ⟨by rfl, ?_⟩) (by assumption) ?_
                  rotate_left
                  · (intro wS hSw; (try dsimp only at hSw); go_simp; (try with_reducible rfl))
                  try simp only [Act.put, List.setIfInBounds_toArray, List.set_cons_zero, List.set_cons_succ]
                  refine wpAnyH_take (i := 18) (oi := { dst := some 134, op := Op.pick (Operand.tmp 127) (Operand.tmp 133) (Operand.const (Value.bool false)), type := 4, pos := "law.go:58", after := #[{ on := 11, ground := Ground.data }, { on := 17, ground := Ground.data }], guard := none }) (v := ?_) rfl (by kernel_rfl) (by kernel_rfl) (by kernel_rfl) (fun _ _ _ h => h) (Or.inl ⟨by rfl, ?_⟩) (by assumption) ?_
                  rotate_left
                  · (intro wS hSw; (try dsimp only at hSw); go_simp; (try with_reducible rfl))
                  try simp only [Act.put, List.setIfInBounds_toArray, List.set_cons_zero, List.set_cons_succ]
                  refine wpAnyH_take (i := 19) (oi := { dst := some 135, op := Op.move (Operand.tmp 134), type := 4, pos := "law.go:58", after := #[{ on := 18, ground := Ground.data }, { on := 14, ground := Ground.chain }], guard := none }) (v := ?_) rfl (by kernel_rfl) (by kernel_rfl) (by kernel_rfl) (fun _ _ _ h => h) (Or.inl ⟨by rfl, ?_⟩) (by assumption) ?_
                  rotate_left
                  · (intro wS hSw; (try dsimp only at hSw); go_simp; (try with_reducible rfl))
                  try simp only [Act.put, List.setIfInBounds_toArray, List.set_cons_zero, List.set_cons_succ]
                  refine wpAnyH_take (i := 20) (oi := { dst := some 136, op := Op.move (Operand.tmp 10), type := 3, pos := "law.go:58", after := #[{ on := 19, ground := Ground.guard }], guard := some (19, true) }) (v := ?_) rfl (by kernel_rfl) (by kernel_rfl) (by kernel_rfl) (fun _ _ _ h => h) (Or.inl ⟨by rfl, ?_⟩) (by assumption) ?_
                  rotate_left
                  · (intro wS hSw; (try dsimp only at hSw); go_simp; (try with_reducible rfl))
                  try simp only [Act.put, List.setIfInBounds_toArray, List.set_cons_zero, List.set_cons_succ]
                  refine wpAnyH_take (i := 21) (oi := { dst := some 137, op := Op.binOp BinOp.lss 3 (Operand.tmp 136) (Operand.const (Value.int IntKind.i64 2)) 3, type := 4, pos := "law.go:58", after := #[{ on := 20, ground := Ground.data }, { on := 19, ground := Ground.guard }], guard := some (19, true) }) (v := ?_) rfl (by kernel_rfl) (by kernel_rfl) (by kernel_rfl) (fun _ _ _ h => h) (Or.inl ⟨by rfl, ?_⟩) (by assumption) ?_
                  rotate_left
                  · (intro wS hSw; (try dsimp only at hSw); go_simp; (try with_reducible rfl))
                  try simp only [Act.put, List.setIfInBounds_toArray, List.set_cons_zero, List.set_cons_succ]
                  refine wpAnyH_take (i := 22) (oi := { dst := some 138, op := Op.move (Operand.tmp 137), type := 4, pos := "law.go:58", after := #[{ on := 21, ground := Ground.data }, { on := 19, ground := Ground.chain }, { on := 19, ground := Ground.guard }], guard := some (19, true) }) (v := ?_) rfl (by kernel_rfl) (by kernel_rfl) (by kernel_rfl) (fun _ _ _ h => h) (Or.inl ⟨by rfl, ?_⟩) (by assumption) ?_
                  rotate_left
                  · (intro wS hSw; (try dsimp only at hSw); go_simp; (try with_reducible rfl))
                  try simp only [Act.put, List.setIfInBounds_toArray, List.set_cons_zero, List.set_cons_succ]
                  refine wpAnyH_take (i := 23) (oi := { dst := some 139, op := Op.move (Operand.tmp 9), type := 22, pos := "law.go:58", after := #[{ on := 22, ground := Ground.guard }], guard := some (22, true) }) (v := ?_) rfl (by kernel_rfl) (by kernel_rfl) (by kernel_rfl) (fun _ _ _ h => h) (Or.inl ⟨by rfl, ?_⟩) (by assumption) ?_
                  rotate_left
                  · (intro wS hSw; (try dsimp only at hSw); go_simp; (try with_reducible rfl))
                  try simp only [Act.put, List.setIfInBounds_toArray, List.set_cons_zero, List.set_cons_succ]
                  refine wpAnyH_take (i := 24) (oi := { dst := some 140, op := Op.move (Operand.tmp 1), type := 23, pos := "law.go:58", after := #[{ on := 22, ground := Ground.guard }], guard := some (22, true) }) (v := ?_) rfl (by kernel_rfl) (by kernel_rfl) (by kernel_rfl) (fun _ _ _ h => h) (Or.inl ⟨by rfl, ?_⟩) (by assumption) ?_
                  rotate_left
                  · (intro wS hSw; (try dsimp only at hSw); go_simp; (try with_reducible rfl))
                  try simp only [Act.put, List.setIfInBounds_toArray, List.set_cons_zero, List.set_cons_succ]
                  refine wpAnyH_ready (rs := [25]) (by kernel_rfl) (by simp) ?_
                  refine AllReadyH.cons (o := { dst := some 141, op := Op.call { callee := Callee.value (Operand.func 8), args := #[Operand.tmp 139, Operand.tmp 140], argTypes := #[22, 23] }, type := 3, pos := "law.go:58", after := #[{ on := 23, ground := Ground.data }, { on := 24, ground := Ground.data }, { on := 22, ground := Ground.chain }, { on := 22, ground := Ground.guard }], guard := some (22, true) }) rfl (fun K hK => ?_) AllReadyH.nil
                  go_simp
                  (first
                      | (go_at_call 8; ((with_reducible refine (Spread_len (ws.set j1 (z1 + 1)) ws.length (by simp) good (some ⟨ga, 0, none⟩) A2 ca c2 _ (Ha.held hHeld.2.1 hHeld.2.2) (H2.held hHeld.2.1 hHeld.2.2) n1 n2 WA.out).mono ?_); rw [SA.out]; rintro e' w3 ⟨rfl, hb3⟩))
                      | (go_at_call 8; ((with_reducible refine (Spread_len (ws.set j2 (z2 + 1)) ws.length (by simp) good (some ⟨gb, 0, none⟩) A2 cb c2 _ (Hb.held hHeld.2.1 hHeld.2.2) (H2.held hHeld.2.1 hHeld.2.2) n1 n2 WB.out).mono ?_); rw [SB'.out]; rintro e' w3 ⟨rfl, hb3⟩))
                      | (go_at_call 6; refine (awake_any _).mono ?_; rintro e' w3 ⟨rfl, hb3⟩))
                  go_wp2_with fail
                  refine hK.out _ _ ?_ (fun hNew => ?_)
                  · (first | exact ⟨HB.drew, by simp, by simp⟩ | exact kept_step (by assumption) hb3)
                  clear hK K hHeld
                  have hHeld := hNew
                  clear hNew
                  try simp only [Act.put, List.setIfInBounds_toArray, List.set_cons_zero, List.set_cons_succ]
                  refine wpAnyH_take (i := 26) (oi := { dst := some 142, op := Op.binOp BinOp.eql 3 (Operand.tmp 141) (Operand.const (Value.int IntKind.i64 0)) 3, type := 4, pos := "law.go:58", after := #[{ on := 25, ground := Ground.data }, { on := 22, ground := Ground.guard }], guard := some (22, true) }) (v := ?_) rfl (by kernel_rfl) (by kernel_rfl) (by kernel_rfl) (fun _ _ _ h => h) (Or.inl ⟨by rfl, ?_⟩) (by assumption) ?_
                  rotate_left
                  · (intro wS hSw; (try dsimp only at hSw); go_simp; (try with_reducible rfl))
                  try simp only [Act.put, List.setIfInBounds_toArray, List.set_cons_zero, List.set_cons_succ]
                  refine wpAnyH_take (i := 27) (oi := { dst := some 143, op := Op.pick (Operand.tmp 138) (Operand.tmp 142) (Operand.const (Value.bool false)), type := 4, pos := "law.go:58", after := #[{ on := 22, ground := Ground.data }, { on := 26, ground := Ground.data }, { on := 19, ground := Ground.guard }], guard := some (19, true) }) (v := ?_) rfl (by kernel_rfl) (by kernel_rfl) (by kernel_rfl) (fun _ _ _ h => h) (Or.inl ⟨by rfl, ?_⟩) (by assumption) ?_
                  rotate_left
                  · (intro wS hSw; (try dsimp only at hSw); go_simp; (try with_reducible rfl))
                  try simp only [Act.put, List.setIfInBounds_toArray, List.set_cons_zero, List.set_cons_succ]
                  refine wpAnyH_take (i := 28) (oi := { dst := some 144, op := Op.move (Operand.tmp 143), type := 4, pos := "law.go:58", after := #[{ on := 27, ground := Ground.data }, { on := 25, ground := Ground.chain }, { on := 19, ground := Ground.guard }], guard := some (19, true) }) (v := ?_) rfl (by kernel_rfl) (by kernel_rfl) (by kernel_rfl) (fun _ _ _ h => h) (Or.inl ⟨by rfl, ?_⟩) (by assumption) ?_
                  rotate_left
                  · (intro wS hSw; (try dsimp only at hSw); go_simp; (try with_reducible rfl))
                  try simp only [Act.put, List.setIfInBounds_toArray, List.set_cons_zero, List.set_cons_succ]
                  refine wpAnyH_take (i := 29) (oi := { dst := some 145, op := Op.move (Operand.tmp 10), type := 3, pos := "law.go:58", after := #[{ on := 28, ground := Ground.guard }], guard := some (28, false) }) (v := undef) rfl (by kernel_rfl) (by kernel_rfl) (by kernel_rfl) (fun _ _ _ h => h) (Or.inr ⟨by rfl, rfl⟩) (by assumption) ?_
                  try simp only [Act.put, List.setIfInBounds_toArray, List.set_cons_zero, List.set_cons_succ]
                  refine wpAnyH_take (i := 30) (oi := { dst := some 146, op := Op.binOp BinOp.geq 3 (Operand.tmp 145) (Operand.const (Value.int IntKind.i64 2)) 3, type := 4, pos := "law.go:58", after := #[{ on := 29, ground := Ground.data }, { on := 28, ground := Ground.guard }], guard := some (28, false) }) (v := undef) rfl (by kernel_rfl) (by kernel_rfl) (by kernel_rfl) (fun _ _ _ h => h) (Or.inr ⟨by rfl, rfl⟩) (by assumption) ?_
                  try simp only [Act.put, List.setIfInBounds_toArray, List.set_cons_zero, List.set_cons_succ]
                  refine wpAnyH_take (i := 31) (oi := { dst := some 147, op := Op.move (Operand.tmp 146), type := 4, pos := "law.go:58", after := #[{ on := 30, ground := Ground.data }, { on := 28, ground := Ground.chain }, { on := 28, ground := Ground.guard }], guard := some (28, false) }) (v := undef) rfl (by kernel_rfl) (by kernel_rfl) (by kernel_rfl) (fun _ _ _ h => h) (Or.inr ⟨by rfl, rfl⟩) (by assumption) ?_
                  try simp only [Act.put, List.setIfInBounds_toArray, List.set_cons_zero, List.set_cons_succ]
                  refine wpAnyH_take (i := 32) (oi := { dst := some 148, op := Op.move (Operand.tmp 9), type := 22, pos := "law.go:58", after := #[{ on := 31, ground := Ground.guard }], guard := some (31, true) }) (v := undef) rfl (by kernel_rfl) (by kernel_rfl) (by kernel_rfl) (fun _ _ _ h => h) (Or.inr ⟨by rfl, rfl⟩) (by assumption) ?_
                  try simp only [Act.put, List.setIfInBounds_toArray, List.set_cons_zero, List.set_cons_succ]
                  refine wpAnyH_take (i := 33) (oi := { dst := some 149, op := Op.move (Operand.tmp 1), type := 23, pos := "law.go:58", after := #[{ on := 31, ground := Ground.guard }], guard := some (31, true) }) (v := undef) rfl (by kernel_rfl) (by kernel_rfl) (by kernel_rfl) (fun _ _ _ h => h) (Or.inr ⟨by rfl, rfl⟩) (by assumption) ?_
                  try simp only [Act.put, List.setIfInBounds_toArray, List.set_cons_zero, List.set_cons_succ]
                  refine wpAnyH_take (i := 34) (oi := { dst := some 150, op := Op.call { callee := Callee.value (Operand.func 8), args := #[Operand.tmp 148, Operand.tmp 149], argTypes := #[22, 23] }, type := 3, pos := "law.go:58", after := #[{ on := 32, ground := Ground.data }, { on := 33, ground := Ground.data }, { on := 31, ground := Ground.chain }, { on := 31, ground := Ground.guard }], guard := some (31, true) }) (v := undef) rfl (by kernel_rfl) (by kernel_rfl) (by kernel_rfl) (fun _ _ _ h => h) (Or.inr ⟨by rfl, rfl⟩) (by assumption) ?_
                  try simp only [Act.put, List.setIfInBounds_toArray, List.set_cons_zero, List.set_cons_succ]
                  refine wpAnyH_take (i := 35) (oi := { dst := some 151, op := Op.move (Operand.tmp 7), type := 3, pos := "law.go:58", after := #[{ on := 31, ground := Ground.guard }], guard := some (31, true) }) (v := undef) rfl (by kernel_rfl) (by kernel_rfl) (by kernel_rfl) (fun _ _ _ h => h) (Or.inr ⟨by rfl, rfl⟩) (by assumption) ?_
                  try simp only [Act.put, List.setIfInBounds_toArray, List.set_cons_zero, List.set_cons_succ]
                  refine wpAnyH_take (i := 36) (oi := { dst := some 152, op := Op.binOp BinOp.add 3 (Operand.tmp 151) (Operand.const (Value.int IntKind.i64 1)) 3, type := 3, pos := "law.go:58", after := #[{ on := 35, ground := Ground.data }, { on := 31, ground := Ground.guard }], guard := some (31, true) }) (v := undef) rfl (by kernel_rfl) (by kernel_rfl) (by kernel_rfl) (fun _ _ _ h => h) (Or.inr ⟨by rfl, rfl⟩) (by assumption) ?_
                  try simp only [Act.put, List.setIfInBounds_toArray, List.set_cons_zero, List.set_cons_succ]
                  refine wpAnyH_take (i := 37) (oi := { dst := some 153, op := Op.binOp BinOp.eql 3 (Operand.tmp 150) (Operand.tmp 152) 3, type := 4, pos := "law.go:58", after := #[{ on := 34, ground := Ground.data }, { on := 36, ground := Ground.data }, { on := 31, ground := Ground.guard }], guard := some (31, true) }) (v := undef) rfl (by kernel_rfl) (by kernel_rfl) (by kernel_rfl) (fun _ _ _ h => h) (Or.inr ⟨by rfl, rfl⟩) (by assumption) ?_
                  try simp only [Act.put, List.setIfInBounds_toArray, List.set_cons_zero, List.set_cons_succ]
                  refine wpAnyH_take (i := 38) (oi := { dst := some 154, op := Op.pick (Operand.tmp 147) (Operand.tmp 153) (Operand.const (Value.bool false)), type := 4, pos := "law.go:58", after := #[{ on := 31, ground := Ground.data }, { on := 37, ground := Ground.data }, { on := 28, ground := Ground.guard }], guard := some (28, false) }) (v := undef) rfl (by kernel_rfl) (by kernel_rfl) (by kernel_rfl) (fun _ _ _ h => h) (Or.inr ⟨by rfl, rfl⟩) (by assumption) ?_
                  try simp only [Act.put, List.setIfInBounds_toArray, List.set_cons_zero, List.set_cons_succ]
                  refine wpAnyH_take (i := 39) (oi := { dst := some 155, op := Op.pick (Operand.tmp 144) (Operand.const (Value.bool true)) (Operand.tmp 154), type := 4, pos := "law.go:58", after := #[{ on := 28, ground := Ground.data }, { on := 38, ground := Ground.data }, { on := 19, ground := Ground.guard }], guard := some (19, true) }) (v := ?_) rfl (by kernel_rfl) (by kernel_rfl) (by kernel_rfl) (fun _ _ _ h => h) (Or.inl ⟨by rfl, ?_⟩) (by assumption) ?_
                  rotate_left
                  · (intro wS hSw; (try dsimp only at hSw); go_simp; (try with_reducible rfl))
                  try simp only [Act.put, List.setIfInBounds_toArray, List.set_cons_zero, List.set_cons_succ]
                  refine wpAnyH_take (i := 40) (oi := { dst := some 156, op := Op.pick (Operand.tmp 135) (Operand.tmp 155) (Operand.const (Value.bool false)), type := 4, pos := "law.go:58", after := #[{ on := 19, ground := Ground.data }, { on := 39, ground := Ground.data }], guard := none }) (v := ?_) rfl (by kernel_rfl) (by kernel_rfl) (by kernel_rfl) (fun _ _ _ h => h) (Or.inl ⟨by rfl, ?_⟩) (by assumption) ?_
                  rotate_left
                  · (intro wS hSw; (try dsimp only at hSw); go_simp; (try with_reducible rfl))
                  try simp only [Act.put, List.setIfInBounds_toArray, List.set_cons_zero, List.set_cons_succ]
                  refine wpAnyH_take (i := 41) (oi := { dst := some 157, op := Op.move (Operand.tmp 156), type := 4, pos := "law.go:58", after := #[{ on := 40, ground := Ground.data }, { on := 34, ground := Ground.chain }], guard := none }) (v := ?_) rfl (by kernel_rfl) (by kernel_rfl) (by kernel_rfl) (fun _ _ _ h => h) (Or.inl ⟨by rfl, ?_⟩) (by assumption) ?_
                  rotate_left
                  · (intro wS hSw; (try dsimp only at hSw); go_simp; (try with_reducible rfl))
                  try simp only [Act.put, List.setIfInBounds_toArray, List.set_cons_zero, List.set_cons_succ]
                  refine wpAnyH_ready (rs := [42]) (by kernel_rfl) (by simp) ?_
                  refine AllReadyH.cons (o := { dst := some 158, op := Op.call { callee := Callee.value (Operand.func 6), args := #[], argTypes := #[] }, type := 4, pos := "law.go:58", after := #[{ on := 41, ground := Ground.chain }, { on := 41, ground := Ground.guard }], guard := some (41, true) }) rfl (fun K hK => ?_) AllReadyH.nil
                  go_simp
                  (first
                      | (go_at_call 8; ((with_reducible refine (Spread_len (ws.set j1 (z1 + 1)) ws.length (by simp) good (some ⟨ga, 0, none⟩) A2 ca c2 _ (Ha.held hHeld.2.1 hHeld.2.2) (H2.held hHeld.2.1 hHeld.2.2) n1 n2 WA.out).mono ?_); rw [SA.out]; rintro e' w3 ⟨rfl, hb3⟩))
                      | (go_at_call 8; ((with_reducible refine (Spread_len (ws.set j2 (z2 + 1)) ws.length (by simp) good (some ⟨gb, 0, none⟩) A2 cb c2 _ (Hb.held hHeld.2.1 hHeld.2.2) (H2.held hHeld.2.1 hHeld.2.2) n1 n2 WB.out).mono ?_); rw [SB'.out]; rintro e' w3 ⟨rfl, hb3⟩))
                      | (go_at_call 6; refine (awake_any _).mono ?_; rintro e' w3 ⟨rfl, hb3⟩))
                  go_wp2_with fail
                  refine hK.out _ _ ?_ (fun hNew => ?_)
                  · (first | exact ⟨HB.drew, by simp, by simp⟩ | exact kept_step (by assumption) hb3)
                  clear hK K hHeld
                  have hHeld := hNew
                  clear hNew
                  try simp only [Act.put, List.setIfInBounds_toArray, List.set_cons_zero, List.set_cons_succ]
                  refine wpAnyH_take (i := 43) (oi := { dst := some 159, op := Op.pick (Operand.tmp 157) (Operand.tmp 158) (Operand.const (Value.bool false)), type := 4, pos := "law.go:58", after := #[{ on := 41, ground := Ground.data }, { on := 42, ground := Ground.data }], guard := none }) (v := ?_) rfl (by kernel_rfl) (by kernel_rfl) (by kernel_rfl) (fun _ _ _ h => h) (Or.inl ⟨by rfl, ?_⟩) (by assumption) ?_
                  rotate_left
                  · (intro wS hSw; (try dsimp only at hSw); go_simp; (try with_reducible rfl))
                  try simp only [Act.put, List.setIfInBounds_toArray, List.set_cons_zero, List.set_cons_succ]
                  refine wpAnyH_take (i := 44) (oi := { dst := some 4, op := Op.assign (Operand.tmp 159), type := 4, pos := "law.go:58", after := #[{ on := 43, ground := Ground.data }, { on := 42, ground := Ground.chain }, { on := 0, ground := Ground.phase }, { on := 1, ground := Ground.phase }, { on := 2, ground := Ground.phase }, { on := 3, ground := Ground.phase }, { on := 4, ground := Ground.phase }, { on := 5, ground := Ground.phase }, { on := 6, ground := Ground.phase }, { on := 7, ground := Ground.phase }, { on := 8, ground := Ground.phase }, { on := 9, ground := Ground.phase }, { on := 10, ground := Ground.phase }, { on := 11, ground := Ground.phase }, { on := 12, ground := Ground.phase }, { on := 13, ground := Ground.phase }, { on := 14, ground := Ground.phase }, { on := 15, ground := Ground.phase }, { on := 16, ground := Ground.phase }, { on := 17, ground := Ground.phase }, { on := 18, ground := Ground.phase }, { on := 19, ground := Ground.phase }, { on := 20, ground := Ground.phase }, { on := 21, ground := Ground.phase }, { on := 22, ground := Ground.phase }, { on := 23, ground := Ground.phase }, { on := 24, ground := Ground.phase }, { on := 25, ground := Ground.phase }, { on := 26, ground := Ground.phase }, { on := 27, ground := Ground.phase }, { on := 28, ground := Ground.phase }, { on := 29, ground := Ground.phase }, { on := 30, ground := Ground.phase }, { on := 31, ground := Ground.phase }, { on := 32, ground := Ground.phase }, { on := 33, ground := Ground.phase }, { on := 34, ground := Ground.phase }, { on := 35, ground := Ground.phase }, { on := 36, ground := Ground.phase }, { on := 37, ground := Ground.phase }, { on := 38, ground := Ground.phase }, { on := 39, ground := Ground.phase }, { on := 40, ground := Ground.phase }, { on := 41, ground := Ground.phase }, { on := 42, ground := Ground.phase }, { on := 43, ground := Ground.phase }], guard := none }) (v := ?_) rfl (by kernel_rfl) (by kernel_rfl) (by kernel_rfl) (fun _ _ _ h => h) (Or.inl ⟨by rfl, ?_⟩) (by assumption) ?_
                  rotate_left
                  · (intro wS hSw; (try dsimp only at hSw); go_simp; (try with_reducible rfl))
                  try simp only [Act.put, List.setIfInBounds_toArray, List.set_cons_zero, List.set_cons_succ]
                  refine wpAnyH_done (by kernel_rfl) ?_ _
                  refine NoPanic.normal ?_
                  go_wp2
                  go_ret
                  exact ⟨rfl, hHeld.1⟩
                · have t1 : ¬ ((c : Int) < 2) := by omega
                  have t1d : decide ((c : Int) < 2) = false := by simpa using t1
                  have t1e : decide (2 ≤ (c : Int)) = true := by simp; omega
                  have t2 : sb = z2 - z1 + 1 := f2 (by omega)
                  have SB' : Hid (spreadI (ws.set j2 (z2 + 1)) good = z2 - z1 + 1) := SB.out.trans t2
                  by_cases hmx : z2 - z1 < 1
                  · have t5 : sa ≤ 1 := by omega
                    clear t2 f1 f2 f3 hfew hc2 SB
                    go_wp2
                    refine wp_region_noPanic ?_
                    refine wp_region_held_drew (S := (fun w' => Below w.heap.size w w' ∧ wr.heap.size ≤ w'.heap.size ∧ ∀ (k o : Nat), k < wr.heap.size → w'.cell? ⟨k, o, none⟩ = wr.cell? ⟨k, o, none⟩)) (by kernel_rfl) ?_ (fun hHeld => ?_)
                    · (first | exact ⟨HB.drew, by simp, by simp⟩ | exact kept_step (by assumption) hb3)
                    refine wpAnyH_take (i := 0) (oi := { dst := some 116, op := Op.move (Operand.tmp 7), type := 3, pos := "law.go:58", after := #[], guard := none }) (v := ?_) rfl (by kernel_rfl) (by kernel_rfl) (by kernel_rfl) (fun _ _ _ h => h) (Or.inl ⟨by rfl, ?_⟩) (by assumption) ?_
                    rotate_left
                    · (intro wS hSw; (try dsimp only at hSw); go_simp; (try with_reducible rfl))
                    try simp only [Act.put, List.setIfInBounds_toArray, List.set_cons_zero, List.set_cons_succ]
                    refine wpAnyH_take (i := 1) (oi := { dst := some 117, op := Op.move (Operand.tmp 0), type := 22, pos := "law.go:58", after := #[], guard := none }) (v := ?_) rfl (by kernel_rfl) (by kernel_rfl) (by kernel_rfl) (fun _ _ _ h => h) (Or.inl ⟨by rfl, ?_⟩) (by assumption) ?_
                    rotate_left
                    · (intro wS hSw; (try dsimp only at hSw); go_simp; (try with_reducible rfl))
                    try simp only [Act.put, List.setIfInBounds_toArray, List.set_cons_zero, List.set_cons_succ]
                    refine wpAnyH_take (i := 2) (oi := { dst := some 118, op := Op.move (Operand.tmp 6), type := 3, pos := "law.go:58", after := #[], guard := none }) (v := ?_) rfl (by kernel_rfl) (by kernel_rfl) (by kernel_rfl) (fun _ _ _ h => h) (Or.inl ⟨by rfl, ?_⟩) (by assumption) ?_
                    rotate_left
                    · (intro wS hSw; (try dsimp only at hSw); go_simp; (try with_reducible rfl))
                    try simp only [Act.put, List.setIfInBounds_toArray, List.set_cons_zero, List.set_cons_succ]
                    refine wpAnyH_take (i := 3) (oi := { dst := some 119, op := Op.indexAddr 22 (Operand.tmp 117) (Operand.tmp 118), type := 0, pos := "law.go:58", after := #[{ on := 1, ground := Ground.data }, { on := 2, ground := Ground.data }], guard := none }) (v := ?_) rfl (by kernel_rfl) (by kernel_rfl) (by kernel_rfl) (fun _ _ _ h => h) (Or.inl ⟨by rfl, ?_⟩) (by assumption) ?_
                    rotate_left
                    · (intro wS hSw; (try dsimp only at hSw); go_simp; (try with_reducible rfl))
                    try simp only [Act.put, List.setIfInBounds_toArray, List.set_cons_zero, List.set_cons_succ]
                    refine wpAnyH_take (i := 4) (oi := { dst := some 120, op := Op.load 3 (Operand.tmp 119), type := 3, pos := "law.go:58", after := #[{ on := 3, ground := Ground.data }], guard := none }) (v := ?_) rfl (by kernel_rfl) (by kernel_rfl) (by kernel_rfl) (fun _ _ _ h => h) (Or.inl ⟨by rfl, ?_⟩) (by assumption) ?_
                    rotate_left
                    · (intro wS hSw; (try dsimp only at hSw); go_simp; (try with_reducible rfl))
                    try simp only [Act.put, List.setIfInBounds_toArray, List.set_cons_zero, List.set_cons_succ]
                    refine wpAnyH_take (i := 5) (oi := { dst := some 121, op := Op.move (Operand.tmp 0), type := 22, pos := "law.go:58", after := #[], guard := none }) (v := ?_) rfl (by kernel_rfl) (by kernel_rfl) (by kernel_rfl) (fun _ _ _ h => h) (Or.inl ⟨by rfl, ?_⟩) (by assumption) ?_
                    rotate_left
                    · (intro wS hSw; (try dsimp only at hSw); go_simp; (try with_reducible rfl))
                    try simp only [Act.put, List.setIfInBounds_toArray, List.set_cons_zero, List.set_cons_succ]
                    refine wpAnyH_take (i := 6) (oi := { dst := some 122, op := Op.move (Operand.tmp 5), type := 3, pos := "law.go:58", after := #[], guard := none }) (v := ?_) rfl (by kernel_rfl) (by kernel_rfl) (by kernel_rfl) (fun _ _ _ h => h) (Or.inl ⟨by rfl, ?_⟩) (by assumption) ?_
                    rotate_left
                    · (intro wS hSw; (try dsimp only at hSw); go_simp; (try with_reducible rfl))
                    try simp only [Act.put, List.setIfInBounds_toArray, List.set_cons_zero, List.set_cons_succ]
                    refine wpAnyH_take (i := 7) (oi := { dst := some 123, op := Op.indexAddr 22 (Operand.tmp 121) (Operand.tmp 122), type := 0, pos := "law.go:58", after := #[{ on := 5, ground := Ground.data }, { on := 6, ground := Ground.data }], guard := none }) (v := ?_) rfl (by kernel_rfl) (by kernel_rfl) (by kernel_rfl) (fun _ _ _ h => h) (Or.inl ⟨by rfl, ?_⟩) (by assumption) ?_
                    rotate_left
                    · (intro wS hSw; (try dsimp only at hSw); go_simp; (try with_reducible rfl))
                    try simp only [Act.put, List.setIfInBounds_toArray, List.set_cons_zero, List.set_cons_succ]
                    refine wpAnyH_take (i := 8) (oi := { dst := some 124, op := Op.load 3 (Operand.tmp 123), type := 3, pos := "law.go:58", after := #[{ on := 7, ground := Ground.data }], guard := none }) (v := ?_) rfl (by kernel_rfl) (by kernel_rfl) (by kernel_rfl) (fun _ _ _ h => h) (Or.inl ⟨by rfl, ?_⟩) (by assumption) ?_
                    rotate_left
                    · (intro wS hSw; (try dsimp only at hSw); go_simp; (try with_reducible rfl))
                    try simp only [Act.put, List.setIfInBounds_toArray, List.set_cons_zero, List.set_cons_succ]
                    refine wpAnyH_take (i := 9) (oi := { dst := some 125, op := Op.binOp BinOp.sub 3 (Operand.tmp 120) (Operand.tmp 124) 3, type := 3, pos := "law.go:58", after := #[{ on := 4, ground := Ground.data }, { on := 8, ground := Ground.data }], guard := none }) (v := ?_) rfl (by kernel_rfl) (by kernel_rfl) (by kernel_rfl) (fun _ _ _ h => h) (Or.inl ⟨by rfl, ?_⟩) (by assumption) ?_
                    rotate_left
                    · (intro wS hSw; (try dsimp only at hSw); go_simp; (try with_reducible rfl))
                    try simp only [Act.put, List.setIfInBounds_toArray, List.set_cons_zero, List.set_cons_succ]
                    refine wpAnyH_take (i := 10) (oi := { dst := some 126, op := Op.binOp BinOp.eql 3 (Operand.tmp 116) (Operand.tmp 125) 3, type := 4, pos := "law.go:58", after := #[{ on := 0, ground := Ground.data }, { on := 9, ground := Ground.data }], guard := none }) (v := ?_) rfl (by kernel_rfl) (by kernel_rfl) (by kernel_rfl) (fun _ _ _ h => h) (Or.inl ⟨by rfl, ?_⟩) (by assumption) ?_
                    rotate_left
                    · (intro wS hSw; (try dsimp only at hSw); go_simp; (try with_reducible rfl))
                    try simp only [Act.put, List.setIfInBounds_toArray, List.set_cons_zero, List.set_cons_succ]
                    refine wpAnyH_take (i := 11) (oi := { dst := some 127, op := Op.move (Operand.tmp 126), type := 4, pos := "law.go:58", after := #[{ on := 10, ground := Ground.data }], guard := none }) (v := ?_) rfl (by kernel_rfl) (by kernel_rfl) (by kernel_rfl) (fun _ _ _ h => h) (Or.inl ⟨by rfl, ?_⟩) (by assumption) ?_
                    rotate_left
                    · (intro wS hSw; (try dsimp only at hSw); go_simp; (try with_reducible rfl))
                    try simp only [Act.put, List.setIfInBounds_toArray, List.set_cons_zero, List.set_cons_succ]
                    refine wpAnyH_take (i := 12) (oi := { dst := some 128, op := Op.move (Operand.tmp 8), type := 22, pos := "law.go:58", after := #[{ on := 11, ground := Ground.guard }], guard := some (11, true) }) (v := ?_) rfl (by kernel_rfl) (by kernel_rfl) (by kernel_rfl) (fun _ _ _ h => h) (Or.inl ⟨by rfl, ?_⟩) (by assumption) ?_
                    rotate_left
                    · (intro wS hSw; (try dsimp only at hSw); go_simp; (try with_reducible rfl))
                    try simp only [Act.put, List.setIfInBounds_toArray, List.set_cons_zero, List.set_cons_succ]
                    refine wpAnyH_take (i := 13) (oi := { dst := some 129, op := Op.move (Operand.tmp 1), type := 23, pos := "law.go:58", after := #[{ on := 11, ground := Ground.guard }], guard := some (11, true) }) (v := ?_) rfl (by kernel_rfl) (by kernel_rfl) (by kernel_rfl) (fun _ _ _ h => h) (Or.inl ⟨by rfl, ?_⟩) (by assumption) ?_
                    rotate_left
                    · (intro wS hSw; (try dsimp only at hSw); go_simp; (try with_reducible rfl))
                    try simp only [Act.put, List.setIfInBounds_toArray, List.set_cons_zero, List.set_cons_succ]
                    refine wpAnyH_take (i := 15) (oi := { dst := some 131, op := Op.move (Operand.tmp 7), type := 3, pos := "law.go:58", after := #[{ on := 11, ground := Ground.guard }], guard := some (11, true) }) (v := ?_) rfl (by kernel_rfl) (by kernel_rfl) (by kernel_rfl) (fun _ _ _ h => h) (Or.inl ⟨by rfl, ?_⟩) (by assumption) ?_
                    rotate_left
                    · (intro wS hSw; (try dsimp only at hSw); go_simp; (try with_reducible rfl))
                    try simp only [Act.put, List.setIfInBounds_toArray, List.set_cons_zero, List.set_cons_succ]
                    refine wpAnyH_take (i := 16) (oi := { dst := some 132, op := Op.call { callee := Callee.builtin Builtin.max, args := #[Operand.tmp 131, Operand.const (Value.int IntKind.i64 1)], argTypes := #[3, 3] }, type := 3, pos := "law.go:58", after := #[{ on := 15, ground := Ground.data }, { on := 11, ground := Ground.guard }], guard := some (11, true) }) (v := ?_) rfl (by kernel_rfl) (by kernel_rfl) (by kernel_rfl) (fun _ _ _ h => h) (Or.inl ⟨by rfl, ?_⟩) (by assumption) ?_
                    rotate_left
                    · (intro wS hSw; (try dsimp only at hSw); go_simp; (try with_reducible rfl))
                    try simp only [Act.put, List.setIfInBounds_toArray, List.set_cons_zero, List.set_cons_succ]
                    refine wpAnyH_ready (rs := [14]) (by kernel_rfl) (by simp) ?_
                    refine AllReadyH.cons (o := { dst := some 130, op := Op.call { callee := Callee.value (Operand.func 8), args := #[Operand.tmp 128, Operand.tmp 129], argTypes := #[22, 23] }, type := 3, pos := "law.go:58", after := #[{ on := 12, ground := Ground.data }, { on := 13, ground := Ground.data }, { on := 11, ground := Ground.chain }, { on := 11, ground := Ground.guard }], guard := some (11, true) }) rfl (fun K hK => ?_) AllReadyH.nil
                    go_simp
                    (first
                        | (go_at_call 8; ((with_reducible refine (Spread_len (ws.set j1 (z1 + 1)) ws.length (by simp) good (some ⟨ga, 0, none⟩) A2 ca c2 _ (Ha.held hHeld.2.1 hHeld.2.2) (H2.held hHeld.2.1 hHeld.2.2) n1 n2 WA.out).mono ?_); rw [SA.out]; rintro e' w3 ⟨rfl, hb3⟩))
                        | (go_at_call 8; ((with_reducible refine (Spread_len (ws.set j2 (z2 + 1)) ws.length (by simp) good (some ⟨gb, 0, none⟩) A2 cb c2 _ (Hb.held hHeld.2.1 hHeld.2.2) (H2.held hHeld.2.1 hHeld.2.2) n1 n2 WB.out).mono ?_); rw [SB'.out]; rintro e' w3 ⟨rfl, hb3⟩))
                        | (go_at_call 6; refine (awake_any _).mono ?_; rintro e' w3 ⟨rfl, hb3⟩))
                    go_wp2_with fail
                    refine hK.out _ _ ?_ (fun hNew => ?_)
                    · (first | exact ⟨HB.drew, by simp, by simp⟩ | exact kept_step (by assumption) hb3)
                    clear hK K hHeld
                    have hHeld := hNew
                    clear hNew
                    try simp only [Act.put, List.setIfInBounds_toArray, List.set_cons_zero, List.set_cons_succ]
                    refine wpAnyH_take (i := 17) (oi := { dst := some 133, op := Op.binOp BinOp.leq 3 (Operand.tmp 130) (Operand.tmp 132) 3, type := 4, pos := "law.go:58", after := #[{ on := 14, ground := Ground.data }, { on := 16, ground := Ground.data }, { on := 11, ground := Ground.guard }], guard := some (11, true) }) (v := ?_) rfl (by kernel_rfl) (by kernel_rfl) (by kernel_rfl) (fun _ _ _ h => h) (Or.inl ⟨by rfl, ?_⟩) (by assumption) ?_
                    rotate_left
                    · (intro wS hSw; (try dsimp only at hSw); go_simp; (try with_reducible rfl))
                    try simp only [Act.put, List.setIfInBounds_toArray, List.set_cons_zero, List.set_cons_succ]
                    refine wpAnyH_take (i := 18) (oi := { dst := some 134, op := Op.pick (Operand.tmp 127) (Operand.tmp 133) (Operand.const (Value.bool false)), type := 4, pos := "law.go:58", after := #[{ on := 11, ground := Ground.data }, { on := 17, ground := Ground.data }], guard := none }) (v := ?_) rfl (by kernel_rfl) (by kernel_rfl) (by kernel_rfl) (fun _ _ _ h => h) (Or.inl ⟨by rfl, ?_⟩) (by assumption) ?_
                    rotate_left
                    · (intro wS hSw; (try dsimp only at hSw); go_simp; (try with_reducible rfl))
                    try simp only [Act.put, List.setIfInBounds_toArray, List.set_cons_zero, List.set_cons_succ]
                    refine wpAnyH_take (i := 19) (oi := { dst := some 135, op := Op.move (Operand.tmp 134), type := 4, pos := "law.go:58", after := #[{ on := 18, ground := Ground.data }, { on := 14, ground := Ground.chain }], guard := none }) (v := ?_) rfl (by kernel_rfl) (by kernel_rfl) (by kernel_rfl) (fun _ _ _ h => h) (Or.inl ⟨by rfl, ?_⟩) (by assumption) ?_
                    rotate_left
                    · (intro wS hSw; (try dsimp only at hSw); go_simp; (try with_reducible rfl))
                    try simp only [Act.put, List.setIfInBounds_toArray, List.set_cons_zero, List.set_cons_succ]
                    refine wpAnyH_take (i := 20) (oi := { dst := some 136, op := Op.move (Operand.tmp 10), type := 3, pos := "law.go:58", after := #[{ on := 19, ground := Ground.guard }], guard := some (19, true) }) (v := ?_) rfl (by kernel_rfl) (by kernel_rfl) (by kernel_rfl) (fun _ _ _ h => h) (Or.inl ⟨by rfl, ?_⟩) (by assumption) ?_
                    rotate_left
                    · (intro wS hSw; (try dsimp only at hSw); go_simp; (try with_reducible rfl))
                    try simp only [Act.put, List.setIfInBounds_toArray, List.set_cons_zero, List.set_cons_succ]
                    refine wpAnyH_take (i := 21) (oi := { dst := some 137, op := Op.binOp BinOp.lss 3 (Operand.tmp 136) (Operand.const (Value.int IntKind.i64 2)) 3, type := 4, pos := "law.go:58", after := #[{ on := 20, ground := Ground.data }, { on := 19, ground := Ground.guard }], guard := some (19, true) }) (v := ?_) rfl (by kernel_rfl) (by kernel_rfl) (by kernel_rfl) (fun _ _ _ h => h) (Or.inl ⟨by rfl, ?_⟩) (by assumption) ?_
                    rotate_left
                    · (intro wS hSw; (try dsimp only at hSw); go_simp; (try with_reducible rfl))
                    try simp only [Act.put, List.setIfInBounds_toArray, List.set_cons_zero, List.set_cons_succ]
                    refine wpAnyH_take (i := 22) (oi := { dst := some 138, op := Op.move (Operand.tmp 137), type := 4, pos := "law.go:58", after := #[{ on := 21, ground := Ground.data }, { on := 19, ground := Ground.chain }, { on := 19, ground := Ground.guard }], guard := some (19, true) }) (v := ?_) rfl (by kernel_rfl) (by kernel_rfl) (by kernel_rfl) (fun _ _ _ h => h) (Or.inl ⟨by rfl, ?_⟩) (by assumption) ?_
                    rotate_left
                    · (intro wS hSw; (try dsimp only at hSw); go_simp; (try with_reducible rfl))
                    try simp only [Act.put, List.setIfInBounds_toArray, List.set_cons_zero, List.set_cons_succ]
                    refine wpAnyH_take (i := 23) (oi := { dst := some 139, op := Op.move (Operand.tmp 9), type := 22, pos := "law.go:58", after := #[{ on := 22, ground := Ground.guard }], guard := some (22, true) }) (v := undef) rfl (by kernel_rfl) (by kernel_rfl) (by kernel_rfl) (fun _ _ _ h => h) (Or.inr ⟨by rfl, rfl⟩) (by assumption) ?_
                    try simp only [Act.put, List.setIfInBounds_toArray, List.set_cons_zero, List.set_cons_succ]
                    refine wpAnyH_take (i := 24) (oi := { dst := some 140, op := Op.move (Operand.tmp 1), type := 23, pos := "law.go:58", after := #[{ on := 22, ground := Ground.guard }], guard := some (22, true) }) (v := undef) rfl (by kernel_rfl) (by kernel_rfl) (by kernel_rfl) (fun _ _ _ h => h) (Or.inr ⟨by rfl, rfl⟩) (by assumption) ?_
                    try simp only [Act.put, List.setIfInBounds_toArray, List.set_cons_zero, List.set_cons_succ]
                    refine wpAnyH_take (i := 25) (oi := { dst := some 141, op := Op.call { callee := Callee.value (Operand.func 8), args := #[Operand.tmp 139, Operand.tmp 140], argTypes := #[22, 23] }, type := 3, pos := "law.go:58", after := #[{ on := 23, ground := Ground.data }, { on := 24, ground := Ground.data }, { on := 22, ground := Ground.chain }, { on := 22, ground := Ground.guard }], guard := some (22, true) }) (v := undef) rfl (by kernel_rfl) (by kernel_rfl) (by kernel_rfl) (fun _ _ _ h => h) (Or.inr ⟨by rfl, rfl⟩) (by assumption) ?_
                    try simp only [Act.put, List.setIfInBounds_toArray, List.set_cons_zero, List.set_cons_succ]
                    refine wpAnyH_take (i := 26) (oi := { dst := some 142, op := Op.binOp BinOp.eql 3 (Operand.tmp 141) (Operand.const (Value.int IntKind.i64 0)) 3, type := 4, pos := "law.go:58", after := #[{ on := 25, ground := Ground.data }, { on := 22, ground := Ground.guard }], guard := some (22, true) }) (v := undef) rfl (by kernel_rfl) (by kernel_rfl) (by kernel_rfl) (fun _ _ _ h => h) (Or.inr ⟨by rfl, rfl⟩) (by assumption) ?_
                    try simp only [Act.put, List.setIfInBounds_toArray, List.set_cons_zero, List.set_cons_succ]
                    refine wpAnyH_take (i := 27) (oi := { dst := some 143, op := Op.pick (Operand.tmp 138) (Operand.tmp 142) (Operand.const (Value.bool false)), type := 4, pos := "law.go:58", after := #[{ on := 22, ground := Ground.data }, { on := 26, ground := Ground.data }, { on := 19, ground := Ground.guard }], guard := some (19, true) }) (v := ?_) rfl (by kernel_rfl) (by kernel_rfl) (by kernel_rfl) (fun _ _ _ h => h) (Or.inl ⟨by rfl, ?_⟩) (by assumption) ?_
                    rotate_left
                    · (intro wS hSw; (try dsimp only at hSw); go_simp; (try with_reducible rfl))
                    try simp only [Act.put, List.setIfInBounds_toArray, List.set_cons_zero, List.set_cons_succ]
                    refine wpAnyH_take (i := 28) (oi := { dst := some 144, op := Op.move (Operand.tmp 143), type := 4, pos := "law.go:58", after := #[{ on := 27, ground := Ground.data }, { on := 25, ground := Ground.chain }, { on := 19, ground := Ground.guard }], guard := some (19, true) }) (v := ?_) rfl (by kernel_rfl) (by kernel_rfl) (by kernel_rfl) (fun _ _ _ h => h) (Or.inl ⟨by rfl, ?_⟩) (by assumption) ?_
                    rotate_left
                    · (intro wS hSw; (try dsimp only at hSw); go_simp; (try with_reducible rfl))
                    try simp only [Act.put, List.setIfInBounds_toArray, List.set_cons_zero, List.set_cons_succ]
                    refine wpAnyH_take (i := 29) (oi := { dst := some 145, op := Op.move (Operand.tmp 10), type := 3, pos := "law.go:58", after := #[{ on := 28, ground := Ground.guard }], guard := some (28, false) }) (v := ?_) rfl (by kernel_rfl) (by kernel_rfl) (by kernel_rfl) (fun _ _ _ h => h) (Or.inl ⟨by rfl, ?_⟩) (by assumption) ?_
                    rotate_left
                    · (intro wS hSw; (try dsimp only at hSw); go_simp; (try with_reducible rfl))
                    try simp only [Act.put, List.setIfInBounds_toArray, List.set_cons_zero, List.set_cons_succ]
                    refine wpAnyH_take (i := 30) (oi := { dst := some 146, op := Op.binOp BinOp.geq 3 (Operand.tmp 145) (Operand.const (Value.int IntKind.i64 2)) 3, type := 4, pos := "law.go:58", after := #[{ on := 29, ground := Ground.data }, { on := 28, ground := Ground.guard }], guard := some (28, false) }) (v := ?_) rfl (by kernel_rfl) (by kernel_rfl) (by kernel_rfl) (fun _ _ _ h => h) (Or.inl ⟨by rfl, ?_⟩) (by assumption) ?_
                    rotate_left
                    · (intro wS hSw; (try dsimp only at hSw); go_simp; (try with_reducible rfl))
                    try simp only [Act.put, List.setIfInBounds_toArray, List.set_cons_zero, List.set_cons_succ]
                    refine wpAnyH_take (i := 31) (oi := { dst := some 147, op := Op.move (Operand.tmp 146), type := 4, pos := "law.go:58", after := #[{ on := 30, ground := Ground.data }, { on := 28, ground := Ground.chain }, { on := 28, ground := Ground.guard }], guard := some (28, false) }) (v := ?_) rfl (by kernel_rfl) (by kernel_rfl) (by kernel_rfl) (fun _ _ _ h => h) (Or.inl ⟨by rfl, ?_⟩) (by assumption) ?_
                    rotate_left
                    · (intro wS hSw; (try dsimp only at hSw); go_simp; (try with_reducible rfl))
                    try simp only [Act.put, List.setIfInBounds_toArray, List.set_cons_zero, List.set_cons_succ]
                    refine wpAnyH_take (i := 32) (oi := { dst := some 148, op := Op.move (Operand.tmp 9), type := 22, pos := "law.go:58", after := #[{ on := 31, ground := Ground.guard }], guard := some (31, true) }) (v := ?_) rfl (by kernel_rfl) (by kernel_rfl) (by kernel_rfl) (fun _ _ _ h => h) (Or.inl ⟨by rfl, ?_⟩) (by assumption) ?_
                    rotate_left
                    · (intro wS hSw; (try dsimp only at hSw); go_simp; (try with_reducible rfl))
                    try simp only [Act.put, List.setIfInBounds_toArray, List.set_cons_zero, List.set_cons_succ]
                    refine wpAnyH_take (i := 33) (oi := { dst := some 149, op := Op.move (Operand.tmp 1), type := 23, pos := "law.go:58", after := #[{ on := 31, ground := Ground.guard }], guard := some (31, true) }) (v := ?_) rfl (by kernel_rfl) (by kernel_rfl) (by kernel_rfl) (fun _ _ _ h => h) (Or.inl ⟨by rfl, ?_⟩) (by assumption) ?_
                    rotate_left
                    · (intro wS hSw; (try dsimp only at hSw); go_simp; (try with_reducible rfl))
                    try simp only [Act.put, List.setIfInBounds_toArray, List.set_cons_zero, List.set_cons_succ]
                    refine wpAnyH_take (i := 35) (oi := { dst := some 151, op := Op.move (Operand.tmp 7), type := 3, pos := "law.go:58", after := #[{ on := 31, ground := Ground.guard }], guard := some (31, true) }) (v := ?_) rfl (by kernel_rfl) (by kernel_rfl) (by kernel_rfl) (fun _ _ _ h => h) (Or.inl ⟨by rfl, ?_⟩) (by assumption) ?_
                    rotate_left
                    · (intro wS hSw; (try dsimp only at hSw); go_simp; (try with_reducible rfl))
                    try simp only [Act.put, List.setIfInBounds_toArray, List.set_cons_zero, List.set_cons_succ]
                    refine wpAnyH_take (i := 36) (oi := { dst := some 152, op := Op.binOp BinOp.add 3 (Operand.tmp 151) (Operand.const (Value.int IntKind.i64 1)) 3, type := 3, pos := "law.go:58", after := #[{ on := 35, ground := Ground.data }, { on := 31, ground := Ground.guard }], guard := some (31, true) }) (v := ?_) rfl (by kernel_rfl) (by kernel_rfl) (by kernel_rfl) (fun _ _ _ h => h) (Or.inl ⟨by rfl, ?_⟩) (by assumption) ?_
                    rotate_left
                    · (intro wS hSw; (try dsimp only at hSw); go_simp; (try with_reducible rfl))
                    try simp only [Act.put, List.setIfInBounds_toArray, List.set_cons_zero, List.set_cons_succ]
                    refine wpAnyH_ready (rs := [34]) (by kernel_rfl) (by simp) ?_
                    refine AllReadyH.cons (o := { dst := some 150, op := Op.call { callee := Callee.value (Operand.func 8), args := #[Operand.tmp 148, Operand.tmp 149], argTypes := #[22, 23] }, type := 3, pos := "law.go:58", after := #[{ on := 32, ground := Ground.data }, { on := 33, ground := Ground.data }, { on := 31, ground := Ground.chain }, { on := 31, ground := Ground.guard }], guard := some (31, true) }) rfl (fun K hK => ?_) AllReadyH.nil
                    go_simp
                    (first
                        | (go_at_call 8; ((with_reducible refine (Spread_len (ws.set j1 (z1 + 1)) ws.length (by simp) good (some ⟨ga, 0, none⟩) A2 ca c2 _ (Ha.held hHeld.2.1 hHeld.2.2) (H2.held hHeld.2.1 hHeld.2.2) n1 n2 WA.out).mono ?_); rw [SA.out]; rintro e' w3 ⟨rfl, hb3⟩))
                        | (go_at_call 8; ((with_reducible refine (Spread_len (ws.set j2 (z2 + 1)) ws.length (by simp) good (some ⟨gb, 0, none⟩) A2 cb c2 _ (Hb.held hHeld.2.1 hHeld.2.2) (H2.held hHeld.2.1 hHeld.2.2) n1 n2 WB.out).mono ?_); rw [SB'.out]; rintro e' w3 ⟨rfl, hb3⟩))
                        | (go_at_call 6; refine (awake_any _).mono ?_; rintro e' w3 ⟨rfl, hb3⟩))
                    go_wp2_with fail
                    refine hK.out _ _ ?_ (fun hNew => ?_)
                    · (first | exact ⟨HB.drew, by simp, by simp⟩ | exact kept_step (by assumption) hb3)
                    clear hK K hHeld
                    have hHeld := hNew
                    clear hNew
                    try simp only [Act.put, List.setIfInBounds_toArray, List.set_cons_zero, List.set_cons_succ]
                    refine wpAnyH_take (i := 37) (oi := { dst := some 153, op := Op.binOp BinOp.eql 3 (Operand.tmp 150) (Operand.tmp 152) 3, type := 4, pos := "law.go:58", after := #[{ on := 34, ground := Ground.data }, { on := 36, ground := Ground.data }, { on := 31, ground := Ground.guard }], guard := some (31, true) }) (v := ?_) rfl (by kernel_rfl) (by kernel_rfl) (by kernel_rfl) (fun _ _ _ h => h) (Or.inl ⟨by rfl, ?_⟩) (by assumption) ?_
                    rotate_left
                    · (intro wS hSw; (try dsimp only at hSw); go_simp; (try with_reducible rfl))
                    try simp only [Act.put, List.setIfInBounds_toArray, List.set_cons_zero, List.set_cons_succ]
                    refine wpAnyH_take (i := 38) (oi := { dst := some 154, op := Op.pick (Operand.tmp 147) (Operand.tmp 153) (Operand.const (Value.bool false)), type := 4, pos := "law.go:58", after := #[{ on := 31, ground := Ground.data }, { on := 37, ground := Ground.data }, { on := 28, ground := Ground.guard }], guard := some (28, false) }) (v := ?_) rfl (by kernel_rfl) (by kernel_rfl) (by kernel_rfl) (fun _ _ _ h => h) (Or.inl ⟨by rfl, ?_⟩) (by assumption) ?_
                    rotate_left
                    · (intro wS hSw; (try dsimp only at hSw); go_simp; (try with_reducible rfl))
                    try simp only [Act.put, List.setIfInBounds_toArray, List.set_cons_zero, List.set_cons_succ]
                    refine wpAnyH_take (i := 39) (oi := { dst := some 155, op := Op.pick (Operand.tmp 144) (Operand.const (Value.bool true)) (Operand.tmp 154), type := 4, pos := "law.go:58", after := #[{ on := 28, ground := Ground.data }, { on := 38, ground := Ground.data }, { on := 19, ground := Ground.guard }], guard := some (19, true) }) (v := ?_) rfl (by kernel_rfl) (by kernel_rfl) (by kernel_rfl) (fun _ _ _ h => h) (Or.inl ⟨by rfl, ?_⟩) (by assumption) ?_
                    rotate_left
                    · (intro wS hSw; (try dsimp only at hSw); go_simp; (try with_reducible rfl))
                    try simp only [Act.put, List.setIfInBounds_toArray, List.set_cons_zero, List.set_cons_succ]
                    refine wpAnyH_take (i := 40) (oi := { dst := some 156, op := Op.pick (Operand.tmp 135) (Operand.tmp 155) (Operand.const (Value.bool false)), type := 4, pos := "law.go:58", after := #[{ on := 19, ground := Ground.data }, { on := 39, ground := Ground.data }], guard := none }) (v := ?_) rfl (by kernel_rfl) (by kernel_rfl) (by kernel_rfl) (fun _ _ _ h => h) (Or.inl ⟨by rfl, ?_⟩) (by assumption) ?_
                    rotate_left
                    · (intro wS hSw; (try dsimp only at hSw); go_simp; (try with_reducible rfl))
                    try simp only [Act.put, List.setIfInBounds_toArray, List.set_cons_zero, List.set_cons_succ]
                    refine wpAnyH_take (i := 41) (oi := { dst := some 157, op := Op.move (Operand.tmp 156), type := 4, pos := "law.go:58", after := #[{ on := 40, ground := Ground.data }, { on := 34, ground := Ground.chain }], guard := none }) (v := ?_) rfl (by kernel_rfl) (by kernel_rfl) (by kernel_rfl) (fun _ _ _ h => h) (Or.inl ⟨by rfl, ?_⟩) (by assumption) ?_
                    rotate_left
                    · (intro wS hSw; (try dsimp only at hSw); go_simp; (try with_reducible rfl))
                    try simp only [Act.put, List.setIfInBounds_toArray, List.set_cons_zero, List.set_cons_succ]
                    refine wpAnyH_ready (rs := [42]) (by kernel_rfl) (by simp) ?_
                    refine AllReadyH.cons (o := { dst := some 158, op := Op.call { callee := Callee.value (Operand.func 6), args := #[], argTypes := #[] }, type := 4, pos := "law.go:58", after := #[{ on := 41, ground := Ground.chain }, { on := 41, ground := Ground.guard }], guard := some (41, true) }) rfl (fun K hK => ?_) AllReadyH.nil
                    go_simp
                    (first
                        | (go_at_call 8; ((with_reducible refine (Spread_len (ws.set j1 (z1 + 1)) ws.length (by simp) good (some ⟨ga, 0, none⟩) A2 ca c2 _ (Ha.held hHeld.2.1 hHeld.2.2) (H2.held hHeld.2.1 hHeld.2.2) n1 n2 WA.out).mono ?_); rw [SA.out]; rintro e' w3 ⟨rfl, hb3⟩))
                        | (go_at_call 8; ((with_reducible refine (Spread_len (ws.set j2 (z2 + 1)) ws.length (by simp) good (some ⟨gb, 0, none⟩) A2 cb c2 _ (Hb.held hHeld.2.1 hHeld.2.2) (H2.held hHeld.2.1 hHeld.2.2) n1 n2 WB.out).mono ?_); rw [SB'.out]; rintro e' w3 ⟨rfl, hb3⟩))
                        | (go_at_call 6; refine (awake_any _).mono ?_; rintro e' w3 ⟨rfl, hb3⟩))
                    go_wp2_with fail
                    refine hK.out _ _ ?_ (fun hNew => ?_)
                    · (first | exact ⟨HB.drew, by simp, by simp⟩ | exact kept_step (by assumption) hb3)
                    clear hK K hHeld
                    have hHeld := hNew
                    clear hNew
                    try simp only [Act.put, List.setIfInBounds_toArray, List.set_cons_zero, List.set_cons_succ]
                    refine wpAnyH_take (i := 43) (oi := { dst := some 159, op := Op.pick (Operand.tmp 157) (Operand.tmp 158) (Operand.const (Value.bool false)), type := 4, pos := "law.go:58", after := #[{ on := 41, ground := Ground.data }, { on := 42, ground := Ground.data }], guard := none }) (v := ?_) rfl (by kernel_rfl) (by kernel_rfl) (by kernel_rfl) (fun _ _ _ h => h) (Or.inl ⟨by rfl, ?_⟩) (by assumption) ?_
                    rotate_left
                    · (intro wS hSw; (try dsimp only at hSw); go_simp; (try with_reducible rfl))
                    try simp only [Act.put, List.setIfInBounds_toArray, List.set_cons_zero, List.set_cons_succ]
                    refine wpAnyH_take (i := 44) (oi := { dst := some 4, op := Op.assign (Operand.tmp 159), type := 4, pos := "law.go:58", after := #[{ on := 43, ground := Ground.data }, { on := 42, ground := Ground.chain }, { on := 0, ground := Ground.phase }, { on := 1, ground := Ground.phase }, { on := 2, ground := Ground.phase }, { on := 3, ground := Ground.phase }, { on := 4, ground := Ground.phase }, { on := 5, ground := Ground.phase }, { on := 6, ground := Ground.phase }, { on := 7, ground := Ground.phase }, { on := 8, ground := Ground.phase }, { on := 9, ground := Ground.phase }, { on := 10, ground := Ground.phase }, { on := 11, ground := Ground.phase }, { on := 12, ground := Ground.phase }, { on := 13, ground := Ground.phase }, { on := 14, ground := Ground.phase }, { on := 15, ground := Ground.phase }, { on := 16, ground := Ground.phase }, { on := 17, ground := Ground.phase }, { on := 18, ground := Ground.phase }, { on := 19, ground := Ground.phase }, { on := 20, ground := Ground.phase }, { on := 21, ground := Ground.phase }, { on := 22, ground := Ground.phase }, { on := 23, ground := Ground.phase }, { on := 24, ground := Ground.phase }, { on := 25, ground := Ground.phase }, { on := 26, ground := Ground.phase }, { on := 27, ground := Ground.phase }, { on := 28, ground := Ground.phase }, { on := 29, ground := Ground.phase }, { on := 30, ground := Ground.phase }, { on := 31, ground := Ground.phase }, { on := 32, ground := Ground.phase }, { on := 33, ground := Ground.phase }, { on := 34, ground := Ground.phase }, { on := 35, ground := Ground.phase }, { on := 36, ground := Ground.phase }, { on := 37, ground := Ground.phase }, { on := 38, ground := Ground.phase }, { on := 39, ground := Ground.phase }, { on := 40, ground := Ground.phase }, { on := 41, ground := Ground.phase }, { on := 42, ground := Ground.phase }, { on := 43, ground := Ground.phase }], guard := none }) (v := ?_) rfl (by kernel_rfl) (by kernel_rfl) (by kernel_rfl) (fun _ _ _ h => h) (Or.inl ⟨by rfl, ?_⟩) (by assumption) ?_
                    rotate_left
                    · (intro wS hSw; (try dsimp only at hSw); go_simp; (try with_reducible rfl))
                    try simp only [Act.put, List.setIfInBounds_toArray, List.set_cons_zero, List.set_cons_succ]
                    refine wpAnyH_done (by kernel_rfl) ?_ _
                    refine NoPanic.normal ?_
                    go_wp2
                    go_ret
                    exact ⟨rfl, hHeld.1⟩
                  · have t5 : sa ≤ z2 - z1 := by omega
                    clear t2 f1 f2 f3 hfew hc2 SB
                    go_wp2
                    refine wp_region_noPanic ?_
                    refine wp_region_held_drew (S := (fun w' => Below w.heap.size w w' ∧ wr.heap.size ≤ w'.heap.size ∧ ∀ (k o : Nat), k < wr.heap.size → w'.cell? ⟨k, o, none⟩ = wr.cell? ⟨k, o, none⟩)) (by kernel_rfl) ?_ (fun hHeld => ?_)
                    · (first | exact ⟨HB.drew, by simp, by simp⟩ | exact kept_step (by assumption) hb3)
                    refine wpAnyH_take (i := 0) (oi := { dst := some 116, op := Op.move (Operand.tmp 7), type := 3, pos := "law.go:58", after := #[], guard := none }) (v := ?_) rfl (by kernel_rfl) (by kernel_rfl) (by kernel_rfl) (fun _ _ _ h => h) (Or.inl ⟨by rfl, ?_⟩) (by assumption) ?_
                    rotate_left
                    · (intro wS hSw; (try dsimp only at hSw); go_simp; (try with_reducible rfl))
                    try simp only [Act.put, List.setIfInBounds_toArray, List.set_cons_zero, List.set_cons_succ]
                    refine wpAnyH_take (i := 1) (oi := { dst := some 117, op := Op.move (Operand.tmp 0), type := 22, pos := "law.go:58", after := #[], guard := none }) (v := ?_) rfl (by kernel_rfl) (by kernel_rfl) (by kernel_rfl) (fun _ _ _ h => h) (Or.inl ⟨by rfl, ?_⟩) (by assumption) ?_
                    rotate_left
                    · (intro wS hSw; (try dsimp only at hSw); go_simp; (try with_reducible rfl))
                    try simp only [Act.put, List.setIfInBounds_toArray, List.set_cons_zero, List.set_cons_succ]
                    refine wpAnyH_take (i := 2) (oi := { dst := some 118, op := Op.move (Operand.tmp 6), type := 3, pos := "law.go:58", after := #[], guard := none }) (v := ?_) rfl (by kernel_rfl) (by kernel_rfl) (by kernel_rfl) (fun _ _ _ h => h) (Or.inl ⟨by rfl, ?_⟩) (by assumption) ?_
                    rotate_left
                    · (intro wS hSw; (try dsimp only at hSw); go_simp; (try with_reducible rfl))
                    try simp only [Act.put, List.setIfInBounds_toArray, List.set_cons_zero, List.set_cons_succ]
                    refine wpAnyH_take (i := 3) (oi := { dst := some 119, op := Op.indexAddr 22 (Operand.tmp 117) (Operand.tmp 118), type := 0, pos := "law.go:58", after := #[{ on := 1, ground := Ground.data }, { on := 2, ground := Ground.data }], guard := none }) (v := ?_) rfl (by kernel_rfl) (by kernel_rfl) (by kernel_rfl) (fun _ _ _ h => h) (Or.inl ⟨by rfl, ?_⟩) (by assumption) ?_
                    rotate_left
                    · (intro wS hSw; (try dsimp only at hSw); go_simp; (try with_reducible rfl))
                    try simp only [Act.put, List.setIfInBounds_toArray, List.set_cons_zero, List.set_cons_succ]
                    refine wpAnyH_take (i := 4) (oi := { dst := some 120, op := Op.load 3 (Operand.tmp 119), type := 3, pos := "law.go:58", after := #[{ on := 3, ground := Ground.data }], guard := none }) (v := ?_) rfl (by kernel_rfl) (by kernel_rfl) (by kernel_rfl) (fun _ _ _ h => h) (Or.inl ⟨by rfl, ?_⟩) (by assumption) ?_
                    rotate_left
                    · (intro wS hSw; (try dsimp only at hSw); go_simp; (try with_reducible rfl))
                    try simp only [Act.put, List.setIfInBounds_toArray, List.set_cons_zero, List.set_cons_succ]
                    refine wpAnyH_take (i := 5) (oi := { dst := some 121, op := Op.move (Operand.tmp 0), type := 22, pos := "law.go:58", after := #[], guard := none }) (v := ?_) rfl (by kernel_rfl) (by kernel_rfl) (by kernel_rfl) (fun _ _ _ h => h) (Or.inl ⟨by rfl, ?_⟩) (by assumption) ?_
                    rotate_left
                    · (intro wS hSw; (try dsimp only at hSw); go_simp; (try with_reducible rfl))
                    try simp only [Act.put, List.setIfInBounds_toArray, List.set_cons_zero, List.set_cons_succ]
                    refine wpAnyH_take (i := 6) (oi := { dst := some 122, op := Op.move (Operand.tmp 5), type := 3, pos := "law.go:58", after := #[], guard := none }) (v := ?_) rfl (by kernel_rfl) (by kernel_rfl) (by kernel_rfl) (fun _ _ _ h => h) (Or.inl ⟨by rfl, ?_⟩) (by assumption) ?_
                    rotate_left
                    · (intro wS hSw; (try dsimp only at hSw); go_simp; (try with_reducible rfl))
                    try simp only [Act.put, List.setIfInBounds_toArray, List.set_cons_zero, List.set_cons_succ]
                    refine wpAnyH_take (i := 7) (oi := { dst := some 123, op := Op.indexAddr 22 (Operand.tmp 121) (Operand.tmp 122), type := 0, pos := "law.go:58", after := #[{ on := 5, ground := Ground.data }, { on := 6, ground := Ground.data }], guard := none }) (v := ?_) rfl (by kernel_rfl) (by kernel_rfl) (by kernel_rfl) (fun _ _ _ h => h) (Or.inl ⟨by rfl, ?_⟩) (by assumption) ?_
                    rotate_left
                    · (intro wS hSw; (try dsimp only at hSw); go_simp; (try with_reducible rfl))
                    try simp only [Act.put, List.setIfInBounds_toArray, List.set_cons_zero, List.set_cons_succ]
                    refine wpAnyH_take (i := 8) (oi := { dst := some 124, op := Op.load 3 (Operand.tmp 123), type := 3, pos := "law.go:58", after := #[{ on := 7, ground := Ground.data }], guard := none }) (v := ?_) rfl (by kernel_rfl) (by kernel_rfl) (by kernel_rfl) (fun _ _ _ h => h) (Or.inl ⟨by rfl, ?_⟩) (by assumption) ?_
                    rotate_left
                    · (intro wS hSw; (try dsimp only at hSw); go_simp; (try with_reducible rfl))
                    try simp only [Act.put, List.setIfInBounds_toArray, List.set_cons_zero, List.set_cons_succ]
                    refine wpAnyH_take (i := 9) (oi := { dst := some 125, op := Op.binOp BinOp.sub 3 (Operand.tmp 120) (Operand.tmp 124) 3, type := 3, pos := "law.go:58", after := #[{ on := 4, ground := Ground.data }, { on := 8, ground := Ground.data }], guard := none }) (v := ?_) rfl (by kernel_rfl) (by kernel_rfl) (by kernel_rfl) (fun _ _ _ h => h) (Or.inl ⟨by rfl, ?_⟩) (by assumption) ?_
                    rotate_left
                    · (intro wS hSw; (try dsimp only at hSw); go_simp; (try with_reducible rfl))
                    try simp only [Act.put, List.setIfInBounds_toArray, List.set_cons_zero, List.set_cons_succ]
                    refine wpAnyH_take (i := 10) (oi := { dst := some 126, op := Op.binOp BinOp.eql 3 (Operand.tmp 116) (Operand.tmp 125) 3, type := 4, pos := "law.go:58", after := #[{ on := 0, ground := Ground.data }, { on := 9, ground := Ground.data }], guard := none }) (v := ?_) rfl (by kernel_rfl) (by kernel_rfl) (by kernel_rfl) (fun _ _ _ h => h) (Or.inl ⟨by rfl, ?_⟩) (by assumption) ?_
                    rotate_left
                    · (intro wS hSw; (try dsimp only at hSw); go_simp; (try with_reducible rfl))
                    try simp only [Act.put, List.setIfInBounds_toArray, List.set_cons_zero, List.set_cons_succ]
                    refine wpAnyH_take (i := 11) (oi := { dst := some 127, op := Op.move (Operand.tmp 126), type := 4, pos := "law.go:58", after := #[{ on := 10, ground := Ground.data }], guard := none }) (v := ?_) rfl (by kernel_rfl) (by kernel_rfl) (by kernel_rfl) (fun _ _ _ h => h) (Or.inl ⟨by rfl, ?_⟩) (by assumption) ?_
                    rotate_left
                    · (intro wS hSw; (try dsimp only at hSw); go_simp; (try with_reducible rfl))
                    try simp only [Act.put, List.setIfInBounds_toArray, List.set_cons_zero, List.set_cons_succ]
                    refine wpAnyH_take (i := 12) (oi := { dst := some 128, op := Op.move (Operand.tmp 8), type := 22, pos := "law.go:58", after := #[{ on := 11, ground := Ground.guard }], guard := some (11, true) }) (v := ?_) rfl (by kernel_rfl) (by kernel_rfl) (by kernel_rfl) (fun _ _ _ h => h) (Or.inl ⟨by rfl, ?_⟩) (by assumption) ?_
                    rotate_left
                    · (intro wS hSw; (try dsimp only at hSw); go_simp; (try with_reducible rfl))
                    try simp only [Act.put, List.setIfInBounds_toArray, List.set_cons_zero, List.set_cons_succ]
                    refine wpAnyH_take (i := 13) (oi := { dst := some 129, op := Op.move (Operand.tmp 1), type := 23, pos := "law.go:58", after := #[{ on := 11, ground := Ground.guard }], guard := some (11, true) }) (v := ?_) rfl (by kernel_rfl) (by kernel_rfl) (by kernel_rfl) (fun _ _ _ h => h) (Or.inl ⟨by rfl, ?_⟩) (by assumption) ?_
                    rotate_left
                    · (intro wS hSw; (try dsimp only at hSw); go_simp; (try with_reducible rfl))
                    try simp only [Act.put, List.setIfInBounds_toArray, List.set_cons_zero, List.set_cons_succ]
                    refine wpAnyH_take (i := 15) (oi := { dst := some 131, op := Op.move (Operand.tmp 7), type := 3, pos := "law.go:58", after := #[{ on := 11, ground := Ground.guard }], guard := some (11, true) }) (v := ?_) rfl (by kernel_rfl) (by kernel_rfl) (by kernel_rfl) (fun _ _ _ h => h) (Or.inl ⟨by rfl, ?_⟩) (by assumption) ?_
                    rotate_left
                    · (intro wS hSw; (try dsimp only at hSw); go_simp; (try with_reducible rfl))
                    try simp only [Act.put, List.setIfInBounds_toArray, List.set_cons_zero, List.set_cons_succ]
                    refine wpAnyH_take (i := 16) (oi := { dst := some 132, op := Op.call { callee := Callee.builtin Builtin.max, args := #[Operand.tmp 131, Operand.const (Value.int IntKind.i64 1)], argTypes := #[3, 3] }, type := 3, pos := "law.go:58", after := #[{ on := 15, ground := Ground.data }, { on := 11, ground := Ground.guard }], guard := some (11, true) }) (v := ?_) rfl (by kernel_rfl) (by kernel_rfl) (by kernel_rfl) (fun _ _ _ h => h) (Or.inl ⟨by rfl, ?_⟩) (by assumption) ?_
                    rotate_left
                    · (intro wS hSw; (try dsimp only at hSw); go_simp; (try with_reducible rfl))
                    try simp only [Act.put, List.setIfInBounds_toArray, List.set_cons_zero, List.set_cons_succ]
                    refine wpAnyH_ready (rs := [14]) (by kernel_rfl) (by simp) ?_
                    refine AllReadyH.cons (o := { dst := some 130, op := Op.call { callee := Callee.value (Operand.func 8), args := #[Operand.tmp 128, Operand.tmp 129], argTypes := #[22, 23] }, type := 3, pos := "law.go:58", after := #[{ on := 12, ground := Ground.data }, { on := 13, ground := Ground.data }, { on := 11, ground := Ground.chain }, { on := 11, ground := Ground.guard }], guard := some (11, true) }) rfl (fun K hK => ?_) AllReadyH.nil
                    go_simp
                    (first
                        | (go_at_call 8; ((with_reducible refine (Spread_len (ws.set j1 (z1 + 1)) ws.length (by simp) good (some ⟨ga, 0, none⟩) A2 ca c2 _ (Ha.held hHeld.2.1 hHeld.2.2) (H2.held hHeld.2.1 hHeld.2.2) n1 n2 WA.out).mono ?_); rw [SA.out]; rintro e' w3 ⟨rfl, hb3⟩))
                        | (go_at_call 8; ((with_reducible refine (Spread_len (ws.set j2 (z2 + 1)) ws.length (by simp) good (some ⟨gb, 0, none⟩) A2 cb c2 _ (Hb.held hHeld.2.1 hHeld.2.2) (H2.held hHeld.2.1 hHeld.2.2) n1 n2 WB.out).mono ?_); rw [SB'.out]; rintro e' w3 ⟨rfl, hb3⟩))
                        | (go_at_call 6; refine (awake_any _).mono ?_; rintro e' w3 ⟨rfl, hb3⟩))
                    go_wp2_with fail
                    refine hK.out _ _ ?_ (fun hNew => ?_)
                    · (first | exact ⟨HB.drew, by simp, by simp⟩ | exact kept_step (by assumption) hb3)
                    clear hK K hHeld
                    have hHeld := hNew
                    clear hNew
                    try simp only [Act.put, List.setIfInBounds_toArray, List.set_cons_zero, List.set_cons_succ]
                    refine wpAnyH_take (i := 17) (oi := { dst := some 133, op := Op.binOp BinOp.leq 3 (Operand.tmp 130) (Operand.tmp 132) 3, type := 4, pos := "law.go:58", after := #[{ on := 14, ground := Ground.data }, { on := 16, ground := Ground.data }, { on := 11, ground := Ground.guard }], guard := some (11, true) }) (v := ?_) rfl (by kernel_rfl) (by kernel_rfl) (by kernel_rfl) (fun _ _ _ h => h) (Or.inl ⟨by rfl, ?_⟩) (by assumption) ?_
                    rotate_left
                    · (intro wS hSw; (try dsimp only at hSw); go_simp; (try with_reducible rfl))
                    try simp only [Act.put, List.setIfInBounds_toArray, List.set_cons_zero, List.set_cons_succ]
                    refine wpAnyH_take (i := 18) (oi := { dst := some 134, op := Op.pick (Operand.tmp 127) (Operand.tmp 133) (Operand.const (Value.bool false)), type := 4, pos := "law.go:58", after := #[{ on := 11, ground := Ground.data }, { on := 17, ground := Ground.data }], guard := none }) (v := ?_) rfl (by kernel_rfl) (by kernel_rfl) (by kernel_rfl) (fun _ _ _ h => h) (Or.inl ⟨by rfl, ?_⟩) (by assumption) ?_
                    rotate_left
                    · (intro wS hSw; (try dsimp only at hSw); go_simp; (try with_reducible rfl))
                    try simp only [Act.put, List.setIfInBounds_toArray, List.set_cons_zero, List.set_cons_succ]
                    refine wpAnyH_take (i := 19) (oi := { dst := some 135, op := Op.move (Operand.tmp 134), type := 4, pos := "law.go:58", after := #[{ on := 18, ground := Ground.data }, { on := 14, ground := Ground.chain }], guard := none }) (v := ?_) rfl (by kernel_rfl) (by kernel_rfl) (by kernel_rfl) (fun _ _ _ h => h) (Or.inl ⟨by rfl, ?_⟩) (by assumption) ?_
                    rotate_left
                    · (intro wS hSw; (try dsimp only at hSw); go_simp; (try with_reducible rfl))
                    try simp only [Act.put, List.setIfInBounds_toArray, List.set_cons_zero, List.set_cons_succ]
                    refine wpAnyH_take (i := 20) (oi := { dst := some 136, op := Op.move (Operand.tmp 10), type := 3, pos := "law.go:58", after := #[{ on := 19, ground := Ground.guard }], guard := some (19, true) }) (v := ?_) rfl (by kernel_rfl) (by kernel_rfl) (by kernel_rfl) (fun _ _ _ h => h) (Or.inl ⟨by rfl, ?_⟩) (by assumption) ?_
                    rotate_left
                    · (intro wS hSw; (try dsimp only at hSw); go_simp; (try with_reducible rfl))
                    try simp only [Act.put, List.setIfInBounds_toArray, List.set_cons_zero, List.set_cons_succ]
                    refine wpAnyH_take (i := 21) (oi := { dst := some 137, op := Op.binOp BinOp.lss 3 (Operand.tmp 136) (Operand.const (Value.int IntKind.i64 2)) 3, type := 4, pos := "law.go:58", after := #[{ on := 20, ground := Ground.data }, { on := 19, ground := Ground.guard }], guard := some (19, true) }) (v := ?_) rfl (by kernel_rfl) (by kernel_rfl) (by kernel_rfl) (fun _ _ _ h => h) (Or.inl ⟨by rfl, ?_⟩) (by assumption) ?_
                    rotate_left
                    · (intro wS hSw; (try dsimp only at hSw); go_simp; (try with_reducible rfl))
                    try simp only [Act.put, List.setIfInBounds_toArray, List.set_cons_zero, List.set_cons_succ]
                    refine wpAnyH_take (i := 22) (oi := { dst := some 138, op := Op.move (Operand.tmp 137), type := 4, pos := "law.go:58", after := #[{ on := 21, ground := Ground.data }, { on := 19, ground := Ground.chain }, { on := 19, ground := Ground.guard }], guard := some (19, true) }) (v := ?_) rfl (by kernel_rfl) (by kernel_rfl) (by kernel_rfl) (fun _ _ _ h => h) (Or.inl ⟨by rfl, ?_⟩) (by assumption) ?_
                    rotate_left
                    · (intro wS hSw; (try dsimp only at hSw); go_simp; (try with_reducible rfl))
                    try simp only [Act.put, List.setIfInBounds_toArray, List.set_cons_zero, List.set_cons_succ]
                    refine wpAnyH_take (i := 23) (oi := { dst := some 139, op := Op.move (Operand.tmp 9), type := 22, pos := "law.go:58", after := #[{ on := 22, ground := Ground.guard }], guard := some (22, true) }) (v := undef) rfl (by kernel_rfl) (by kernel_rfl) (by kernel_rfl) (fun _ _ _ h => h) (Or.inr ⟨by rfl, rfl⟩) (by assumption) ?_
                    try simp only [Act.put, List.setIfInBounds_toArray, List.set_cons_zero, List.set_cons_succ]
                    refine wpAnyH_take (i := 24) (oi := { dst := some 140, op := Op.move (Operand.tmp 1), type := 23, pos := "law.go:58", after := #[{ on := 22, ground := Ground.guard }], guard := some (22, true) }) (v := undef) rfl (by kernel_rfl) (by kernel_rfl) (by kernel_rfl) (fun _ _ _ h => h) (Or.inr ⟨by rfl, rfl⟩) (by assumption) ?_
                    try simp only [Act.put, List.setIfInBounds_toArray, List.set_cons_zero, List.set_cons_succ]
                    refine wpAnyH_take (i := 25) (oi := { dst := some 141, op := Op.call { callee := Callee.value (Operand.func 8), args := #[Operand.tmp 139, Operand.tmp 140], argTypes := #[22, 23] }, type := 3, pos := "law.go:58", after := #[{ on := 23, ground := Ground.data }, { on := 24, ground := Ground.data }, { on := 22, ground := Ground.chain }, { on := 22, ground := Ground.guard }], guard := some (22, true) }) (v := undef) rfl (by kernel_rfl) (by kernel_rfl) (by kernel_rfl) (fun _ _ _ h => h) (Or.inr ⟨by rfl, rfl⟩) (by assumption) ?_
                    try simp only [Act.put, List.setIfInBounds_toArray, List.set_cons_zero, List.set_cons_succ]
                    refine wpAnyH_take (i := 26) (oi := { dst := some 142, op := Op.binOp BinOp.eql 3 (Operand.tmp 141) (Operand.const (Value.int IntKind.i64 0)) 3, type := 4, pos := "law.go:58", after := #[{ on := 25, ground := Ground.data }, { on := 22, ground := Ground.guard }], guard := some (22, true) }) (v := undef) rfl (by kernel_rfl) (by kernel_rfl) (by kernel_rfl) (fun _ _ _ h => h) (Or.inr ⟨by rfl, rfl⟩) (by assumption) ?_
                    try simp only [Act.put, List.setIfInBounds_toArray, List.set_cons_zero, List.set_cons_succ]
                    refine wpAnyH_take (i := 27) (oi := { dst := some 143, op := Op.pick (Operand.tmp 138) (Operand.tmp 142) (Operand.const (Value.bool false)), type := 4, pos := "law.go:58", after := #[{ on := 22, ground := Ground.data }, { on := 26, ground := Ground.data }, { on := 19, ground := Ground.guard }], guard := some (19, true) }) (v := ?_) rfl (by kernel_rfl) (by kernel_rfl) (by kernel_rfl) (fun _ _ _ h => h) (Or.inl ⟨by rfl, ?_⟩) (by assumption) ?_
                    rotate_left
                    · (intro wS hSw; (try dsimp only at hSw); go_simp; (try with_reducible rfl))
                    try simp only [Act.put, List.setIfInBounds_toArray, List.set_cons_zero, List.set_cons_succ]
                    refine wpAnyH_take (i := 28) (oi := { dst := some 144, op := Op.move (Operand.tmp 143), type := 4, pos := "law.go:58", after := #[{ on := 27, ground := Ground.data }, { on := 25, ground := Ground.chain }, { on := 19, ground := Ground.guard }], guard := some (19, true) }) (v := ?_) rfl (by kernel_rfl) (by kernel_rfl) (by kernel_rfl) (fun _ _ _ h => h) (Or.inl ⟨by rfl, ?_⟩) (by assumption) ?_
                    rotate_left
                    · (intro wS hSw; (try dsimp only at hSw); go_simp; (try with_reducible rfl))
                    try simp only [Act.put, List.setIfInBounds_toArray, List.set_cons_zero, List.set_cons_succ]
                    refine wpAnyH_take (i := 29) (oi := { dst := some 145, op := Op.move (Operand.tmp 10), type := 3, pos := "law.go:58", after := #[{ on := 28, ground := Ground.guard }], guard := some (28, false) }) (v := ?_) rfl (by kernel_rfl) (by kernel_rfl) (by kernel_rfl) (fun _ _ _ h => h) (Or.inl ⟨by rfl, ?_⟩) (by assumption) ?_
                    rotate_left
                    · (intro wS hSw; (try dsimp only at hSw); go_simp; (try with_reducible rfl))
                    try simp only [Act.put, List.setIfInBounds_toArray, List.set_cons_zero, List.set_cons_succ]
                    refine wpAnyH_take (i := 30) (oi := { dst := some 146, op := Op.binOp BinOp.geq 3 (Operand.tmp 145) (Operand.const (Value.int IntKind.i64 2)) 3, type := 4, pos := "law.go:58", after := #[{ on := 29, ground := Ground.data }, { on := 28, ground := Ground.guard }], guard := some (28, false) }) (v := ?_) rfl (by kernel_rfl) (by kernel_rfl) (by kernel_rfl) (fun _ _ _ h => h) (Or.inl ⟨by rfl, ?_⟩) (by assumption) ?_
                    rotate_left
                    · (intro wS hSw; (try dsimp only at hSw); go_simp; (try with_reducible rfl))
                    try simp only [Act.put, List.setIfInBounds_toArray, List.set_cons_zero, List.set_cons_succ]
                    refine wpAnyH_take (i := 31) (oi := { dst := some 147, op := Op.move (Operand.tmp 146), type := 4, pos := "law.go:58", after := #[{ on := 30, ground := Ground.data }, { on := 28, ground := Ground.chain }, { on := 28, ground := Ground.guard }], guard := some (28, false) }) (v := ?_) rfl (by kernel_rfl) (by kernel_rfl) (by kernel_rfl) (fun _ _ _ h => h) (Or.inl ⟨by rfl, ?_⟩) (by assumption) ?_
                    rotate_left
                    · (intro wS hSw; (try dsimp only at hSw); go_simp; (try with_reducible rfl))
                    try simp only [Act.put, List.setIfInBounds_toArray, List.set_cons_zero, List.set_cons_succ]
                    refine wpAnyH_take (i := 32) (oi := { dst := some 148, op := Op.move (Operand.tmp 9), type := 22, pos := "law.go:58", after := #[{ on := 31, ground := Ground.guard }], guard := some (31, true) }) (v := ?_) rfl (by kernel_rfl) (by kernel_rfl) (by kernel_rfl) (fun _ _ _ h => h) (Or.inl ⟨by rfl, ?_⟩) (by assumption) ?_
                    rotate_left
                    · (intro wS hSw; (try dsimp only at hSw); go_simp; (try with_reducible rfl))
                    try simp only [Act.put, List.setIfInBounds_toArray, List.set_cons_zero, List.set_cons_succ]
                    refine wpAnyH_take (i := 33) (oi := { dst := some 149, op := Op.move (Operand.tmp 1), type := 23, pos := "law.go:58", after := #[{ on := 31, ground := Ground.guard }], guard := some (31, true) }) (v := ?_) rfl (by kernel_rfl) (by kernel_rfl) (by kernel_rfl) (fun _ _ _ h => h) (Or.inl ⟨by rfl, ?_⟩) (by assumption) ?_
                    rotate_left
                    · (intro wS hSw; (try dsimp only at hSw); go_simp; (try with_reducible rfl))
                    try simp only [Act.put, List.setIfInBounds_toArray, List.set_cons_zero, List.set_cons_succ]
                    refine wpAnyH_take (i := 35) (oi := { dst := some 151, op := Op.move (Operand.tmp 7), type := 3, pos := "law.go:58", after := #[{ on := 31, ground := Ground.guard }], guard := some (31, true) }) (v := ?_) rfl (by kernel_rfl) (by kernel_rfl) (by kernel_rfl) (fun _ _ _ h => h) (Or.inl ⟨by rfl, ?_⟩) (by assumption) ?_
                    rotate_left
                    · (intro wS hSw; (try dsimp only at hSw); go_simp; (try with_reducible rfl))
                    try simp only [Act.put, List.setIfInBounds_toArray, List.set_cons_zero, List.set_cons_succ]
                    refine wpAnyH_take (i := 36) (oi := { dst := some 152, op := Op.binOp BinOp.add 3 (Operand.tmp 151) (Operand.const (Value.int IntKind.i64 1)) 3, type := 3, pos := "law.go:58", after := #[{ on := 35, ground := Ground.data }, { on := 31, ground := Ground.guard }], guard := some (31, true) }) (v := ?_) rfl (by kernel_rfl) (by kernel_rfl) (by kernel_rfl) (fun _ _ _ h => h) (Or.inl ⟨by rfl, ?_⟩) (by assumption) ?_
                    rotate_left
                    · (intro wS hSw; (try dsimp only at hSw); go_simp; (try with_reducible rfl))
                    try simp only [Act.put, List.setIfInBounds_toArray, List.set_cons_zero, List.set_cons_succ]
                    refine wpAnyH_ready (rs := [34]) (by kernel_rfl) (by simp) ?_
                    refine AllReadyH.cons (o := { dst := some 150, op := Op.call { callee := Callee.value (Operand.func 8), args := #[Operand.tmp 148, Operand.tmp 149], argTypes := #[22, 23] }, type := 3, pos := "law.go:58", after := #[{ on := 32, ground := Ground.data }, { on := 33, ground := Ground.data }, { on := 31, ground := Ground.chain }, { on := 31, ground := Ground.guard }], guard := some (31, true) }) rfl (fun K hK => ?_) AllReadyH.nil
                    go_simp
                    (first
                        | (go_at_call 8; ((with_reducible refine (Spread_len (ws.set j1 (z1 + 1)) ws.length (by simp) good (some ⟨ga, 0, none⟩) A2 ca c2 _ (Ha.held hHeld.2.1 hHeld.2.2) (H2.held hHeld.2.1 hHeld.2.2) n1 n2 WA.out).mono ?_); rw [SA.out]; rintro e' w3 ⟨rfl, hb3⟩))
                        | (go_at_call 8; ((with_reducible refine (Spread_len (ws.set j2 (z2 + 1)) ws.length (by simp) good (some ⟨gb, 0, none⟩) A2 cb c2 _ (Hb.held hHeld.2.1 hHeld.2.2) (H2.held hHeld.2.1 hHeld.2.2) n1 n2 WB.out).mono ?_); rw [SB'.out]; rintro e' w3 ⟨rfl, hb3⟩))
                        | (go_at_call 6; refine (awake_any _).mono ?_; rintro e' w3 ⟨rfl, hb3⟩))
                    go_wp2_with fail
                    refine hK.out _ _ ?_ (fun hNew => ?_)
                    · (first | exact ⟨HB.drew, by simp, by simp⟩ | exact kept_step (by assumption) hb3)
                    clear hK K hHeld
                    have hHeld := hNew
                    clear hNew
                    try simp only [Act.put, List.setIfInBounds_toArray, List.set_cons_zero, List.set_cons_succ]
                    refine wpAnyH_take (i := 37) (oi := { dst := some 153, op := Op.binOp BinOp.eql 3 (Operand.tmp 150) (Operand.tmp 152) 3, type := 4, pos := "law.go:58", after := #[{ on := 34, ground := Ground.data }, { on := 36, ground := Ground.data }, { on := 31, ground := Ground.guard }], guard := some (31, true) }) (v := ?_) rfl (by kernel_rfl) (by kernel_rfl) (by kernel_rfl) (fun _ _ _ h => h) (Or.inl ⟨by rfl, ?_⟩) (by assumption) ?_
                    rotate_left
                    · (intro wS hSw; (try dsimp only at hSw); go_simp; (try with_reducible rfl))
                    try simp only [Act.put, List.setIfInBounds_toArray, List.set_cons_zero, List.set_cons_succ]
                    refine wpAnyH_take (i := 38) (oi := { dst := some 154, op := Op.pick (Operand.tmp 147) (Operand.tmp 153) (Operand.const (Value.bool false)), type := 4, pos := "law.go:58", after := #[{ on := 31, ground := Ground.data }, { on := 37, ground := Ground.data }, { on := 28, ground := Ground.guard }], guard := some (28, false) }) (v := ?_) rfl (by kernel_rfl) (by kernel_rfl) (by kernel_rfl) (fun _ _ _ h => h) (Or.inl ⟨by rfl, ?_⟩) (by assumption) ?_
                    rotate_left
                    · (intro wS hSw; (try dsimp only at hSw); go_simp; (try with_reducible rfl))
                    try simp only [Act.put, List.setIfInBounds_toArray, List.set_cons_zero, List.set_cons_succ]
                    refine wpAnyH_take (i := 39) (oi := { dst := some 155, op := Op.pick (Operand.tmp 144) (Operand.const (Value.bool true)) (Operand.tmp 154), type := 4, pos := "law.go:58", after := #[{ on := 28, ground := Ground.data }, { on := 38, ground := Ground.data }, { on := 19, ground := Ground.guard }], guard := some (19, true) }) (v := ?_) rfl (by kernel_rfl) (by kernel_rfl) (by kernel_rfl) (fun _ _ _ h => h) (Or.inl ⟨by rfl, ?_⟩) (by assumption) ?_
                    rotate_left
                    · (intro wS hSw; (try dsimp only at hSw); go_simp; (try with_reducible rfl))
                    try simp only [Act.put, List.setIfInBounds_toArray, List.set_cons_zero, List.set_cons_succ]
                    refine wpAnyH_take (i := 40) (oi := { dst := some 156, op := Op.pick (Operand.tmp 135) (Operand.tmp 155) (Operand.const (Value.bool false)), type := 4, pos := "law.go:58", after := #[{ on := 19, ground := Ground.data }, { on := 39, ground := Ground.data }], guard := none }) (v := ?_) rfl (by kernel_rfl) (by kernel_rfl) (by kernel_rfl) (fun _ _ _ h => h) (Or.inl ⟨by rfl, ?_⟩) (by assumption) ?_
                    rotate_left
                    · (intro wS hSw; (try dsimp only at hSw); go_simp; (try with_reducible rfl))
                    try simp only [Act.put, List.setIfInBounds_toArray, List.set_cons_zero, List.set_cons_succ]
                    refine wpAnyH_take (i := 41) (oi := { dst := some 157, op := Op.move (Operand.tmp 156), type := 4, pos := "law.go:58", after := #[{ on := 40, ground := Ground.data }, { on := 34, ground := Ground.chain }], guard := none }) (v := ?_) rfl (by kernel_rfl) (by kernel_rfl) (by kernel_rfl) (fun _ _ _ h => h) (Or.inl ⟨by rfl, ?_⟩) (by assumption) ?_
                    rotate_left
                    · (intro wS hSw; (try dsimp only at hSw); go_simp; (try with_reducible rfl))
                    try simp only [Act.put, List.setIfInBounds_toArray, List.set_cons_zero, List.set_cons_succ]
                    refine wpAnyH_ready (rs := [42]) (by kernel_rfl) (by simp) ?_
                    refine AllReadyH.cons (o := { dst := some 158, op := Op.call { callee := Callee.value (Operand.func 6), args := #[], argTypes := #[] }, type := 4, pos := "law.go:58", after := #[{ on := 41, ground := Ground.chain }, { on := 41, ground := Ground.guard }], guard := some (41, true) }) rfl (fun K hK => ?_) AllReadyH.nil
                    go_simp
                    (first
                        | (go_at_call 8; ((with_reducible refine (Spread_len (ws.set j1 (z1 + 1)) ws.length (by simp) good (some ⟨ga, 0, none⟩) A2 ca c2 _ (Ha.held hHeld.2.1 hHeld.2.2) (H2.held hHeld.2.1 hHeld.2.2) n1 n2 WA.out).mono ?_); rw [SA.out]; rintro e' w3 ⟨rfl, hb3⟩))
                        | (go_at_call 8; ((with_reducible refine (Spread_len (ws.set j2 (z2 + 1)) ws.length (by simp) good (some ⟨gb, 0, none⟩) A2 cb c2 _ (Hb.held hHeld.2.1 hHeld.2.2) (H2.held hHeld.2.1 hHeld.2.2) n1 n2 WB.out).mono ?_); rw [SB'.out]; rintro e' w3 ⟨rfl, hb3⟩))
                        | (go_at_call 6; refine (awake_any _).mono ?_; rintro e' w3 ⟨rfl, hb3⟩))
                    go_wp2_with fail
                    refine hK.out _ _ ?_ (fun hNew => ?_)
                    · (first | exact ⟨HB.drew, by simp, by simp⟩ | exact kept_step (by assumption) hb3)
                    clear hK K hHeld
                    have hHeld := hNew
                    clear hNew
                    try simp only [Act.put, List.setIfInBounds_toArray, List.set_cons_zero, List.set_cons_succ]
                    refine wpAnyH_take (i := 43) (oi := { dst := some 159, op := Op.pick (Operand.tmp 157) (Operand.tmp 158) (Operand.const (Value.bool false)), type := 4, pos := "law.go:58", after := #[{ on := 41, ground := Ground.data }, { on := 42, ground := Ground.data }], guard := none }) (v := ?_) rfl (by kernel_rfl) (by kernel_rfl) (by kernel_rfl) (fun _ _ _ h => h) (Or.inl ⟨by rfl, ?_⟩) (by assumption) ?_
                    rotate_left
                    · (intro wS hSw; (try dsimp only at hSw); go_simp; (try with_reducible rfl))
                    try simp only [Act.put, List.setIfInBounds_toArray, List.set_cons_zero, List.set_cons_succ]
                    refine wpAnyH_take (i := 44) (oi := { dst := some 4, op := Op.assign (Operand.tmp 159), type := 4, pos := "law.go:58", after := #[{ on := 43, ground := Ground.data }, { on := 42, ground := Ground.chain }, { on := 0, ground := Ground.phase }, { on := 1, ground := Ground.phase }, { on := 2, ground := Ground.phase }, { on := 3, ground := Ground.phase }, { on := 4, ground := Ground.phase }, { on := 5, ground := Ground.phase }, { on := 6, ground := Ground.phase }, { on := 7, ground := Ground.phase }, { on := 8, ground := Ground.phase }, { on := 9, ground := Ground.phase }, { on := 10, ground := Ground.phase }, { on := 11, ground := Ground.phase }, { on := 12, ground := Ground.phase }, { on := 13, ground := Ground.phase }, { on := 14, ground := Ground.phase }, { on := 15, ground := Ground.phase }, { on := 16, ground := Ground.phase }, { on := 17, ground := Ground.phase }, { on := 18, ground := Ground.phase }, { on := 19, ground := Ground.phase }, { on := 20, ground := Ground.phase }, { on := 21, ground := Ground.phase }, { on := 22, ground := Ground.phase }, { on := 23, ground := Ground.phase }, { on := 24, ground := Ground.phase }, { on := 25, ground := Ground.phase }, { on := 26, ground := Ground.phase }, { on := 27, ground := Ground.phase }, { on := 28, ground := Ground.phase }, { on := 29, ground := Ground.phase }, { on := 30, ground := Ground.phase }, { on := 31, ground := Ground.phase }, { on := 32, ground := Ground.phase }, { on := 33, ground := Ground.phase }, { on := 34, ground := Ground.phase }, { on := 35, ground := Ground.phase }, { on := 36, ground := Ground.phase }, { on := 37, ground := Ground.phase }, { on := 38, ground := Ground.phase }, { on := 39, ground := Ground.phase }, { on := 40, ground := Ground.phase }, { on := 41, ground := Ground.phase }, { on := 42, ground := Ground.phase }, { on := 43, ground := Ground.phase }], guard := none }) (v := ?_) rfl (by kernel_rfl) (by kernel_rfl) (by kernel_rfl) (fun _ _ _ h => h) (Or.inl ⟨by rfl, ?_⟩) (by assumption) ?_
                    rotate_left
                    · (intro wS hSw; (try dsimp only at hSw); go_simp; (try with_reducible rfl))
                    try simp only [Act.put, List.setIfInBounds_toArray, List.set_cons_zero, List.set_cons_succ]
                    refine wpAnyH_done (by kernel_rfl) ?_ _
                    refine NoPanic.normal ?_
                    go_wp2
                    go_ret
                    exact ⟨rfl, hHeld.1⟩

theorem we_walk (A1 : Option Addr) (m1 c1 : Nat) (xs : List Int) (A2 : Option Addr) (m2 c2 : Nat) (good : List Bool) (w : World)
    (r1 : m1 = xs.length ∧ Sl w w.heap.size A1 (xs.map (Value.int .i64))) (r2 : m2 = good.length ∧ Sl w w.heap.size A2 (good.map Value.bool)) :
    Calls Try.prog 4 #[.slice A1 m1 c1, .slice A2 m2 c2] w fun e' w' => e' = .returned (.bool true) ∧ Below w.heap.size w w' := by
  obtain ⟨rfl, h1⟩ := r1
  obtain ⟨rfl, h2⟩ := r2
  by_cases hl : 40 < xs.length ∨ 40 < good.length
  · exact we_long A1 c1 xs A2 c2 good w hl
  · rw [not_or] at hl
    by_cases hn : ext (lowL 1073741824 xs) good 1 (mlen (lowL 1073741824 xs) good) < 0
    · exact we_none A1 c1 xs A2 c2 good w h1 h2 hl.1 hl.2 hn
    · exact we_some A1 c1 xs A2 c2 good w h1 h2 hl.1 hl.2 hn
end Go.Proofs.Ytlingchcfdielaa
