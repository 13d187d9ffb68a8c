/- Chapter 25's own Box. -/
import Derived.Test.YtnbiioighjdkjaaDoorRaZ2
namespace Go.Proofs.YtnbiioighjdkjaaDoor
open Go.ChangeShapes Go.WideShapes Go.ChangeAt Go.RowKit
set_option linter.unusedSimpArgs false
set_option linter.unusedVariables false

def Pr (y x y' x' : Nat) : Prop := (y' < y ∧ x' < 64) ∨ (y' = y ∧ x' < x)
/-- What the box is of the dots that were looked at. -/
structure BoxI (f : Nat → Nat) (H y x : Nat) (a b c d : Int) : Prop where
  all : ∀ y' x', Pr y x y' x' → (f y').testBit x' = true → a ≤ x' ∧ (x' : Int) ≤ c ∧ b ≤ y' ∧ (y' : Int) ≤ d
  at_ : (a = 64 ∧ b = H ∧ c = -1 ∧ d = -1 ∧ ∀ y' x', Pr y x y' x' → (f y').testBit x' = false) ∨
    ((∃ y1 x1 : Nat, Pr y x y1 x1 ∧ (f y1).testBit x1 = true ∧ a = x1) ∧ (∃ y1 x1 : Nat, Pr y x y1 x1 ∧ (f y1).testBit x1 = true ∧ b = y1) ∧ (∃ y1 x1 : Nat, Pr y x y1 x1 ∧ (f y1).testBit x1 = true ∧ c = x1) ∧ (∃ y1 x1 : Nat, Pr y x y1 x1 ∧ (f y1).testBit x1 = true ∧ d = y1))
theorem BoxI.start (f : Nat → Nat) (H : Nat) : BoxI f H 0 0 64 (H : Int) (-1) (-1) :=
  ⟨fun y' x' h => by unfold Pr at h; omega, Or.inl ⟨rfl, rfl, rfl, rfl, fun y' x' h => by unfold Pr at h; omega⟩⟩
theorem pr_next {y x y' x' : Nat} (h : Pr y (x + 1) y' x') : Pr y x y' x' ∨ (y' = y ∧ x' = x) := by
  unfold Pr at h ⊢
  omega
theorem pr_mono {y x y' x' : Nat} (h : Pr y x y' x') : Pr y (x + 1) y' x' := by
  unfold Pr at h ⊢
  omega
theorem BoxI.no {f : Nat → Nat} {H y x : Nat} {a b c d : Int} (h : BoxI f H y x a b c d) (hb : (f y).testBit x = false) : BoxI f H y (x + 1) a b c d := by
  refine ⟨fun y' x' hp ht => ?_, ?_⟩
  · rcases pr_next hp with hp | ⟨rfl, rfl⟩
    · exact h.all y' x' hp ht
    · rw [hb] at ht
      cases ht
  · rcases h.at_ with ⟨h1, h2, h3, h4, h5⟩ | ⟨⟨y1, x1, p1, t1, e1⟩, ⟨y2, x2, p2, t2, e2⟩, ⟨y3, x3, p3, t3, e3⟩, ⟨y4, x4, p4, t4, e4⟩⟩
    · refine Or.inl ⟨h1, h2, h3, h4, fun y' x' hp => ?_⟩
      rcases pr_next hp with hp | ⟨rfl, rfl⟩
      · exact h5 y' x' hp
      · exact hb
    · exact Or.inr ⟨⟨y1, x1, pr_mono p1, t1, e1⟩, ⟨y2, x2, pr_mono p2, t2, e2⟩, ⟨y3, x3, pr_mono p3, t3, e3⟩, ⟨y4, x4, pr_mono p4, t4, e4⟩⟩
theorem BoxI.yes {f : Nat → Nat} {H y x : Nat} {a b c d : Int} (h : BoxI f H y x a b c d) (hb : (f y).testBit x = true) (hx : x < 64) (hy : y < H) : BoxI f H y (x + 1) (min a (x : Int)) (min b (y : Int)) (max c (x : Int)) (max d (y : Int)) := by
  have hpn : Pr y (x + 1) y x := Or.inr ⟨rfl, by omega⟩
  refine ⟨fun y' x' hp ht => ?_, Or.inr ?_⟩
  · rcases pr_next hp with hp | ⟨rfl, rfl⟩
    · have := h.all y' x' hp ht
      omega
    · omega
  · rcases h.at_ with ⟨h1, h2, h3, h4, h5⟩ | ⟨⟨y1, x1, p1, t1, e1⟩, ⟨y2, x2, p2, t2, e2⟩, ⟨y3, x3, p3, t3, e3⟩, ⟨y4, x4, p4, t4, e4⟩⟩
    · exact ⟨⟨y, x, hpn, hb, by omega⟩, ⟨y, x, hpn, hb, by omega⟩, ⟨y, x, hpn, hb, by omega⟩, ⟨y, x, hpn, hb, by omega⟩⟩
    · refine ⟨?_, ?_, ?_, ?_⟩
      · by_cases q : a ≤ x
        · exact ⟨y1, x1, pr_mono p1, t1, by omega⟩
        · exact ⟨y, x, hpn, hb, by omega⟩
      · by_cases q : b ≤ y
        · exact ⟨y2, x2, pr_mono p2, t2, by omega⟩
        · exact ⟨y, x, hpn, hb, by omega⟩
      · by_cases q : (x : Int) ≤ c
        · exact ⟨y3, x3, pr_mono p3, t3, by omega⟩
        · exact ⟨y, x, hpn, hb, by omega⟩
      · by_cases q : (y : Int) ≤ d
        · exact ⟨y4, x4, pr_mono p4, t4, by omega⟩
        · exact ⟨y, x, hpn, hb, by omega⟩
theorem BoxI.row {f : Nat → Nat} {H y : Nat} {a b c d : Int} (h : BoxI f H y 64 a b c d) : BoxI f H (y + 1) 0 a b c d := by
  have e : ∀ y' x', Pr (y + 1) 0 y' x' ↔ Pr y 64 y' x' := by
    intro y' x'
    unfold Pr
    omega
  refine ⟨fun y' x' hp ht => h.all y' x' ((e _ _).1 hp) ht, ?_⟩
  rcases h.at_ with ⟨h1, h2, h3, h4, h5⟩ | ⟨⟨y1, x1, p1, t1, e1⟩, ⟨y2, x2, p2, t2, e2⟩, ⟨y3, x3, p3, t3, e3⟩, ⟨y4, x4, p4, t4, e4⟩⟩
  · exact Or.inl ⟨h1, h2, h3, h4, fun y' x' hp => h5 y' x' ((e _ _).1 hp)⟩
  · exact Or.inr ⟨⟨y1, x1, (e _ _).2 p1, t1, e1⟩, ⟨y2, x2, (e _ _).2 p2, t2, e2⟩, ⟨y3, x3, (e _ _).2 p3, t3, e3⟩, ⟨y4, x4, (e _ _).2 p4, t4, e4⟩⟩
theorem bit64 {v b : Nat} (hv : v < 18446744073709551616) (h : v.testBit b = true) : b < 64 := by
  rcases Nat.lt_or_ge b 64 with q | q
  · exact q
  · rw [Nat.testBit_lt_two_pow (Nat.lt_of_lt_of_le hv (Nat.pow_le_pow_right (n := 2) (by decide) q))] at h
    cases h
theorem BoxI.no_dots {f : Nat → Nat} {H : Nat} {a b c d : Int} (h : BoxI f H H 0 a b c d) (h0 : orN f H = 0) : c = -1 := by
  rcases h.at_ with ⟨_, _, h3, _, _⟩ | ⟨_, _, ⟨y3, x3, p3, t3, _⟩, _⟩
  · exact h3
  · have : (orN f H).testBit x3 = true := (orN_bit f x3 H).2 ⟨y3, by unfold Pr at p3; omega, t3⟩
    rw [h0, Nat.zero_testBit] at this
    cases this
theorem BoxI.is {f : Nat → Nat} {H x0 y0 x1 y1 : Nat} {a b c d : Int} (h : BoxI f H H 0 a b c d) (hf : ∀ y, f y < 18446744073709551616) (hb : BoxIs f H x0 y0 x1 y1) : a = x0 ∧ b = y0 ∧ c = x1 ∧ d = y1 := by
  have hp : ∀ y' x', y' < H → (f y').testBit x' = true → Pr H 0 y' x' := fun y' x' hy ht => Or.inl ⟨hy, bit64 (hf y') ht⟩
  rcases h.at_ with ⟨_, _, _, _, h5⟩ | ⟨⟨ya, xa, pa, ta, ea⟩, ⟨yb, xb, pb, tb, eb⟩, ⟨yc, xc, pc, tc, ec⟩, ⟨yd, xd, pd, td, ed⟩⟩
  · obtain ⟨y, hy, ht⟩ := (orN_bit f x0 H).1 hb.x0.1
    rw [h5 y x0 (hp y x0 hy ht)] at ht
    cases ht
  · have hya : ya < H := by unfold Pr at pa; omega
    have hyb : yb < H := by unfold Pr at pb; omega
    have hyc : yc < H := by unfold Pr at pc; omega
    have hyd : yd < H := by unfold Pr at pd; omega
    refine ⟨?_, ?_, ?_, ?_⟩
    · obtain ⟨y, hy, ht⟩ := (orN_bit f x0 H).1 hb.x0.1
      have l1 := (h.all y x0 (hp y x0 hy ht) ht).1
      have l2 : ¬ xa < x0 := by
        intro q
        have := hb.x0.2 xa q
        rw [(orN_bit f xa H).2 ⟨ya, hya, ta⟩] at this
        cases this
      omega
    · obtain ⟨bb, hbb⟩ := some_bit hb.y0.1
      have l1 := (h.all y0 bb (hp y0 bb hb.y0.2.1 hbb) hbb).2.2.1
      have l2 : ¬ yb < y0 := by
        intro q
        rw [hb.y0.2.2 yb q, Nat.zero_testBit] at tb
        cases tb
      omega
    · obtain ⟨y, hy, ht⟩ := (orN_bit f x1 H).1 hb.x1.1
      have l1 := (h.all y x1 (hp y x1 hy ht) ht).2.1
      have l2 : ¬ x1 < xc := by
        intro q
        have := hb.x1.2 xc q
        rw [(orN_bit f xc H).2 ⟨yc, hyc, tc⟩] at this
        cases this
      omega
    · obtain ⟨bb, hbb⟩ := some_bit hb.y1.1
      have l1 := (h.all y1 bb (hp y1 bb hb.y1.2.1 hbb) hbb).2.2.2
      have l2 : ¬ y1 < yd := by
        intro q
        rw [hb.y1.2.2 yd q hyd, Nat.zero_testBit] at td
        cases td
      omega
set_option maxRecDepth 100000 in
set_option maxHeartbeats 4000000 in
theorem rbox_no (A : Option Addr) (H c : Nat) (f : Nat → Nat) (w : World) (hR : RowO w A H f) (hH : H ≤ 80) (hf : Hid (∀ y, f y < 18446744073709551616)) (h0 : Hid (orN f H = 0)) : Calls Tryd.prog 8 #[.slice A H c] w fun e' w' => e' = .returned (.tuple #[.int .i64 0, .int .i64 0, .int .i64 0, .int .i64 0, .bool false]) ∧ w = w' := by
  have HR := Lib.hid hR
  clear hR
  go_enter Tryd.func8, Tryd.ntmps8
  go_wp2_with fail
  go_loopw [7, 8, 9, 10, 11] (fun s7 s8 s9 s10 s11 wr => ∃ (y : Nat) (a b cc d : Int), y ≤ H ∧ s11 = .int .i64 (y : Int) ∧ s7 = .int .i64 a ∧ s8 = .int .i64 b ∧ s9 = .int .i64 cc ∧ s10 = .int .i64 d ∧ Hid (BoxI f H y 0 a b cc d) ∧ wr = w) (fun _ _ _ _ s11 _ => H - (intOf s11).toNat)
  case atStart => exact ⟨0, 64, (H : Int), -1, -1, by omega, rfl, rfl, rfl, rfl, rfl, Lib.hid (BoxI.start f H), (by first | rfl | trivial)⟩
  case round =>
    obtain ⟨y, a0, b0, c0, d0, hy, rfl, rfl, rfl, rfl, rfl, HI0, rfl⟩ := hrel
    by_cases hlt : y < H
    · have y0 : (0 : Int) ≤ (y : Int) := by omega
      have y1 : (y : Int) < (H : Int) := by omega
      go_wp2
      go_loopw [7, 8, 9, 10, 12] (fun s7 s8 s9 s10 s12 wq => ∃ (x : Nat) (a b cc d : Int), x ≤ 64 ∧ s12 = .int .i64 (x : Int) ∧ s7 = .int .i64 a ∧ s8 = .int .i64 b ∧ s9 = .int .i64 cc ∧ s10 = .int .i64 d ∧ Hid (BoxI f H y x a b cc d) ∧ wq = wr) (fun _ _ _ _ s12 _ => 64 - (intOf s12).toNat)
      case atStart => exact ⟨0, a0, b0, c0, d0, by omega, rfl, rfl, rfl, rfl, rfl, HI0, (by first | rfl | trivial)⟩
      case round =>
        clear HI0
        obtain ⟨x, a, b, cc, d, hx, rfl, rfl, rfl, rfl, rfl, HI, rfl⟩ := hrel
        by_cases hlx : x < 64
        · have x0 : (0 : Int) ≤ (x : Int) := by omega
          have x1 : (x : Int) < 64 := by omega
          rcases (by cases hq : (f y).testBit x <;> simp : (f y).testBit x = true ∨ (f y).testBit x = false) with hbt | hbt
          · have HBT := Lib.hid hbt
            have HBX : Hid (BoxI f H y (x + 1) (min a (x : Int)) (min b (y : Int)) (max cc (x : Int)) (max d (y : Int))) := Lib.hid (HI.out.yes hbt (by omega) (by omega))
            clear hbt HI
            go_wp2_with (go_at_call 21; go_loud (((with_reducible refine (bit_o A H c x y f true _ HR.out (by omega) (by omega) hf HBT).mono ?_); rintro e' wN ⟨rfl, rfl⟩; skip)))
            all_goals
              go_roundw
              case rel => exact ⟨x + 1, _, _, _, _, by omega, by go_num, by (first | rfl | (congr 1; omega)), by (first | rfl | (congr 1; omega)), by (first | rfl | (congr 1; omega)), by (first | rfl | (congr 1; omega)), HBX, (by first | rfl | trivial)⟩
              case measure => simp [intOf]; omega
          · have HBT := Lib.hid hbt
            have HBX : Hid (BoxI f H y (x + 1) a b cc d) := Lib.hid (HI.out.no hbt)
            clear hbt HI
            go_wp2_with (go_at_call 21; go_loud (((with_reducible refine (bit_o A H c x y f false _ HR.out (by omega) (by omega) hf HBT).mono ?_); rintro e' wN ⟨rfl, rfl⟩; skip)))
            go_roundw
            case rel => exact ⟨x + 1, a, b, cc, d, by omega, by go_num, rfl, rfl, rfl, rfl, HBX, (by first | rfl | trivial)⟩
            case measure => simp [intOf]; omega
        · obtain rfl : x = 64 := by omega
          have HBX := Lib.hid HI.out.row
          clear HI
          go_wp2
          go_roundw
          case rel => exact ⟨y + 1, a, b, cc, d, by omega, by go_num, rfl, rfl, rfl, rfl, HBX, (by first | rfl | trivial)⟩
          case measure => simp [intOf]; omega
    · obtain rfl : y = H := by omega
      obtain rfl : c0 = -1 := HI0.out.no_dots h0.out
      clear HI0
      go_wp2_with fail
      (try simp only [Exit.inBlock, Exit.then])
      refine bodyPost_ret (results_tmp5 rfl _ _ _) rfl ?_
      exact ⟨rfl, rfl⟩
set_option maxRecDepth 100000 in
set_option maxHeartbeats 4000000 in
theorem rbox_yes (A : Option Addr) (H c : Nat) (f : Nat → Nat) (w : World) (hR : RowO w A H f) (hH : H ≤ 80) (hf : Hid (∀ y, f y < 18446744073709551616)) (x0 y0 x1 y1 : Nat) (hb : Hid (BoxIs f H x0 y0 x1 y1)) : Calls Tryd.prog 8 #[.slice A H c] w fun e' w' => e' = .returned (.tuple #[.int .i64 (x0 : Int), .int .i64 (y0 : Int), .int .i64 (x1 : Int), .int .i64 (y1 : Int), .bool true]) ∧ w = w' := by
  have HR := Lib.hid hR
  clear hR

  go_enter Tryd.func8, Tryd.ntmps8
  go_wp2_with fail
  go_loopw [7, 8, 9, 10, 11] (fun s7 s8 s9 s10 s11 wr => ∃ (y : Nat) (a b cc d : Int), y ≤ H ∧ s11 = .int .i64 (y : Int) ∧ s7 = .int .i64 a ∧ s8 = .int .i64 b ∧ s9 = .int .i64 cc ∧ s10 = .int .i64 d ∧ Hid (BoxI f H y 0 a b cc d) ∧ wr = w) (fun _ _ _ _ s11 _ => H - (intOf s11).toNat)
  case atStart => exact ⟨0, 64, (H : Int), -1, -1, by omega, rfl, rfl, rfl, rfl, rfl, Lib.hid (BoxI.start f H), (by first | rfl | trivial)⟩
  case round =>
    obtain ⟨y, a0, b0, c0, d0, hy, rfl, rfl, rfl, rfl, rfl, HI0, rfl⟩ := hrel
    by_cases hlt : y < H
    · have yz : (0 : Int) ≤ (y : Int) := by omega
      have y1 : (y : Int) < (H : Int) := by omega
      go_wp2
      go_loopw [7, 8, 9, 10, 12] (fun s7 s8 s9 s10 s12 wq => ∃ (x : Nat) (a b cc d : Int), x ≤ 64 ∧ s12 = .int .i64 (x : Int) ∧ s7 = .int .i64 a ∧ s8 = .int .i64 b ∧ s9 = .int .i64 cc ∧ s10 = .int .i64 d ∧ Hid (BoxI f H y x a b cc d) ∧ wq = wr) (fun _ _ _ _ s12 _ => 64 - (intOf s12).toNat)
      case atStart => exact ⟨0, a0, b0, c0, d0, by omega, rfl, rfl, rfl, rfl, rfl, HI0, (by first | rfl | trivial)⟩
      case round =>
        clear HI0
        obtain ⟨x, a, b, cc, d, hx, rfl, rfl, rfl, rfl, rfl, HI, rfl⟩ := hrel
        by_cases hlx : x < 64
        · have xz : (0 : Int) ≤ (x : Int) := by omega
          have x1 : (x : Int) < 64 := by omega
          rcases (by cases hq : (f y).testBit x <;> simp : (f y).testBit x = true ∨ (f y).testBit x = false) with hbt | hbt
          · have HBT := Lib.hid hbt
            have HBX : Hid (BoxI f H y (x + 1) (min a (x : Int)) (min b (y : Int)) (max cc (x : Int)) (max d (y : Int))) := Lib.hid (HI.out.yes hbt (by omega) (by omega))
            clear hbt HI
            go_wp2_with (go_at_call 21; go_loud (((with_reducible refine (bit_o A H c x y f true _ HR.out (by omega) (by omega) hf HBT).mono ?_); rintro e' wN ⟨rfl, rfl⟩; skip)))
            all_goals
              go_roundw
              case rel => exact ⟨x + 1, _, _, _, _, by omega, by go_num, by (first | rfl | (congr 1; omega)), by (first | rfl | (congr 1; omega)), by (first | rfl | (congr 1; omega)), by (first | rfl | (congr 1; omega)), HBX, (by first | rfl | trivial)⟩
              case measure => simp [intOf]; omega
          · have HBT := Lib.hid hbt
            have HBX : Hid (BoxI f H y (x + 1) a b cc d) := Lib.hid (HI.out.no hbt)
            clear hbt HI
            go_wp2_with (go_at_call 21; go_loud (((with_reducible refine (bit_o A H c x y f false _ HR.out (by omega) (by omega) hf HBT).mono ?_); rintro e' wN ⟨rfl, rfl⟩; skip)))
            go_roundw
            case rel => exact ⟨x + 1, a, b, cc, d, by omega, by go_num, rfl, rfl, rfl, rfl, HBX, (by first | rfl | trivial)⟩
            case measure => simp [intOf]; omega
        · obtain rfl : x = 64 := by omega
          have HBX := Lib.hid HI.out.row
          clear HI
          go_wp2
          go_roundw
          case rel => exact ⟨y + 1, a, b, cc, d, by omega, by go_num, rfl, rfl, rfl, rfl, HBX, (by first | rfl | trivial)⟩
          case measure => simp [intOf]; omega
    · obtain rfl : y = H := by omega
      obtain ⟨rfl, rfl, rfl, rfl⟩ := HI0.out.is hf.out hb.out
      clear HI0
      have z1 : (0 : Int) ≤ (x1 : Int) := by omega
      have z2 : ¬ (x1 : Int) < 0 := by omega
      go_wp2_with fail
      (try simp only [Exit.inBlock, Exit.then])
      refine bodyPost_ret (results_tmp5 rfl _ _ _) rfl ?_
      exact ⟨rfl, rfl⟩
end Go.Proofs.YtnbiioighjdkjaaDoor
