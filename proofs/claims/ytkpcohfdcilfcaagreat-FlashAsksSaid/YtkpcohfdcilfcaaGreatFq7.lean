/- preferOriginals, where no other record says the same. -/
import Derived.Test.YtkpcohfdcilfcaaGreatFq6
import Derived.Test.YtkpcohfdcilfcaaGreatFq5
import Derived.Test.YtkpcohfdcilfcaaGreatFq3
import Derived.LaidEqlPtr
import Derived.Test.YtkpcohfdcilfcaaGreatFq1
set_option linter.unusedSimpArgs false
set_option linter.unusedVariables false
set_option maxRecDepth 100000
set_option maxHeartbeats 16000000
namespace Go.Proofs.YtkpcohfdcilfcaaGreat
open Go.ChangeShapes Go.WideShapes Go.ChangeAt Go.RowKit
attribute [local go_sem ↓] Go.wp_at_zero Go.wp_at_succ
def alikB (x y : Fd) : Bool := x.k == y.k && (x.p == y.p && x.e == y.e)
def Alone (a : Int) (fs : List Flt) (s : ChS) (fds : List Fd) (x : Fd) : Prop := ∀ y ∈ fds, goodB a fs s y.b = false ∨ alikB x y = false ∨ (x.b = y.b ∧ x.g = y.g)
theorem original_self (F : FlK) (a b c d e : Int) (fs : List Flt) (L N : Nat) (s : FlS) (fds : List Fd) (n : Nat) (hn : fds.length = n) (A : Option Addr) (cA : Nat) (x : Fd) (w : World) (hF : FlW w F a b c d e fs L N s) (hA : FdsAt w F A fds) (n1 : n ≤ 100000) (hall : Alone a fs s.ch fds x) :
    Calls Tryz.prog 96 #[.pointer (some ⟨F.fm, 0, none⟩), .slice A n cA, .agg #[.int .i64 x.b, .int .i64 x.g, .int .i64 x.k, .int .i64 x.p, .int .i64 x.s, .int .i64 x.e]] w fun e' w' => e' = .returned (.tuple #[.agg #[.int .i64 x.b, .int .i64 x.g], .int .i64 0]) ∧ Below w.heap.size w w' := by
  have HN := Lib.hid hn
  have HALL := Lib.hid hall
  clear hn hall
  go_enter Tryz.func96, Tryz.ntmps96
  go_upto_region 1 with fail
  obtain ⟨W1, hW⟩ : ∃ V : World, V = (w.alloc (.cells #[.int .i64 x.b, .int .i64 x.g, .int .i64 x.k, .int .i64 x.p, .int .i64 x.s, .int .i64 x.e] 119)).alloc (.cells #[.int .i64 0, .int .i64 0] 68) := ⟨_, rfl⟩
  have b1 : Below w.heap.size w W1 := by rw [hW]; exact ((Below.refl _ _).alloc (Nat.le_refl _) _).alloc (by show _ ≤ (w.heap.push _).size; simp) _
  have B5 : Blk W1 w.heap.size 119 #[.int .i64 x.b, .int .i64 x.g, .int .i64 x.k, .int .i64 x.p, .int .i64 x.s, .int .i64 x.e] := by rw [hW]; exact (Blk.new_ w _ _).alloc_ _
  have B6 : Blk W1 (w.heap.size + 1) 68 #[.int .i64 0, .int .i64 0] := by
    rw [hW]
    have := Blk.new_ (w.alloc (.cells #[.int .i64 x.b, .int .i64 x.g, .int .i64 x.k, .int .i64 x.p, .int .i64 x.s, .int .i64 x.e] 119)) 68 #[.int .i64 0, .int .i64 0]
    simpa using this
  rw [← hW]
  clear hW
  obtain ⟨g5, hg5⟩ : ∃ g, w.heap.size = g := ⟨_, rfl⟩
  obtain ⟨g6, hg6⟩ : ∃ g, w.heap.size + 1 = g := ⟨_, rfl⟩
  rw [hg5] at B5
  rw [hg6] at B6
  simp only [hg6]
  simp only [hg5]
  obtain ⟨u0, u1, u2, u3, u4, u5⟩ := bx6 B5
  go_upto_region 2 with fail
  obtain ⟨W2, hW⟩ : ∃ V : World, V = W1.alloc (.cells #[.int .i64 x.b, .int .i64 x.g, .int .i64 x.k, .int .i64 x.p, .int .i64 x.s, .int .i64 x.e] 119) := ⟨_, rfl⟩
  have b2 : Below W1.heap.size W1 W2 := by rw [hW]; exact (Below.refl _ _).alloc (Nat.le_refl _) _
  have B8 : Blk W2 W1.heap.size 119 #[.int .i64 x.b, .int .i64 x.g, .int .i64 x.k, .int .i64 x.p, .int .i64 x.s, .int .i64 x.e] := by rw [hW]; exact Blk.new_ _ _ _
  have B5 := B5.below b2 B5.lt
  have B6 := B6.below b2 B6.lt
  rw [← hW]
  clear hW u0 u1 u2 u3 u4 u5
  obtain ⟨g8, hg8⟩ : ∃ g, W1.heap.size = g := ⟨_, rfl⟩
  have hz12 := b1.size
  rw [hg8] at B8 ⊢
  have bb : Below w.heap.size w W2 := btr b1 b1.size b2
  have hA2 := hA.tch (tch_bel bb)
  have hG0 := hF.below bb
  clear hg8
  go_wp2_with fail
  go_loopw [16] (fun i wr => ∃ k : Nat, k ≤ n ∧ i = .int .i64 k ∧ Below W2.heap.size W2 wr) (fun i _ => n - (intOf i).toNat)
  case atStart => exact ⟨0, by omega, rfl, Below.refl _ _⟩
  case round =>
    obtain ⟨k, hk, rfl, HB⟩ := hrel
    have hG := hG0.below HB
    have B5 := B5.below HB B5.lt
    have B8 := B8.below HB B8.lt
    have B6 := B6.below HB B6.lt
    by_cases hlt : k < n
    · have hlx : k < fds.length := by have := HN.out; omega
      obtain ⟨bq, oq, rfl, lq, qq⟩ := (hA2.tch (tch_bel HB)).at_ (by omega)
      obtain ⟨y, hy⟩ : ∃ y, fds[k]? = some y := ⟨_, List.getElem?_eq_getElem hlx⟩
      obtain ⟨x0, x1, x2, x3, x4, x5⟩ := qq k y hy
      have HM := Lib.hid (HALL.out y (List.mem_of_getElem? hy))
      have i0 : (0 : Int) ≤ (k : Int) := by omega
      have i1 : (k : Int) < (n : Int) := by omega
      clear qq hy hlx
      go_upto_region 5 with fail
      obtain ⟨W, hW⟩ : ∃ V : World, V = wr.alloc (.cells #[.int .i64 y.b, .int .i64 y.g, .int .i64 y.k, .int .i64 y.p, .int .i64 y.s, .int .i64 y.e] 119) := ⟨_, rfl⟩
      have BX : Blk W wr.heap.size 119 #[.int .i64 y.b, .int .i64 y.g, .int .i64 y.k, .int .i64 y.p, .int .i64 y.s, .int .i64 y.e] := by rw [hW]; exact Blk.new_ _ _ _
      have hal : Below wr.heap.size wr W := by rw [hW]; exact (Below.refl _ _).alloc (Nat.le_refl _) _
      rw [← hW]
      have hGW := hG.below hal
      have B5 := B5.below hal B5.lt
      have HBW := btr HB HB.size hal
      obtain ⟨g, hg⟩ : ∃ g, wr.heap.size = g := ⟨_, rfl⟩
      rw [hg] at BX ⊢
      clear hW hg x0 x1 x2 x3 x4 x5
      obtain ⟨y0, y1, y2, y3, y4, y5⟩ := bx6 BX
      obtain ⟨T, hT⟩ : ∃ T, goodB a fs s.ch y.b = T := ⟨_, rfl⟩
      have HT := Lib.hid hT
      obtain ⟨T2, hT2⟩ : ∃ T, (x.k == y.k && (x.p == y.p && x.e == y.e)) = T := ⟨_, rfl⟩
      have HAL := Lib.hid hT2
      clear hT hT2
      cases T
      · go_wp2_with ((go_at_call 139; go_loud (((with_reducible refine (good_b F a b c d e fs L N s y.b _ hGW _ HT.out).mono ?_); rintro e' w2 ⟨rfl, b2⟩; have hz2 := b2.size; have BX2 := BX.below b2 BX.lt; have B5 := B5.below b2 B5.lt; have q := bx6 BX2; have r := bx6 B5; (obtain ⟨y0, y1, y2, y3, y4, y5⟩ := q); (obtain ⟨u0, u1, u2, u3, u4, u5⟩ := r)))))
        go_roundw
        case rel => exact ⟨k + 1, by omega, by go_num, btr HBW HBW.size b2⟩
        case measure => simp [intOf]; omega
      · cases T2
        · go_wp2_with (first | (go_at_call 139; go_loud (((with_reducible refine (good_b F a b c d e fs L N s y.b _ hGW _ HT.out).mono ?_); rintro e' w2 ⟨rfl, b2⟩; have hz2 := b2.size; have BX2 := BX.below b2 BX.lt; have B5 := B5.below b2 B5.lt; have q := bx6 BX2; have r := bx6 B5; (obtain ⟨y0, y1, y2, y3, y4, y5⟩ := q); (obtain ⟨u0, u1, u2, u3, u4, u5⟩ := r)))) | (go_at_call 140; go_loud (((with_reducible refine (alike_f x.k x.p x.s x.e y.k y.p y.s y.e _ _ HAL.out).mono ?_); rintro e' w3 ⟨rfl, b3⟩; have BX3 := BX2.below b3 BX2.lt; have B53 := B5.below b3 B5.lt; have q := bx6 BX3; have r := bx6 B53; (obtain ⟨v0, v1, v2, v3, v4, v5⟩ := q); (obtain ⟨s0, s1, s2, s3, s4, s5⟩ := r)))))
          go_roundw
          case rel => exact ⟨k + 1, by omega, by go_num, btr (btr HBW HBW.size b2) (btr HBW HBW.size b2).size b3⟩
          case measure => simp [intOf]; omega
        · have HS : Hid (x.b = y.b ∧ x.g = y.g) := Lib.hid (by
            rcases HM.out with h | h | h
            · rw [HT.out] at h; cases h
            · unfold alikB at h; rw [HAL.out] at h; cases h
            · exact h)
          have he1 : (x.b == y.b) = true := by rw [HS.out.1]; simp
          have he2 : (x.g == y.g) = true := by rw [HS.out.2]; simp
          go_wp2_with (first | (go_at_call 139; go_loud (((with_reducible refine (good_b F a b c d e fs L N s y.b _ hGW _ HT.out).mono ?_); rintro e' w2 ⟨rfl, b2⟩; have hz2 := b2.size; have BX2 := BX.below b2 BX.lt; have B5 := B5.below b2 B5.lt; have q := bx6 BX2; have r := bx6 B5; (obtain ⟨y0, y1, y2, y3, y4, y5⟩ := q); (obtain ⟨u0, u1, u2, u3, u4, u5⟩ := r)))) | (go_at_call 140; go_loud (((with_reducible refine (alike_f x.k x.p x.s x.e y.k y.p y.s y.e _ _ HAL.out).mono ?_); rintro e' w3 ⟨rfl, b3⟩; have BX3 := BX2.below b3 BX2.lt; have B53 := B5.below b3 B5.lt; have q := bx6 BX3; have r := bx6 B53; (obtain ⟨v0, v1, v2, v3, v4, v5⟩ := q); (obtain ⟨s0, s1, s2, s3, s4, s5⟩ := r)))))
          go_roundw
          case rel => exact ⟨k + 1, by omega, by go_num, btr (btr HBW HBW.size b2) (btr HBW HBW.size b2).size b3⟩
          case measure => simp [intOf]; omega
    · have f0 := B6.free 0
      have f1 := B6.free 1
      obtain ⟨o0, o1⟩ : _ ∧ _ := ⟨B6.cell_ 0, B6.cell_ 1⟩
      simp at o0 o1
      obtain ⟨u0, u1, u2, u3, u4, u5⟩ := bx6 B8
      have BZ := (B6.set_ 0 (.int .i64 x.b)).set_ 1 (.int .i64 x.g)
      simp at BZ
      obtain ⟨r0, r1⟩ : _ ∧ _ := ⟨BZ.cell_ 0, BZ.cell_ 1⟩
      simp at r0 r1
      have hw6 : w.heap.size ≤ g6 := by rw [← hg6]; exact Nat.le_succ _
      have HZ := ((bb.trans (HB.mono bb.size)).setCell (p := ⟨g6, 0, none⟩) hw6 (.int .i64 x.b)).setCell (p := ⟨g6, 1, none⟩) hw6 (.int .i64 x.g)
      go_wp2_with fail
      refine bodyPost_ret (v := .tuple #[.agg #[.int .i64 x.b, .int .i64 x.g], .int .i64 0]) (by simp [results, Tryz.results96, go_sem, r0, r1]) rfl ⟨rfl, HZ⟩
theorem prefer_same (F : FlK) (a b c d e : Int) (fs : List Flt) (L N : Nat) (s : FlS) (fds : List Fd) (n : Nat) (hn : fds.length = n) (A : Option Addr) (cA : Nat) (w : World) (hF : FlW w F a b c d e fs L N s) (hA : FdsAt w F A fds) (n1 : n ≤ 100000) (hall : ∀ x ∈ fds, needB a b s x.b x.g = true → Alone a fs s.ch fds x) :
    Calls Tryz.prog 62 #[.pointer (some ⟨F.fm, 0, none⟩), .slice A n cA] w fun e' w' => e' = .returned (.int .i64 0) ∧ Below w.heap.size w w' := by
  have HN := Lib.hid hn
  have HALL := Lib.hid hall
  clear hn hall
  go_enter Tryz.func62, Tryz.ntmps62
  go_wp2_with fail
  go_loopw [11] (fun i wr => ∃ k : Nat, k ≤ n ∧ i = .int .i64 k ∧ Below w.heap.size w wr) (fun i _ => n - (intOf i).toNat)
  case atStart => exact ⟨0, by omega, rfl, Below.refl _ _⟩
  case round =>
    obtain ⟨k, hk, rfl, HB⟩ := hrel
    have hG := hF.below HB
    by_cases hlt : k < n
    · have hlx : k < fds.length := by have := HN.out; omega
      obtain ⟨bq, oq, hAq, lq, qq⟩ := (hA.tch (tch_bel HB)).at_ (by omega)
      subst hAq
      obtain ⟨x, hx⟩ : ∃ y, fds[k]? = some y := ⟨_, List.getElem?_eq_getElem hlx⟩
      obtain ⟨x0, x1, x2, x3, x4, x5⟩ := qq k x hx
      have HAL := Lib.hid (HALL.out x (List.mem_of_getElem? hx))
      have i0 : (0 : Int) ≤ (k : Int) := by omega
      have i1 : (k : Int) < (n : Int) := by omega
      clear qq hx hlx
      go_upto_region 4 with fail
      obtain ⟨W, hW⟩ : ∃ V : World, V = wr.alloc (.cells #[.int .i64 x.b, .int .i64 x.g, .int .i64 x.k, .int .i64 x.p, .int .i64 x.s, .int .i64 x.e] 119) := ⟨_, rfl⟩
      have BX : Blk W wr.heap.size 119 #[.int .i64 x.b, .int .i64 x.g, .int .i64 x.k, .int .i64 x.p, .int .i64 x.s, .int .i64 x.e] := by rw [hW]; exact Blk.new_ _ _ _
      have hal : Below wr.heap.size wr W := by rw [hW]; exact (Below.refl _ _).alloc (Nat.le_refl _) _
      rw [← hW]
      have hGW := hG.below hal
      have HBW := btr HB HB.size hal
      obtain ⟨g, hg⟩ : ∃ g, wr.heap.size = g := ⟨_, rfl⟩
      rw [hg] at BX ⊢
      clear hW hg x0 x1 x2 x3 x4 x5
      obtain ⟨y0, y1, y2, y3, y4, y5⟩ := bx6 BX
      obtain ⟨T, hT⟩ : ∃ T, needB a b s x.b x.g = T := ⟨_, rfl⟩
      have HT := Lib.hid hT
      clear hT
      cases T
      · go_wp2_with ((go_at_call 95; go_loud (((with_reducible refine (counts_f F a b c d e fs L N s x.b x.g _ hGW _ HT.out).mono ?_); rintro e' w2 ⟨rfl, b2⟩; have hz2 := b2.size; have BX2 := BX.below b2 BX.lt; have hG2 := hGW.below b2; have q := bx6 BX2; (obtain ⟨y0, y1, y2, y3, y4, y5⟩ := q)))))
        go_roundw
        case rel => exact ⟨k + 1, by omega, by go_num, btr HBW HBW.size b2⟩
        case measure => simp [intOf]; omega
      · go_wp2_with (first | (go_at_call 95; go_loud (((with_reducible refine (counts_f F a b c d e fs L N s x.b x.g _ hGW _ HT.out).mono ?_); rintro e' w2 ⟨rfl, b2⟩; have hz2 := b2.size; have BX2 := BX.below b2 BX.lt; have hG2 := hGW.below b2; have q := bx6 BX2; (obtain ⟨y0, y1, y2, y3, y4, y5⟩ := q)))) | (go_at_call 96; go_loud (((with_reducible refine (original_self F a b c d e fs L N s fds n HN.out _ cA x _ hG2 (hA.tch (tch_bel (btr HBW HBW.size b2))) n1 (HAL.out HT.out)).mono ?_); rintro e' w3 ⟨rfl, b3⟩; have BX3 := BX2.below b3 BX2.lt; have q := bx6 (BX3.below ((Below.refl _ _).alloc (Nat.le_refl _) (.cells #[.int .i64 x.b, .int .i64 x.g] 68)) BX3.lt); (obtain ⟨v0, v1, v2, v3, v4, v5⟩ := q)))))
        go_roundw
        case rel => exact ⟨k + 1, by omega, by go_num, (btr (btr HBW HBW.size b2) (btr HBW HBW.size b2).size b3).alloc (btr (btr HBW HBW.size b2) (btr HBW HBW.size b2).size b3).size _⟩
        case measure => simp [intOf]; omega
    · go_wp2_with fail
      go_ret
      exact ⟨rfl, HB⟩
end Go.Proofs.YtkpcohfdcilfcaaGreat
namespace Go.Proofs.YtkpcohfdcilfcaaGreat
open Go.ChangeShapes Go.WideShapes Go.ChangeAt Go.RowKit
attribute [local go_sem ↓] Go.wp_at_zero Go.wp_at_succ
def OpenOk (a b d : Int) (fs : List Flt) (s : ChS) (k : Nat) : Prop := begI a b fs s (-1) = (k : Int) ∨ (begI a b fs s (-1) = -1 ∧ resB a d fs s 1 = true ∧ restI a fs s = (k : Int))
theorem open_ok (F : FlK) (a b c d e : Int) (fs : List Flt) (L N : Nat) (s : FlS) (n : Int) (w : World) (hF : FlW w F a b c d e fs L N s) (hbn : s.ch.Bnd n) (hn : n ≤ 900000000) (k : Nat) (ho : OpenOk a b d fs s.ch k) :
    Calls Tryz.prog 125 #[.pointer (some ⟨F.fm, 0, none⟩)] w fun e' w' => e' = .returned (.tuple #[.int .i64 (k : Int), .int .i64 0]) ∧ Below w.heap.size w w' := by
  rcases ho with ho | ⟨h1, h2, h3⟩
  · exact open_begun F a b c d e fs L N s w hF k ho
  · exact open_rest F a b c d e fs L N s n w hF hbn hn h1 h2 _ h3
def WrtJ (F : FlK) (kd pg ep : Nat) (tz : Int) (A : Option Addr) (nd cA g4 g6 : Nat) (w0 : World) (l n : Nat) (a : Act) (w : World) : Prop := l = 0 ∧ a = ⟨#[.pointer (some ⟨F.fm, 0, none⟩), .agg #[.int .i64 (kd : Nat), .int .i64 (pg : Nat), .int .i64 tz, .int .i64 (ep : Nat)], .slice A nd cA, undef, .pointer (some ⟨g4, 0, none⟩), undef, .pointer (some ⟨g6, 0, none⟩), .int .i64 0, undef, undef, undef, undef, undef, undef, undef, undef, undef, undef, undef, undef, undef, undef, undef, undef, undef, undef, undef, undef, undef, undef, undef, undef], []⟩ ∧ w = w0
theorem write_ok (F : FlK) (a b c d e : Int) (fs : List Flt) (L N : Nat) (s : FlS) (q kb ub kd pg ep nd : Nat) (tz : Int) (data : List Nat) (A : Option Addr) (cA : Nat) (n : Int) (w : World) (hF : FlW w F a b c d e fs L N s) (hq : s.seq = (q : Int)) (hq2 : q ≤ 1000000000) (hop : OpenOk a b d fs s.ch kb) (hkb : (kb : Int) < a) (hub : s.ch.ask a (kb : Int) 0 = (ub : Int)) (hub2 : (ub : Int) < b)
    (hSl : Sl w w.heap.size A (data.map byteV)) (hdis : data.map byteV ≠ [] → ∀ h o, A = some ⟨h, o, none⟩ → ¬ FlB F h) (h8 : Bytes8 data) (hnd : data.length = nd) (hc : (nd : Int) = c) (hk1 : 1 ≤ kd) (hk2 : kd ≤ 3) (hkp : kd = 3 → pg = 0) (hpg : pg < 65536) (hep : ep < 16777216) (hfn : Fine s.ch n) (hn : n ≤ 900000000)
    (S1 : ChS) (hz : s.ch.progZ a b c fs (kb : Int) (ub : Int) (nd + 16) = 0) (hS1 : s.ch.progS a b c fs (kb : Int) (ub : Int) (rawB data kd pg (q + 1) ep) = S1) (hT : ({ s with seq := ((q : Int) + 1), ch := S1 } : FlS).over a d fs = false) :
    Calls Tryz.prog 79 #[.pointer (some ⟨F.fm, 0, none⟩), .agg #[.int .i64 (kd : Nat), .int .i64 (pg : Nat), .int .i64 tz, .int .i64 (ep : Nat)], .slice A nd cA] w fun e' w' => e' = .returned (.tuple #[.agg #[.int .i64 (kb : Int), .int .i64 (ub : Int)], .int .i64 0]) ∧ FlW w' F a b c d e fs L N { s with seq := (q : Int) + 1, ch := S1, degr := false } ∧ Tch (FlB F) w w' := by
  have HOP := Lib.hid hop
  have HZ := Lib.hid hz
  have HS1 := Lib.hid hS1
  have HT := Lib.hid hT
  clear hop hz hS1 hT
  go_enter Tryz.func79, Tryz.ntmps79
  go_upto_region 1 with fail
  obtain ⟨W1, hW⟩ : ∃ V : World, V = (w.alloc (.cells #[.int .i64 (kd : Nat), .int .i64 (pg : Nat), .int .i64 tz, .int .i64 (ep : Nat)] 109)).alloc (.cells #[.int .i64 0, .int .i64 0] 68) := ⟨_, rfl⟩
  have bb : Below w.heap.size w W1 := by rw [hW]; exact ((Below.refl _ _).alloc (Nat.le_refl _) _).alloc (by show _ ≤ (w.heap.push _).size; simp) _
  have B4 : Blk W1 w.heap.size 109 #[.int .i64 (kd : Nat), .int .i64 (pg : Nat), .int .i64 tz, .int .i64 (ep : Nat)] := by rw [hW]; exact (Blk.new_ w _ _).alloc_ _
  have B6 : Blk W1 (w.heap.size + 1) 68 #[.int .i64 0, .int .i64 0] := by
    rw [hW]
    have := Blk.new_ (w.alloc (.cells #[.int .i64 (kd : Nat), .int .i64 (pg : Nat), .int .i64 tz, .int .i64 (ep : Nat)] 109)) 68 #[.int .i64 0, .int .i64 0]
    simpa using this
  rw [← hW]
  clear hW
  obtain ⟨g4, hg4⟩ : ∃ g, w.heap.size = g := ⟨_, rfl⟩
  obtain ⟨g6, hg6⟩ : ∃ g, w.heap.size + 1 = g := ⟨_, rfl⟩
  have hG := hF.below bb
  have hSlW : Sl W1 W1.heap.size A (data.map byteV) := hSl.next bb
  have hnB : ∀ h, FlB F h → h < g4 := fun h hb => by have := hF.blt hb; omega
  have h46 : g4 < g6 := by omega
  have HG4 := Lib.hid hg4
  rw [hg4] at B4
  rw [hg6] at B6
  simp only [hg6]
  simp only [hg4]
  clear hg6 hg4 hSl
  refine wp_scope_many (WrtJ F kd pg ep tz A nd cA g4 g6 W1) ?_ ?_
  · intro l Mm a' wr hJ hcut
    clear hcut
    obtain ⟨rfl, rfl, rfl⟩ := hJ
    refine ⟨_, (by simp only [findLabel, Nat.reduceBEq, if_true, if_false, Bool.false_eq_true]; rfl), ?_⟩
    go_upto_region 5 with (first | (go_at_call 125; go_loud (((with_reducible refine (open_ok F a b c d e fs L N s n _ hG hfn.bnd hn kb HOP.out).mono ?_); rintro e' w1 ⟨rfl, b1⟩; have hG1 := hG.below b1; have B41 := B4.below b1 B4.lt; have q := (And.intro (B41.cell_ 0) (And.intro (B41.cell_ 1) (And.intro (B41.cell_ 2) (B41.cell_ 3)))); simp at q; (obtain ⟨u0, u1, u2, u3⟩ := q); have hSl1 := hSlW.next b1))) | (go_at_call 126; go_loud (((with_reducible refine (program_f F a b c d e fs L N s q kb ub kd pg ep nd tz data A cA n _ hG1 hq hq2 hkb hub hub2 hSl1 hdis h8 hnd hc hk1 hk2 hkp hpg hep hfn hn 0 S1 HZ.out HS1.out false HT.out 0 rfl).mono ?_); rintro e' w2 ⟨-, hP, hT2⟩; (obtain ⟨rfl, hG2⟩ := hP rfl)))))
    obtain ⟨V2, hV⟩ : ∃ V : World, V = w2.alloc (.cells #[.int .i64 (kb : Int), .int .i64 (ub : Int)] 68) := ⟨_, rfl⟩
    have bV : Below w2.heap.size w2 V2 := by rw [hV]; exact (Below.refl _ _).alloc (Nat.le_refl _) _
    have BN : Blk V2 w2.heap.size 68 #[.int .i64 (kb : Int), .int .i64 (ub : Int)] := by rw [hV]; exact Blk.new_ _ _ _
    rw [← hV]
    have hG3 := hG2.below bV
    have B62 := (hT2.blk (B6.below b1 B6.lt) (fun h => by have := hnB _ h; omega))
    have B63 := B62.below bV B62.lt
    obtain ⟨gn, hgn⟩ : ∃ g, w2.heap.size = g := ⟨_, rfl⟩
    have hgn6 : g6 < gn := by have := B62.lt; omega
    rw [hgn] at BN ⊢
    clear hV
    have TT : Tch (FlB F) w V2 := (((tch_bel bb).trans (tch_bel b1)).trans hT2).trans (tch_bel bV)
    clear u0 u1 u2 u3
    obtain ⟨u0, u1⟩ : _ ∧ _ := ⟨BN.cell_ 0, BN.cell_ 1⟩
    simp at u0 u1
    have f0 := B63.free 0
    have f1 := B63.free 1
    obtain ⟨o0, o1⟩ : _ ∧ _ := ⟨B63.cell_ 0, B63.cell_ 1⟩
    simp at o0 o1
    have BZ := (B63.set_ 0 (.int .i64 (kb : Int))).set_ 1 (.int .i64 (ub : Int))
    simp at BZ
    obtain ⟨r0, r1⟩ : _ ∧ _ := ⟨BZ.cell_ 0, BZ.cell_ 1⟩
    simp at r0 r1
    have TZ := (Tch.setm V2 g6 0 (.int .i64 (kb : Int))).trans (Tch.setm (V2.setCell ⟨g6, 0, none⟩ (.int .i64 (kb : Int))) g6 1 (.int .i64 (ub : Int)))
    have hGZ := hG3.far TZ (fun g hu e => by have := hF.lt g hu; have := HG4.out; omega)
    have HTZ : Tch (FlB F) w ((V2.setCell ⟨g6, 0, none⟩ (.int .i64 (kb : Int))).setCell ⟨g6, 1, none⟩ (.int .i64 (ub : Int))) := ((TT.mono (S' := fun g => FlB F g ∨ g = g6) (fun g h => Or.inl h)).trans (TZ.mono (fun g h => Or.inr h))).monoL (fun g hg h => by
      rcases h with h | h
      · exact h
      · have := HG4.out; omega)
    go_wp2_with fail
    refine jumpsQ_ret ?_
    refine bodyPost_ret (v := .tuple #[.agg #[.int .i64 (kb : Int), .int .i64 (ub : Int)], .int .i64 0]) (by simp [results, Tryz.results79, go_sem, r0, r1]) rfl ⟨rfl, hGZ, HTZ⟩
  · intro hcut
    have HC := Lib.hid hcut
    clear hcut
    go_wp2_with fail
    rename_i K hK
    go_step3
    show K _ _
    refine hK _ _ ?_
    exact HC.out 0 0 _ _ ⟨rfl, rfl, rfl⟩ _ (by kernel_rfl)
theorem write_n (F : FlK) (a b c d e : Int) (fs : List Flt) (L N : Nat) (s : FlS) (q kb ub kd pg ep nd : Nat) (tz kz pz : Int) (hkz : kz = (kd : Int)) (hpz : pz = (pg : Int)) (data : List Nat) (A : Option Addr) (cA : Nat) (n : Int) (w : World) (hF : FlW w F a b c d e fs L N s) (hq : s.seq = (q : Int)) (hq2 : q ≤ 1000000000) (hop : OpenOk a b d fs s.ch kb) (hkb : (kb : Int) < a) (hub : s.ch.ask a (kb : Int) 0 = (ub : Int)) (hub2 : (ub : Int) < b)
    (hSl : Sl w w.heap.size A (data.map byteV)) (hdis : data.map byteV ≠ [] → ∀ h o, A = some ⟨h, o, none⟩ → ¬ FlB F h) (h8 : Bytes8 data) (hnd : data.length = nd) (hc : (nd : Int) = c) (hk1 : 1 ≤ kd) (hk2 : kd ≤ 3) (hkp : kd = 3 → pg = 0) (hpg : pg < 65536) (hep : ep < 16777216) (hfn : Fine s.ch n) (hn : n ≤ 900000000)
    (S1 : ChS) (hz : s.ch.progZ a b c fs (kb : Int) (ub : Int) (nd + 16) = 0) (hS1 : s.ch.progS a b c fs (kb : Int) (ub : Int) (rawB data kd pg (q + 1) ep) = S1) (hT : ({ s with seq := ((q : Int) + 1), ch := S1 } : FlS).over a d fs = false) :
    Calls Tryz.prog 79 #[.pointer (some ⟨F.fm, 0, none⟩), .agg #[.int .i64 kz, .int .i64 pz, .int .i64 tz, .int .i64 (ep : Nat)], .slice A nd cA] w fun e' w' => e' = .returned (.tuple #[.agg #[.int .i64 (kb : Int), .int .i64 (ub : Int)], .int .i64 0]) ∧ FlW w' F a b c d e fs L N { s with seq := (q : Int) + 1, ch := S1, degr := false } ∧ Tch (FlB F) w w' := by
  subst hkz hpz
  exact write_ok F a b c d e fs L N s q kb ub kd pg ep nd tz data A cA n w hF hq hq2 hop hkb hub hub2 hSl hdis h8 hnd hc hk1 hk2 hkp hpg hep hfn hn S1 hz hS1 hT
end Go.Proofs.YtkpcohfdcilfcaaGreat
namespace Go.Proofs.YtkpcohfdcilfcaaGreat
open Go.ChangeShapes Go.WideShapes Go.ChangeAt Go.RowKit
attribute [local go_sem ↓] Go.wp_at_zero Go.wp_at_succ
theorem writePage_wait (F : FlK) (a b d e : Int) (fs : List Flt) (L N : Nat) (s : FlS) (q kb ub k ep nd : Nat) (x : Wt) (n : Int) (w : World) (hF : FlW w F a b (nd : Int) d e fs L N s) (hx : s.wt[k]? = some x) (hk1 : x.kind = 1) (hep0 : s.epoch = (ep : Int)) (hq : s.seq = (q : Int)) (hq2 : q ≤ 1000000000) (hop : OpenOk a b d fs s.ch kb) (hkb : (kb : Int) < a) (hub : s.ch.ask a (kb : Int) 0 = (ub : Int)) (hub2 : (ub : Int) < b)
    (h8 : Bytes8 x.dat) (hnd : x.dat.length = nd) (hep : ep < 16777216) (hfn : Fine s.ch n) (hn : n ≤ 900000000)
    (S1 : ChS) (hz : s.ch.progZ a b (nd : Int) fs (kb : Int) (ub : Int) (nd + 16) = 0) (hS1 : s.ch.progS a b (nd : Int) fs (kb : Int) (ub : Int) (rawB x.dat 1 k (q + 1) ep) = S1) (hT : ({ s with seq := ((q : Int) + 1), ch := S1 } : FlS).over a d fs = false) :
    Calls Tryz.prog 78 #[.pointer (some ⟨F.fm, 0, none⟩), .int .i64 (k : Int)] w fun e' w' => e' = .returned (.int .i64 0) ∧ FlW w' F a b (nd : Int) d e fs L N { s with seq := (q : Int) + 1, ch := S1, degr := false, fA := putL a b s.fA (k : Int) (kb : Int) (ub : Int) } ∧ Tch (FlB F) w w' := by
  have hk : k < L := by have := (List.getElem?_eq_some_iff.1 hx).1; have := hF.lwt; omega
  have hm := may_bd hF.may
  obtain ⟨-, -, -, -, hc1, hc2, -⟩ := hm
  have hpg : k < 65536 := by have := hF.bL.1; omega
  have HH : Hid (hasF s k = true) := Lib.hid (by unfold hasF; rw [hx]; dsimp only; rw [hk1]; rfl)
  have HND := Lib.hid hnd
  have HZ := Lib.hid hz
  have HS1 := Lib.hid hS1
  have HT := Lib.hid hT
  have k9 := hF.c9
  rw [hep0] at k9
  clear hep0 hnd hz hS1 hT
  go_enter Tryz.func78, Tryz.ntmps78
  go_upto_region 2 with fail
  obtain ⟨V1, hV⟩ : ∃ V : World, V = w.alloc (.cells #[.int .i64 2, .int .i64 (k : Int), .int .i64 0, .int .i64 (ep : Int)] 109) := ⟨_, rfl⟩
  have bV1 : Below w.heap.size w V1 := by rw [hV]; exact (Below.refl _ _).alloc (Nat.le_refl _) _
  have B5 : Blk V1 w.heap.size 109 #[.int .i64 2, .int .i64 (k : Int), .int .i64 0, .int .i64 (ep : Int)] := by rw [hV]; exact Blk.new_ _ _ _
  rw [← hV]
  obtain ⟨g5, hg5⟩ : ∃ g, w.heap.size = g := ⟨_, rfl⟩
  have HG5 := Lib.hid hg5
  rw [hg5] at B5
  simp only [hg5]
  clear hV hg5 k9
  have hG0 := hF.below bV1
  have k3 := hG0.c3
  go_upto_region 3 with (at_make; go_loud (obtain ⟨ti0, hi, hz0, hz1, hz2⟩ := info_parts infoByte; refine wpList_make_full _ rfl _ _ 37 rfl V1.heap.size 5 ti0 (.int .u8 0) 1 Tryz.underlying37 hi hz0 hz1 _ _ _ _ nd rfl rfl rfl rfl (by rw [hz2]; omega) (by unfold maxLen; omega) (Nat.le_refl _) ?_; intro w1 hown1 hgrow1; clear hi hz0 hz1 hz2))
  have bM : Below V1.heap.size V1 w1 := (Below.refl _ _).grown hgrow1 (Nat.le_refl _) (fun j hj => by cases hj)
  clear hown1 hgrow1 k3
  have hG1 := hG0.below bM
  have B5 := B5.below bM B5.lt
  go_upto_region 6 with ((go_at_call 70; go_loud (((with_reducible refine (has_f F a b (nd : Int) d e fs L N s k _ hG1 hk _ HH.out).mono ?_); rintro e' w2 ⟨rfl, b2⟩; have hG2 := hG1.below b2; have B52 := B5.below b2 B5.lt; have f52 := B52.free 0; have y0 := B52.cell_ 0; simp at y0))))
  obtain ⟨V, hV⟩ : ∃ V : World, V = w2.setCell ⟨g5, 0, none⟩ (.int .i64 1) := ⟨_, rfl⟩
  have TV : Tch (fun g => g = g5) w2 V := by rw [hV]; exact Tch.setm w2 g5 0 _
  have hn5 : ∀ g, FlU F g → ¬ g = g5 := fun g h e => by have := hF.lt g h; have := HG5.out; omega
  have hGV := hG2.far TV hn5
  have B5V : Blk V g5 109 #[.int .i64 1, .int .i64 (k : Int), .int .i64 0, .int .i64 (ep : Int)] := by
    rw [hV]
    have h := B52.set_ 0 (.int .i64 1)
    simpa using h
  rw [← hV]
  clear hV
  have TT : Tch (FlB F) w V := ((((tch_bel bV1).trans (tch_bel bM)).trans (tch_bel b2)).mono (S' := fun g => FlB F g ∨ g = g5) (fun g h => Or.inl h) |>.trans (TV.mono (fun g h => Or.inr h))).monoL (fun g hg h => by
    rcases h with h | h
    · exact h
    · have := HG5.out; omega)
  go_upto_region 10 with (first | (go_at_call 72; go_loud (((with_reducible refine (current_wait F a b (nd : Int) d e fs L N s k x _ hGV hx hk1 (by rw [HND.out]; omega) (by rw [HND.out]; omega)).mono ?_); rintro e' w4 ⟨⟨g4, c4, rfl, hR4, hg4, -⟩, b4⟩; rw [HND.out]; have hG4 := hGV.below b4; have B54 := B5V.below b4 B5V.lt; have q := (And.intro (B54.cell_ 0) (And.intro (B54.cell_ 1) (And.intro (B54.cell_ 2) (B54.cell_ 3)))); simp at q; (obtain ⟨u0, u1, u2, u3⟩ := q); have hSl4 := hR4.slr; have hnB : x.dat.map byteV ≠ [] → ∀ h o, (some ⟨g4, 0, none⟩ : Option Addr) = some ⟨h, o, none⟩ → ¬ FlB F h := (fun _ h o e hb => by (cases e; have := hGV.blt hb; omega))))) | (go_at_call 79; go_loud (((with_reducible refine (write_n F a b (nd : Int) d e fs L N s q kb ub 1 k ep nd 0 1 (k : Int) rfl rfl x.dat (some ⟨g4, 0, none⟩) c4 n _ hG4 hq hq2 hop hkb hub hub2 hSl4 hnB h8 HND.out rfl (by omega) (by omega) (by omega) hpg hep hfn hn S1 HZ.out HS1.out HT.out).mono ?_); rintro e' w5 ⟨rfl, hG5, hT5⟩; skip))))
  obtain ⟨V6, hV⟩ : ∃ V : World, V = w5.alloc (.cells #[.int .i64 (kb : Int), .int .i64 (ub : Int)] 68) := ⟨_, rfl⟩
  have bV6 : Below w5.heap.size w5 V6 := by rw [hV]; exact (Below.refl _ _).alloc (Nat.le_refl _) _
  have BN : Blk V6 w5.heap.size 68 #[.int .i64 (kb : Int), .int .i64 (ub : Int)] := by rw [hV]; exact Blk.new_ _ _ _
  rw [← hV]
  obtain ⟨gn, hgn⟩ : ∃ g, w5.heap.size = g := ⟨_, rfl⟩
  have hgnB : ¬ FlB F gn := fun h => by have := hG5.blt h; omega
  rw [hgn] at BN ⊢
  clear hV hgn
  have TT6 : Tch (FlB F) w V6 := ((TT.trans (tch_bel b4)).trans hT5).trans (tch_bel bV6)
  have hGD := (hG5.below bV6).drew_
  have BND := BN.drew_F
  obtain ⟨p0, p1⟩ : _ ∧ _ := ⟨BND.cell_ 0, BND.cell_ 1⟩
  simp at p0 p1
  have QD := And.intro hGD.c12 (And.intro p0 p1)
  clear u0 u1 u2 u3 y0
  go_upto_region 12 with fail
  refine wp_region_noPanic ?_
  refine wp_region_held_drew (S := (fun w_ => w_.cell? ⟨F.fm, 12, none⟩ = some (.pointer (some ⟨F.fr, 0, none⟩)) ∧ w_.cell? ⟨gn, 0, none⟩ = some (.int .i64 (kb : Int)) ∧ w_.cell? ⟨gn, 1, none⟩ = some (.int .i64 (ub : Int)))) (by kernel_rfl) ?_ (fun hHeld => ?_)
  · (first | with_reducible exact QD | with_reducible exact hNext | assumption)
  refine tk 0 ?_; try simp only [Act.put, pz1, pz2, pz3]
  refine tk 1 ?_; try simp only [Act.put, pz1, pz2, pz3]
  refine tk 2 ?_; try simp only [Act.put, pz1, pz2, pz3]
  refine tk 3 ?_; try simp only [Act.put, pz1, pz2, pz3]
  refine tk 4 ?_; try simp only [Act.put, pz1, pz2, pz3]
  refine tk 5 ?_; try simp only [Act.put, pz1, pz2, pz3]
  refine wpAnyH_ready (rs := [6]) (by kernel_rfl) (by simp) ?_
  refine AllReadyH.cons (o := ⟨some 51, .call { callee := .value (.func 92), args := #[.tmp 48, .tmp 49, .tmp 50], argTypes := #[82, 3, 68] }, 4, "write.go:67", #[⟨3, .data⟩, ⟨4, .data⟩, ⟨5, .data⟩], none⟩) rfl (fun K hK => ?_) AllReadyH.nil
  go_simp
  (go_at_call 92; go_loud (((with_reducible refine (putf_f F a b (nd : Int) d e fs L N { s with seq := (q : Int) + 1, ch := S1, degr := false } (k : Int) (kb : Int) (ub : Int) _ hGD (putB a b s.fA (k : Int) (kb : Int) (ub : Int)) rfl).mono ?_); rintro e' w7 ⟨rfl, hG7, hT7⟩; have BN7 := hT7.blk BND (fun h => hgnB h); have p2 := BN7.cell_ 0; have p3 := BN7.cell_ 1; simp at p2 p3; have hNext := And.intro hG7.c12 (And.intro p2 p3))))
  go_wp2_with fail
  refine hK.out _ _ ?_ (fun hNew => ?_)
  · (first | with_reducible exact QD | with_reducible exact hNext | assumption)
  clear hK K hHeld
  have hHeld := hNew
  clear hNew
  try simp only [Act.put, pz1, pz2, pz3]
  refine wpAnyH_done (by kernel_rfl) ?_ _
  refine NoPanic.normal ?_
  go_wp2_with fail
  go_ret
  exact ⟨rfl, hG7, (TT6.trans (tch_bel (below_dr V6))).trans hT7⟩
end Go.Proofs.YtkpcohfdcilfcaaGreat
namespace Go.Proofs.YtkpcohfdcilfcaaGreat
open Go.ChangeShapes Go.WideShapes Go.ChangeAt Go.RowKit
attribute [local go_sem ↓] Go.wp_at_zero Go.wp_at_succ
theorem sl_at {w : World} {B : Nat} {A : Option Addr} {vs : List Value} (h : Sl w B A vs) {k : Nat} {v : Value} (hv : vs[k]? = some v) : ∃ b off, A = some ⟨b, off, none⟩ ∧ w.cell? ⟨b, off + k, none⟩ = some v := by
  rcases h with h | ⟨b, off, hA, hl, hq⟩
  · subst h
    simp at hv
  · exact ⟨b, off, hA, hq k v hv⟩
theorem atf_f (F : FlK) (a b c d e : Int) (fs : List Flt) (L N : Nat) (s : FlS) (k : Nat) (w : World) (hF : FlW w F a b c d e fs L N s) (B : Bool) (hB : hasB s.fA (k : Int) = B) :
    Calls Tryz.prog 113 #[.pointer (some ⟨F.fr, 0, none⟩), .int .i64 (k : Int)] w fun e' w' => (∃ x y : Int, e' = .returned (.tuple #[.agg #[.int .i64 x, .int .i64 y], .bool B]) ∧ (B = true → x = s.fA.getD k (-1) / b ∧ y = s.fA.getD k (-1) % b)) ∧ Below w.heap.size w w' := by
  obtain ⟨W, hM⟩ := hF.fresh
  obtain ⟨l1, l2, -⟩ := hF.bL
  refine (at_any _ _ _ a b c d e L N s.fA W (k : Int) w hM (Lib.hid hF.may) l1 l2).mono ?_
  rintro e' w' ⟨rfl, h⟩
  refine ⟨?_, h⟩
  unfold atT
  rw [hB]
  cases B
  · exact ⟨0, 0, rfl, fun h => by cases h⟩
  · exact ⟨_, _, rfl, fun _ => ⟨rfl, rfl⟩⟩
def stlStep (a b : Int) (s : FlS) (p : Nat) : FlS := { s with kA := putL a b s.kA (p : Int) (s.fA.getD p (-1) / b) (s.fA.getD p (-1) % b), tr := s.tr.set p (!hasF s p), wt := s.wt.set p ⟨0, []⟩, st := s.st.set p false }
def stlF (a b : Int) (s : FlS) (ps : List Nat) : FlS := ps.foldl (stlStep a b) s
theorem stl_fA (a b : Int) : ∀ (ps : List Nat) (s : FlS), (stlF a b s ps).fA = s.fA
  | [], s => rfl
  | p :: ps, s => stl_fA a b ps (stlStep a b s p)
theorem stl_next {a b : Int} {s : FlS} {ps : List Nat} {k p : Nat} (h : ps[k]? = some p) : stlF a b s (ps.take (k + 1)) = stlStep a b (stlF a b s (ps.take k)) p := by
  unfold stlF
  rw [List.take_add_one, h, List.foldl_append]
  rfl
structure FlNx (w : World) (F F' : FlK) : Prop where
  fm : F'.fm = F.fm
  m : F'.m = F.m
  gx : F'.gx = F.gx
  gb : F'.gb = F.gb
  Af : F'.Af = F.Af
  nf : F'.nf = F.nf
  cf : F'.cf = F.cf
  own : ∀ g, FlB F' g → FlB F g ∨ w.heap.size ≤ g
  dat : ∀ g ∈ F'.dat, g ∈ F.dat ∨ w.heap.size ≤ g
theorem FlNx.refl (w : World) (F : FlK) : FlNx w F F := ⟨rfl, rfl, rfl, rfl, rfl, rfl, rfl, fun _ h => Or.inl h, fun _ h => Or.inl h⟩
theorem FlNx.trans {w w' : World} {F F' F'' : FlK} (h : FlNx w F F') (k : FlNx w' F' F'') (hz : w.heap.size ≤ w'.heap.size) : FlNx w F F'' :=
  ⟨k.fm.trans h.fm, k.m.trans h.m, k.gx.trans h.gx, k.gb.trans h.gb, k.Af.trans h.Af, k.nf.trans h.nf, k.cf.trans h.cf, fun g hg => (k.own g hg).elim (h.own g) (fun q => Or.inr (Nat.le_trans hz q)), fun g hg => (k.dat g hg).elim (h.dat g) (fun q => Or.inr (Nat.le_trans hz q))⟩
theorem FlNx.tch {w w1 w2 : World} {F F' : FlK} (h : FlNx w F F') (hT : Tch (FlB F) w w1) (hT2 : Tch (FlB F') w1 w2) : Tch (FlB F) w w2 :=
  ((hT.mono (S' := fun g => FlB F g ∨ FlB F' g) (fun g h => Or.inl h)).trans (hT2.mono (fun g h => Or.inr h))).monoL (fun g hg q => q.elim id (fun q => (h.own g q).elim id (fun q2 => absurd hg (by omega))))
theorem settle_f (F : FlK) (a b c d e : Int) (fs : List Flt) (L N : Nat) (s : FlS) (ps : List Nat) (n : Nat) (hn : ps.length = n) (A : Option Addr) (cA : Nat) (cx cy : Int) (w : World) (hF : FlW w F a b c d e fs L N s) (hSl : Sl w w.heap.size A (ps.map fun (p : Nat) => Value.int .i64 (p : Int))) (hdis : ps ≠ [] → ∀ h o, A = some ⟨h, o, none⟩ → ¬ FlB F h) (hps : ∀ p ∈ ps, p < L ∧ hasB s.fA (p : Int) = true) (n1 : n ≤ 100000) :
    Calls Tryz.prog 80 #[.pointer (some ⟨F.fm, 0, none⟩), .slice A n cA, .agg #[.int .i64 cx, .int .i64 cy]] w fun e' w' => (∃ v, e' = .returned v) ∧ (∃ F', FlW w' F' a b c d e fs L N { stlF a b s ps with fA := List.replicate L (-1), cx := cx, cy := cy, sld := true } ∧ FlNx w F F') ∧ Tch (FlB F) w w' := by
  have HN := Lib.hid hn
  have HPS := Lib.hid hps
  have hm := hF.may
  obtain ⟨lb1, lb2, lb3, lb4⟩ := hF.bL
  have hLN := hF.hL
  have hNN := hF.hN
  have HMB := Lib.hid hm
  have HLG := Lib.hid hLN
  obtain ⟨ha1, ha2, hb1, hb2, -, -, hd1, hd2, -⟩ := may_bd hm
  have hLb : 1 ≤ L := by
    obtain ⟨p1, p2⟩ := prod_bd (x := a - d - 3) (b := b) (by omega) (by omega) hb1 hb2
    have h9 := (may_bd hm).2.2.2.2.2.2.2.2.2.2
    unfold logicalI at hLN h9
    omega
  have hNb : 1 ≤ N := by
    have h := Int.mul_pos (show (0 : Int) < a by omega) (show (0 : Int) < b by omega)
    omega
  have n1L : 1 ≤ L := hLb
  have n2L : L ≤ 1000 := lb1
  have m1N : 1 ≤ N := hNb
  have m2N : N ≤ 1000 := lb2
  clear hn hps hm hLN hLb hNb ha1 ha2 hb1 hb2 hd1 hd2 lb1 lb2 lb3 lb4
  go_enter Tryz.func80, Tryz.ntmps80
  go_upto_region 1 with fail
  obtain ⟨V, hV⟩ : ∃ V : World, V = w.alloc (.cells #[.int .i64 cx, .int .i64 cy] 68) := ⟨_, rfl⟩
  have bV : Below w.heap.size w V := by rw [hV]; exact (Below.refl _ _).alloc (Nat.le_refl _) _
  have BC : Blk V w.heap.size 68 #[.int .i64 cx, .int .i64 cy] := by rw [hV]; exact Blk.new_ _ _ _
  rw [← hV]
  obtain ⟨g5, hg5⟩ : ∃ g, w.heap.size = g := ⟨_, rfl⟩
  have hg5B : ∀ g, FlB F g → ¬ g = g5 := fun g h e => by have := hF.blt h; omega
  rw [hg5] at BC ⊢
  have hGV := hF.below bV
  have hSlV := hSl.next bV
  have hgV : g5 < V.heap.size := BC.lt
  clear hV hg5 hSl
  go_wp2_with fail
  go_loopw [13] (fun i wr => ∃ (k : Nat) (X : List (Option Addr × Nat)), k ≤ n ∧ i = .int .i64 k ∧ Hid (∃ S, stlF a b s (ps.take k) = S ∧ FlW wr { F with wa := X } a b c d e fs L N S) ∧ Tch (FlB F) V wr) (fun i _ => n - (intOf i).toNat)
  case atStart => exact ⟨0, F.wa, by omega, rfl, Lib.hid ⟨s, rfl, hGV⟩, Tch.refl V⟩
  case round =>
    obtain ⟨k, X, hk, rfl, HR, HT⟩ := hrel
    obtain ⟨S, hS, hG⟩ := HR.out
    have HS := Lib.hid hS
    clear HR hS
    by_cases hlt : k < n
    · obtain ⟨p, hp0⟩ : ∃ p, ps[k]? = some p := ⟨_, List.getElem?_eq_getElem (by have := HN.out; omega)⟩
      have hpm := List.mem_of_getElem? hp0
      obtain ⟨hp, hpB⟩ := HPS.out p hpm
      have hne : ps ≠ [] := fun e => by rw [e] at hpm; cases hpm
      obtain ⟨bq, oq, hAq, hcq⟩ := sl_at (slT hSlV HT (Nat.le_refl _) (fun _ => hdis hne)) (k := k) (v := .int .i64 (p : Int)) (by rw [List.getElem?_map, hp0]; rfl)
      subst hAq
      have HB : Hid (hasB S.fA (p : Int) = true) := Lib.hid (by rw [← HS.out, stl_fA]; exact hpB)
      have hst := stl_next (a := a) (b := b) (s := s) hp0
      rw [HS.out] at hst
      have HST := Lib.hid hst
      obtain ⟨T, hT2⟩ : ∃ T, hasF S p = T := ⟨_, rfl⟩
      have HT2 := Lib.hid hT2
      have i0 : (0 : Int) ≤ (k : Int) := by omega
      have i1 : (k : Int) < (n : Int) := by omega
      have p0 : (0 : Int) ≤ (p : Int) := by omega
      have p1 : (p : Int) < (L : Int) := by omega
      have k12 := hG.c12
      clear hst hT2 hpB hpm hp0 hne
      go_upto_region 5 with ((go_at_call 70; go_loud (((with_reducible refine (has_f { F with wa := X } a b c d e fs L N S p _ hG hp _ HT2.out).mono ?_); rintro e' w2 ⟨rfl, b2⟩; have hG2 := hG.below b2))))
      have k12 := hG2.c12
      go_upto_region 6 with ((go_at_call 113; go_loud (((with_reducible refine (atf_f { F with wa := X } a b c d e fs L N S p _ hG2 true HB.out).mono ?_); rintro e' w3 ⟨⟨x, y, rfl, hXY⟩, b3⟩; (obtain ⟨e1, e2⟩ := hXY rfl); have HE := Lib.hid (And.intro e1 e2); clear hXY e1 e2; have hG3 := hG2.below b3))))
      obtain ⟨V9, hV⟩ : ∃ V : World, V = w3.alloc (.cells #[.int .i64 x, .int .i64 y] 68) := ⟨_, rfl⟩
      have bV9 : Below w3.heap.size w3 V9 := by rw [hV]; exact (Below.refl _ _).alloc (Nat.le_refl _) _
      have BX : Blk V9 w3.heap.size 68 #[.int .i64 x, .int .i64 y] := by rw [hV]; exact Blk.new_ _ _ _
      rw [← hV]
      have hG9 := hG3.below bV9
      obtain ⟨g9, hg9⟩ : ∃ g, w3.heap.size = g := ⟨_, rfl⟩
      have hgf : ∀ h, FlB F h → g9 ≠ h := fun h hb e => by
        have := hG3.blt (g := h) hb
        omega
      rw [hg9] at BX ⊢
      have TT9 : Tch (FlB F) V V9 := ((HT.trans (tch_bel b2)).trans (tch_bel b3)).trans (tch_bel bV9)
      clear hV hg9 k12 hcq
      have hGD := hG9.drew_
      have BXD := BX.drew_F
      obtain ⟨o0, o1⟩ : _ ∧ _ := ⟨BXD.cell_ 0, BXD.cell_ 1⟩
      simp at o0 o1
      have QD : V9.drew.cell? ⟨F.fm, 10, none⟩ = some (.pointer (some ⟨F.km, 0, none⟩)) ∧ V9.drew.cell? ⟨g9, 0, none⟩ = some (.int .i64 x) ∧ V9.drew.cell? ⟨g9, 1, none⟩ = some (.int .i64 y) := ⟨hGD.c10, o0, o1⟩
      go_cut [36] (fun v wx => FlW wx { F with wa := X } a b c d e fs L N { S with kA := putL a b S.kA (p : Int) x y } ∧ Tch (FlB F) V9 wx)
      case first =>
        refine wp_region_noPanic ?_
        refine wp_region_held_drew (S := (fun w_ => w_.cell? ⟨F.fm, 10, none⟩ = some (.pointer (some ⟨F.km, 0, none⟩)) ∧ w_.cell? ⟨g9, 0, none⟩ = some (.int .i64 x) ∧ w_.cell? ⟨g9, 1, none⟩ = some (.int .i64 y))) (by kernel_rfl) ?_ (fun hHeld => ?_)
        · (first | with_reducible exact QD | with_reducible exact hNext | assumption)
        refine tk 0 ?_; try simp only [Act.put, pz1, pz2, pz3]
        refine tk 1 ?_; try simp only [Act.put, pz1, pz2, pz3]
        refine tk 2 ?_; try simp only [Act.put, pz1, pz2, pz3]
        refine tk 3 ?_; try simp only [Act.put, pz1, pz2, pz3]
        refine tk 4 ?_; try simp only [Act.put, pz1, pz2, pz3]
        refine tk 5 ?_; try simp only [Act.put, pz1, pz2, pz3]
        refine wpAnyH_ready (rs := [6]) (by kernel_rfl) (by simp) ?_
        refine AllReadyH.cons (o := ⟨some 36, .call { callee := .value (.func 92), args := #[.tmp 33, .tmp 34, .tmp 35], argTypes := #[82, 3, 68] }, 4, "write.go:76", #[⟨3, .data⟩, ⟨4, .data⟩, ⟨5, .data⟩], none⟩) rfl (fun K hK => ?_) AllReadyH.nil
        go_simp
        (go_at_call 92; go_loud (((with_reducible refine (put_f { F with wa := X } a b c d e fs L N S (p : Int) x y _ hGD (putB a b S.kA (p : Int) x y) rfl).mono ?_); rintro e' w5 ⟨rfl, hG5, hT5⟩; have BX5 := hT5.blk BXD (fun h => hgf _ h rfl); have p2 := BX5.cell_ 0; have p3 := BX5.cell_ 1; simp at p2 p3; have hNext : w5.cell? ⟨F.fm, 10, none⟩ = some (.pointer (some ⟨F.km, 0, none⟩)) ∧ w5.cell? ⟨g9, 0, none⟩ = some (.int .i64 x) ∧ w5.cell? ⟨g9, 1, none⟩ = some (.int .i64 y) := ⟨hG5.c10, p2, p3⟩)))
        go_wp2_with fail
        refine hK.out _ _ ?_ (fun hNew => ?_)
        · (first | with_reducible exact QD | with_reducible exact hNext | assumption)
        clear hK K hHeld
        have hHeld := hNew
        clear hNew
        try simp only [Act.put, pz1, pz2, pz3]
        refine wpAnyH_done (by kernel_rfl) ?_ _
        refine NoPanic.normal ?_
        go_wp2_with fail
        go_meet
        exact ⟨hG5, (tch_bel (below_dr V9)).trans hT5⟩
      case rest =>
        obtain ⟨hG7, hT7⟩ := hcut
        have TT7 := TT9.trans hT7
        clear QD hGD BXD BX hG9 o0 o1
        have k11 := hG7.c11
        have fz := RowT.free hG7.tr p
        obtain ⟨tv, htv⟩ := rowB hG7.tr hG7.ltr hp
        have hC := hG7.trSet hp (!T)
        go_upto_region 8 with fail
        obtain ⟨V1, hV⟩ : ∃ V : World, V = wc.setCell ⟨F.gt, p, none⟩ (.bool (!T)) := ⟨_, rfl⟩
        have hGa := hC.1
        have TTa := TT7.trans hC.2
        (try simp only [] at hGa TTa)
        rw [← hV]
        have hGa : FlW V1 { F with wa := X } a b c d e fs L N { S with kA := putL a b S.kA (p : Int) x y, tr := S.tr.set p (!T) } := by rw [hV]; exact hGa
        have TTa : Tch (FlB F) V V1 := by rw [hV]; exact TTa
        clear hV hC k11 fz htv hG7
        have k16 := hGa.c16
        have hvl := wtV_len hGa.lwt hGa.lwa
        obtain ⟨x3, A3, cA3, -, -, y0, y1, -⟩ := hGa.wt_ hp
        have f0 := hGa.wt.free (p * 2)
        have f1 := hGa.wt.free (p * 2 + 1)
        have RT := (hGa.wt.set_ (i := p * 2) (by omega) (.int .i64 0)).set_ (i := p * 2 + 1) (by rw [List.length_set]; omega) (.slice none 0 0)
        have WP := hGa.wtCut hp 0 ((Tch.setm V1 F.gw (p * 2) _).trans (Tch.setm _ F.gw (p * 2 + 1) _)) RT
        clear hvl RT
        go_upto_region 9 with fail
        obtain ⟨V2, hV⟩ : ∃ V : World, V = (V1.setCell ⟨F.gw, p * 2, none⟩ (.int .i64 0)).setCell ⟨F.gw, p * 2 + 1, none⟩ (.slice none 0 0) := ⟨_, rfl⟩
        have hGb : FlW V2 { F with wa := X.set p (none, 0) } a b c d e fs L N { S with kA := putL a b S.kA (p : Int) x y, tr := S.tr.set p (!T), wt := S.wt.set p ⟨0, []⟩ } := by rw [hV]; exact WP.1
        have TTb : Tch (FlB F) V V2 := by rw [hV]; exact TTa.trans WP.2
        rw [← hV]
        clear hV WP k16 y0 y1 f0 f1 hGa
        have k17 := hGb.c17
        have fz := RowT.free hGb.st p
        obtain ⟨tv, htv⟩ := rowB hGb.st hGb.lst hp
        have hC := hGb.stSet hp false
        go_wp2_with fail
        go_roundw
        case rel =>
          refine ⟨k + 1, X.set p (none, 0), by omega, by go_num, Lib.hid ⟨_, ?_, hC.1⟩, TTb.trans hC.2⟩
          rw [HST.out]
          unfold stlStep
          rw [← HE.out.1, ← HE.out.2, HT2.out]
        case measure => simp [intOf]; omega
    · obtain rfl : k = n := by omega
      have hS9 : S = stlF a b s ps := by rw [← HS.out, List.take_of_length_le (by rw [HN.out]; exact Nat.le_refl _)]
      have HS9 := Lib.hid hS9
      obtain ⟨z1, z2, z3, z4, z5⟩ : _ ∧ _ ∧ _ ∧ _ ∧ _ := ⟨hG.c1, hG.c2, hG.c3, hG.c4, hG.c5⟩
      clear hS9 HS
      go_upto_region 12 with ((go_at_call 76; go_loud (((with_reducible refine (new_yes a b c d e L N _ HMB HLG hNN n1L n2L m1N m2N).mono ?_); rintro e' w7 ⟨⟨nm, n1, n2, rfl, hM7, q1, q2, q3⟩, b7⟩; have k12 := (hG.below b7).c12; have f12 := (hG.below b7).free 12; have HNW := hG.newFr b7 hM7 q1 q2 q3))))
      obtain ⟨V1, hV⟩ : ∃ V : World, V = w7.setCell ⟨F.fm, 12, none⟩ (.pointer (some ⟨nm, 0, none⟩)) := ⟨_, rfl⟩
      have hGa : FlW V1 (FlK.newF { F with wa := X } nm n1 n2) a b c d e fs L N { S with fA := List.replicate L (-1) } := by rw [hV]; exact HNW.1
      have TTa : Tch (FlB F) V V1 := by rw [hV]; exact HT.trans HNW.2
      rw [← hV]
      clear hV HNW k12 f12 z1 z2 z3 z4 z5
      have BC1 := TTa.blk BC (fun h => hg5B _ h rfl)
      obtain ⟨o0, o1⟩ : _ ∧ _ := ⟨BC1.cell_ 0, BC1.cell_ 1⟩
      simp at o0 o1
      have k13 : V1.cell? ⟨F.fm, 13, none⟩ = some (.int .i64 S.cx) := hGa.c13
      have k14 : V1.cell? ⟨F.fm, 14, none⟩ = some (.int .i64 S.cy) := hGa.c14
      have k15 : V1.cell? ⟨F.fm, 15, none⟩ = some (.bool S.sld) := hGa.c15
      have f13 : V1.frozen? ⟨F.fm, 13, none⟩ = false := hGa.free 13
      have f14 : V1.frozen? ⟨F.fm, 14, none⟩ = false := hGa.free 14
      have f15 : V1.frozen? ⟨F.fm, 15, none⟩ = false := hGa.free 15
      have hC := hGa.comSet cx cy
      have hzz : w.heap.size ≤ wr.heap.size := Nat.le_trans bV.size HT.size
      have HFX : ∀ g, FlB (FlK.newF { F with wa := X } nm n1 n2) g → FlB F g ∨ w.heap.size ≤ g := fun g h => (flB_newF h).imp (fun h => h) (fun h => by omega)
      have HNX : FlNx w F (FlK.newF { F with wa := X } nm n1 n2) := ⟨rfl, rfl, rfl, rfl, rfl, rfl, rfl, HFX, fun g h => Or.inl h⟩
      have TF : Tch (FlB F) w V1 := (tch_bel bV).trans TTa
      have TFF := HNX.tch TF hC.2
      go_wp2_with fail
      refine bodyPost_end (v := .tuple #[]) (by simp [results, Tryz.results80, go_sem]) rfl ⟨⟨_, rfl⟩, ⟨_, ?_, HNX⟩, TFF⟩
      rw [← HS9.out]
      exact hC.1
end Go.Proofs.YtkpcohfdcilfcaaGreat
namespace Go.Proofs.YtkpcohfdcilfcaaGreat
open Go.ChangeShapes Go.WideShapes Go.ChangeAt Go.RowKit
attribute [local go_sem ↓] Go.wp_at_zero Go.wp_at_succ
structure WrOk (a b : Int) (nd : Nat) (d : Int) (fs : List Flt) (s : FlS) (p : Nat) (s' : FlS) : Prop where
  ex : ∃ (q kb ub ep : Nat) (x : Wt) (n : Int) (S1 : ChS), s.wt[p]? = some x ∧ x.kind = 1 ∧ s.epoch = (ep : Int) ∧ s.seq = (q : Int) ∧ q ≤ 1000000000 ∧ OpenOk a b d fs s.ch kb ∧ (kb : Int) < a ∧ s.ch.ask a (kb : Int) 0 = (ub : Int) ∧ (ub : Int) < b ∧ Bytes8 x.dat ∧ x.dat.length = nd ∧ ep < 16777216 ∧ Fine s.ch n ∧ n ≤ 900000000 ∧ s.ch.progZ a b (nd : Int) fs (kb : Int) (ub : Int) (nd + 16) = 0 ∧ s.ch.progS a b (nd : Int) fs (kb : Int) (ub : Int) (rawB x.dat 1 p (q + 1) ep) = S1 ∧ ({ s with seq := ((q : Int) + 1), ch := S1 } : FlS).over a d fs = false ∧ s' = { s with seq := (q : Int) + 1, ch := S1, degr := false, fA := putL a b s.fA (p : Int) (kb : Int) (ub : Int) }
theorem writePage_w (F : FlK) (a b d e : Int) (fs : List Flt) (L N nd : Nat) (s s' : FlS) (p : Nat) (w : World) (hF : FlW w F a b (nd : Int) d e fs L N s) (h : WrOk a b nd d fs s p s') : Calls Tryz.prog 78 #[.pointer (some ⟨F.fm, 0, none⟩), .int .i64 (p : Int)] w fun e' w' => e' = .returned (.int .i64 0) ∧ FlW w' F a b (nd : Int) d e fs L N s' ∧ Tch (FlB F) w w' := by
  obtain ⟨q, kb, ub, ep, x, n, S1, h1, h2, h3, h4, h5, h6, h7, h8, h9, h10, h11, h12, h13, h14, h15, h16, h17, rfl⟩ := h.ex
  exact writePage_wait F a b d e fs L N s q kb ub p ep nd x n w hF h1 h2 h3 h4 h5 h6 h7 h8 h9 h10 h11 h12 h13 h14 S1 h15 h16 h17
def WChain (a b : Int) (nd : Nat) (d : Int) (fs : List Flt) : FlS → List Nat → FlS → Prop
  | s, [], s' => s = s'
  | s, p :: ps, s' => ∃ s1, WrOk a b nd d fs { s with st := s.st.set p true } p s1 ∧ WChain a b nd d fs s1 ps s'
theorem WChain.next {a b : Int} {nd : Nat} {d : Int} {fs : List Flt} {s s' : FlS} {ps : List Nat} {k p : Nat} (h : WChain a b nd d fs s (ps.drop k) s') (hp : ps[k]? = some p) : ∃ s1, WrOk a b nd d fs { s with st := s.st.set p true } p s1 ∧ WChain a b nd d fs s1 (ps.drop (k + 1)) s' := by
  have hlt := (List.getElem?_eq_some_iff.1 hp).1
  rw [List.drop_eq_getElem_cons hlt] at h
  rw [(List.getElem?_eq_some_iff.1 hp).2] at h
  exact h
theorem WChain.done {a b : Int} {nd : Nat} {d : Int} {fs : List Flt} {s s' : FlS} {ps : List Nat} {k : Nat} (h : WChain a b nd d fs s (ps.drop k) s') (hk : ps.length ≤ k) : s = s' := by
  rw [List.drop_eq_nil_of_le hk] at h
  exact h
theorem row_zero {w : World} {g nd : Nat} (h : RowT w g 5 (madeCells (Value.int .u8 0).cells (nd * 1)).toList) : RowT w g 5 ((List.replicate nd 0).map byteV) := by
  rw [show (madeCells (Value.int .u8 0).cells (nd * 1)).toList = List.replicate (nd * 1) (Value.int .u8 0) from toList_madeCells_one _ _, Nat.mul_one] at h
  rw [List.map_replicate]
  exact h
theorem zero_8 (nd : Nat) : Bytes8 (List.replicate nd 0) := fun x hx => by have := List.eq_of_mem_replicate hx; omega
structure CmOk (a b : Int) (nd : Nat) (d : Int) (fs : List Flt) (s : FlS) (kb ub : Nat) (s' : FlS) : Prop where
  ex : ∃ (q ep : Nat) (n : Int) (S1 : ChS), s.epoch = (ep : Int) ∧ s.seq = (q : Int) ∧ q ≤ 1000000000 ∧ OpenOk a b d fs s.ch kb ∧ (kb : Int) < a ∧ s.ch.ask a (kb : Int) 0 = (ub : Int) ∧ (ub : Int) < b ∧ ep < 16777216 ∧ Fine s.ch n ∧ n ≤ 900000000 ∧ s.ch.progZ a b (nd : Int) fs (kb : Int) (ub : Int) (nd + 16) = 0 ∧ s.ch.progS a b (nd : Int) fs (kb : Int) (ub : Int) (rawB (List.replicate nd 0) 3 0 (q + 1) ep) = S1 ∧ ({ s with seq := ((q : Int) + 1), ch := S1 } : FlS).over a d fs = false ∧ s' = { s with seq := (q : Int) + 1, ch := S1, degr := false }
theorem write_c (F : FlK) (a b d e : Int) (fs : List Flt) (L N nd : Nat) (s s' : FlS) (kb ub : Nat) (ez : Int) (hez : s.epoch = ez) (A : Option Addr) (cA : Nat) (w : World) (hF : FlW w F a b (nd : Int) d e fs L N s) (h : CmOk a b nd d fs s kb ub s') (hSl : Sl w w.heap.size A ((List.replicate nd 0).map byteV)) (hdis : ∀ h o, A = some ⟨h, o, none⟩ → ¬ FlB F h) : Calls Tryz.prog 79 #[.pointer (some ⟨F.fm, 0, none⟩), .agg #[.int .i64 3, .int .i64 0, .int .i64 0, .int .i64 ez], .slice A nd cA] w fun e' w' => e' = .returned (.tuple #[.agg #[.int .i64 (kb : Int), .int .i64 (ub : Int)], .int .i64 0]) ∧ FlW w' F a b (nd : Int) d e fs L N s' ∧ Tch (FlB F) w w' := by
  obtain ⟨q, ep, n, S1, h1, h2, h3, h4, h5, h6, h7, h8, h9, h10, h11, h12, h13, rfl⟩ := h.ex
  rw [h1] at hez
  subst hez
  exact write_n F a b (nd : Int) d e fs L N s q kb ub 3 0 ep nd 0 3 0 rfl rfl (List.replicate nd 0) A cA n w hF h2 h3 h4 h5 h6 h7 hSl (fun _ => hdis) (zero_8 nd) (List.length_replicate ..) rfl (by omega) (by omega) (fun _ => rfl) (by omega) h8 h9 h10 S1 h11 h12 h13
end Go.Proofs.YtkpcohfdcilfcaaGreat
namespace Go.Proofs.YtkpcohfdcilfcaaGreat
open Go.ChangeShapes Go.WideShapes Go.ChangeAt Go.RowKit
attribute [local go_sem ↓] Go.wp_at_zero Go.wp_at_succ
def stlEnd (a b : Int) (L : Nat) (s : FlS) (ps : List Nat) (kb ub : Nat) : FlS := { stlF a b s ps with fA := List.replicate L (-1), cx := (kb : Int), cy := (ub : Int), sld := true }
theorem stl_ch (a b : Int) : ∀ (ps : List Nat) (s : FlS), (stlF a b s ps).ch = s.ch
  | [], s => rfl
  | p :: ps, s => stl_ch a b ps (stlStep a b s p)
theorem gzn {V : World} {F1 : FlK} {a b c d e : Int} {fs : List Flt} {L N : Nat} {s : FlS} (hG : FlW V F1 a b c d e fs L N s) {g : Nat} (hz : V.heap.size ≤ g) : ∀ h o, (some ⟨g, 0, none⟩ : Option Addr) = some ⟨h, o, none⟩ → ¬ FlB F1 h := fun h o e hb => by
  cases e
  have := hG.blt hb
  omega
theorem tend {V V2 wM w5 w6 : World} {F1 : FlK} {g : Nat} (HB : Below V.heap.size V wM) (hA : Below wM.heap.size wM V2) (hT : Tch (FlB F1) V2 w5) (TS : Tch (fun h => h = g) w5 w6) (hg : V.heap.size ≤ g) : Tch (FlB F1) V w6 :=
  (((((tch_bel HB).trans (tch_bel hA)).trans hT).mono (S' := fun h => FlB F1 h ∨ h = g) (fun h q => Or.inl q)).trans (TS.mono (fun h q => Or.inr q))).monoL (fun h hl q => q.elim id (fun e => by omega))
theorem flush_f (F : FlK) (a b d e : Int) (fs : List Flt) (L N nd : Nat) (s S3 S4 : FlS) (eq : Nat) (ps : List Nat) (n : Nat) (hn : ps.length = n) (A : Option Addr) (cA : Nat) (kb ub : Nat) (nb : Int) (w : World) (hF : FlW w F a b (nd : Int) d e fs L N s) (hSl : Sl w w.heap.size A (ps.map fun (p : Nat) => Value.int .i64 (p : Int))) (hdis : ps ≠ [] → ∀ h o, A = some ⟨h, o, none⟩ → ¬ FlB F h) (hnn1 : n ≤ 100000) (hps : ∀ p ∈ ps, p < L ∧ hasB S4.fA (p : Int) = true) (heq : s.epoch = (eq : Int)) (heq2 : eq ≤ 1000000000) (hrb : resB a d fs s.ch 0 = true)
    (hch : WChain a b nd d fs { s with epoch := (eq : Int) + 1, fA := List.replicate L (-1) } ps S3) (hcm : CmOk a b nd d fs S3 kb ub S4) (hns : NoStrand a b fs (stlEnd a b L S4 ps kb ub)) (hbn : S4.ch.Bnd nb) (hnb : nb ≤ 900000000) (hsp : sprI a fs S4.ch ≤ e + 2 * a + S4.ch.cuts) :
    Calls Tryz.prog 50 #[.pointer (some ⟨F.fm, 0, none⟩), .slice A n cA] w fun e' w' => e' = .returned (.int .i64 0) ∧ (∃ F', FlW w' F' a b (nd : Int) d e fs L N (stlEnd a b L S4 ps kb ub) ∧ FlNx w F F') ∧ Tch (FlB F) w w' := by
  have HN := Lib.hid hn
  have HPS := Lib.hid hps
  have HRB := Lib.hid hrb
  have HCH := Lib.hid hch
  have hcm := Lib.hid hcm
  have HNS := Lib.hid hns
  have HBN : Hid ((stlEnd a b L S4 ps kb ub).ch.Bnd nb) := Lib.hid (by
    show ((stlF a b S4 ps).ch).Bnd nb
    rw [stl_ch]
    exact hbn)
  have HSP : Hid (sprI a fs (stlEnd a b L S4 ps kb ub).ch ≤ e + 2 * a + (stlEnd a b L S4 ps kb ub).ch.cuts) := Lib.hid (by
    show sprI a fs (stlF a b S4 ps).ch ≤ e + 2 * a + (stlF a b S4 ps).ch.cuts
    rw [stl_ch]
    exact hsp)
  have HE5 : Hid (S4.epoch = S3.epoch) := Lib.hid (by
    obtain ⟨q, ep, m, S1, -, -, -, -, -, -, -, -, -, -, -, -, -, rfl⟩ := hcm.out.ex
    rfl)
  have hm := hF.may
  obtain ⟨lb1, lb2, lb3, lb4⟩ := hF.bL
  have hLN := hF.hL
  have hNN := hF.hN
  have HMB := Lib.hid hm
  have HLG := Lib.hid hLN
  obtain ⟨ha1, ha2, hb1, hb2, hc1, hc2, hd1, hd2, -⟩ := may_bd hm
  have n1L : 1 ≤ L := by
    obtain ⟨p1, p2⟩ := prod_bd (x := a - d - 3) (b := b) (by omega) (by omega) hb1 hb2
    have h9 := (may_bd hm).2.2.2.2.2.2.2.2.2.2
    unfold logicalI at hLN h9
    omega
  have m1N : 1 ≤ N := by
    have h := Int.mul_pos (show (0 : Int) < a by omega) (show (0 : Int) < b by omega)
    omega
  have n2L : L ≤ 1000 := lb1
  have m2N : N ≤ 1000 := lb2
  have k9 := hF.c9
  rw [heq] at k9
  have f9 := hF.free 9
  have hC := hF.epoSet ((eq : Int) + 1)
  clear hn hps hrb hch hns hbn hsp hm hLN ha1 ha2 hb1 hb2 hd1 hd2 lb1 lb2 lb3 lb4 heq
  go_enter Tryz.func50, Tryz.ntmps50
  go_upto_region 2 with fail
  obtain ⟨V1, hV⟩ : ∃ V : World, V = w.setCell ⟨F.fm, 9, none⟩ (.int .i64 ((eq : Int) + 1)) := ⟨_, rfl⟩
  have hG1 : FlW V1 F a b (nd : Int) d e fs L N { s with epoch := (eq : Int) + 1 } := by rw [hV]; exact hC.1
  have TT1 : Tch (FlB F) w V1 := by rw [hV]; exact hC.2
  rw [← hV]
  clear hV hC k9 f9
  obtain ⟨z1, z2, z3, z4, z5⟩ : _ ∧ _ ∧ _ ∧ _ ∧ _ := ⟨hG1.c1, hG1.c2, hG1.c3, hG1.c4, hG1.c5⟩
  go_upto_region 3 with ((go_at_call 76; go_loud (((with_reducible refine (new_yes a b (nd : Int) d e L N _ HMB HLG hNN n1L n2L m1N m2N).mono ?_); rintro e' w2 ⟨⟨nm, n1, n2, rfl, hM2, q1, q2, q3⟩, b2⟩; have k12 := (hG1.below b2).c12; have f12 := (hG1.below b2).free 12; have HNW := hG1.newFr b2 hM2 q1 q2 q3))))
  obtain ⟨S2, hS2⟩ : ∃ S : FlS, S = { s with epoch := (eq : Int) + 1, fA := List.replicate L (-1) } := ⟨_, rfl⟩
  obtain ⟨F1, hF1⟩ : ∃ G : FlK, G = F.newF nm n1 n2 := ⟨_, rfl⟩
  obtain ⟨V2, hV⟩ : ∃ V : World, V = w2.setCell ⟨F.fm, 12, none⟩ (.pointer (some ⟨nm, 0, none⟩)) := ⟨_, rfl⟩
  have hG2 : FlW V2 F1 a b (nd : Int) d e fs L N S2 := by rw [hV, hF1, hS2]; exact HNW.1
  have TT2 : Tch (FlB F) w V2 := by rw [hV]; exact TT1.trans HNW.2
  rw [← hV]
  have hfm : F1.fm = F.fm := by rw [hF1]; rfl
  have hzV := TT1.size
  have HNX : FlNx w F F1 := by
    rw [hF1]
    exact ⟨rfl, rfl, rfl, rfl, rfl, rfl, rfl, fun g h => (flB_newF h).imp (fun h => h) (fun h => by omega), fun g h => Or.inl h⟩
  have HCH : Hid (WChain a b nd d fs S2 ps S3) := by rw [hS2]; exact HCH
  have HRB : Hid (resB a d fs S2.ch 0 = true) := by rw [hS2]; exact HRB
  have hSl2 : Sl V2 V2.heap.size A (ps.map fun (p : Nat) => Value.int .i64 (p : Int)) := (slT hSl TT2 (Nat.le_refl _) (fun h => hdis (fun e => h (by rw [e]; rfl)))).mono TT2.size
  have hd2 : ps ≠ [] → ∀ h o, A = some ⟨h, o, none⟩ → ¬ FlB F1 h := fun hne h o hA hB => by
    rcases HNX.own h hB with q | q
    · exact hdis hne h o hA q
    · rcases hSl with e | ⟨b', off, hA', hl, -⟩
      · exact hne (List.map_eq_nil_iff.1 e)
      · rw [hA] at hA'
        cases hA'
        omega
  clear hV HNW k12 f12 z1 z2 z3 z4 z5 hF1 hS2 hG1 TT1
  rw [← hfm]
  clear hfm
  go_wp2_with ((go_at_call 77; go_loud (((with_reducible refine (restore_no F1 a b (nd : Int) d e fs L N S2 _ hG2 HRB.out).mono ?_); rintro e' w3 ⟨rfl, b3⟩; have hG3 := hG2.below b3))))
  have TT3 := TT2.trans (tch_bel (S := FlB F) b3)
  have hSl3 := hSl2.next b3
  go_loopw [34] (fun i wr => ∃ k : Nat, k ≤ n ∧ i = .int .i64 k ∧ Hid (∃ S, WChain a b nd d fs S (ps.drop k) S3 ∧ FlW wr F1 a b (nd : Int) d e fs L N S) ∧ Tch (FlB F1) w3 wr) (fun i _ => n - (intOf i).toNat)
  case atStart => exact ⟨0, by omega, rfl, Lib.hid ⟨S2, HCH.out, hG3⟩, Tch.refl w3⟩
  case round =>
    obtain ⟨k, hk, rfl, HR, HT⟩ := hrel
    obtain ⟨S, hS, hG⟩ := HR.out
    have HS := Lib.hid hS
    clear HR hS
    by_cases hlt : k < n
    · obtain ⟨p, hp0⟩ : ∃ p, ps[k]? = some p := ⟨_, List.getElem?_eq_getElem (by have := HN.out; omega)⟩
      have hpm := List.mem_of_getElem? hp0
      obtain ⟨hp, -⟩ := HPS.out p hpm
      have hne : ps ≠ [] := fun e => by rw [e] at hpm; cases hpm
      obtain ⟨bq, oq, hAq, hcq⟩ := sl_at (slT hSl3 HT (Nat.le_refl _) (fun _ => hd2 hne)) (k := k) (v := .int .i64 (p : Int)) (by rw [List.getElem?_map, hp0]; rfl)
      subst hAq
      obtain ⟨s1, hW, hch1⟩ := HS.out.next hp0
      have HW := Lib.hid hW
      have HC1 := Lib.hid hch1
      have i0 : (0 : Int) ≤ (k : Int) := by omega
      have i1 : (k : Int) < (n : Int) := by omega
      have p0 : (0 : Int) ≤ (p : Int) := by omega
      have p1 : (p : Int) < (L : Int) := by omega
      have k17 := hG.c17
      have fz := RowT.free hG.st p
      obtain ⟨tv, htv⟩ := rowB hG.st hG.lst hp
      have hC := hG.stSet hp true
      clear hW hch1 hpm hp0 hne
      go_upto_region 10 with fail
      obtain ⟨V5, hV⟩ : ∃ V : World, V = wr.setCell ⟨F1.gs, p, none⟩ (.bool true) := ⟨_, rfl⟩
      have hGs : FlW V5 F1 a b (nd : Int) d e fs L N { S with st := S.st.set p true } := by rw [hV]; exact hC.1
      have TT5 : Tch (FlB F1) w3 V5 := by rw [hV]; exact HT.trans hC.2
      rw [← hV]
      clear hV hC k17 fz htv hcq
      go_wp2_with ((go_at_call 78; go_loud (((with_reducible refine (writePage_w F1 a b d e fs L N nd _ s1 p _ hGs HW.out).mono ?_); rintro e' w5 ⟨rfl, hG5, hT5⟩; skip))))
      go_roundw
      case rel => exact ⟨k + 1, by omega, by go_num, Lib.hid ⟨s1, HC1.out, hG5⟩, TT5.trans hT5⟩
      case measure => simp [intOf]; omega
    · obtain rfl : n = k := by omega
      have hS9 : S = S3 := HS.out.done (by rw [HN.out]; exact Nat.le_refl _)
      subst hS9
      have hGV := hG
      have bD : Below wr.heap.size wr wr.drew := below_dr wr
      have bA0 : Below wr.heap.size wr (wr.alloc (.cells #[.int .i64 0, .int .i64 0] 68)) := (Below.refl _ _).alloc (Nat.le_refl _) _
      have bA : Below wr.heap.size wr (wr.alloc (.cells #[.int .i64 0, .int .i64 0] 68)).drew := btr bA0 bA0.size (below_dr _)
      have e9 : (wr.alloc (.cells #[.int .i64 0, .int .i64 0] 68)).drew.heap.size = wr.heap.size + 1 := by
        show (wr.heap.push _).size = _
        simp
      have BA := (Blk.new_ wr 68 #[.int .i64 0, .int .i64 0]).drew_F
      have hGD := hGV.below bD
      have hGA := hGV.below bA
      have QD : (wr.drew.cell? ⟨F1.fm, 9, none⟩ = some (.int .i64 S.epoch) ∧ wr.drew.cell? ⟨F1.fm, 3, none⟩ = some (.int .i64 (nd : Int))) := ⟨hGD.c9, hGD.c3⟩
      have QA : ((wr.alloc (.cells #[.int .i64 0, .int .i64 0] 68)).drew.cell? ⟨F1.fm, 9, none⟩ = some (.int .i64 S.epoch) ∧ (wr.alloc (.cells #[.int .i64 0, .int .i64 0] 68)).drew.cell? ⟨F1.fm, 3, none⟩ = some (.int .i64 (nd : Int))) := ⟨hGA.c9, hGA.c3⟩
      clear HS hlt hG
      go_upto_region 14 with fail
      go_cut [9, 10] (fun v9 v10 wx => ∃ g9, v9 = .pointer (some ⟨g9, 0, none⟩) ∧ v10 = .int .i64 0 ∧ FlW wx F1 a b (nd : Int) d e fs L N S4 ∧ Tch (FlB F1) wr wx ∧ Blk wx g9 68 #[.int .i64 (kb : Int), .int .i64 (ub : Int)])
      case first =>
        refine wp_region_noPanic ?_
        refine wp_region_held_drew (S := (fun w_ => (w_.cell? ⟨F1.fm, 9, none⟩ = some (.int .i64 S.epoch) ∧ w_.cell? ⟨F1.fm, 3, none⟩ = some (.int .i64 (nd : Int))))) (by kernel_rfl) ?_ (fun hHeld => ?_)
        · (first | with_reducible exact QNS | with_reducible exact QNM _ | with_reducible exact QN5 _ | exact QN5 _ | with_reducible exact QD | with_reducible exact QA | with_reducible exact hNext | assumption)
        refine tk 0 ?_; try simp only [Act.put, pz1, pz2, pz3]
        refine tk 1 ?_; try simp only [Act.put, pz1, pz2, pz3]
        refine tk 2 ?_; try simp only [Act.put, pz1, pz2, pz3]
        refine tk 3 ?_; try simp only [Act.put, pz1, pz2, pz3]
        refine tk 4 ?_; try simp only [Act.put, pz1, pz2, pz3]
        refine tk 5 ?_; try simp only [Act.put, pz1, pz2, pz3]
        refine tk 6 ?_; try simp only [Act.put, pz1, pz2, pz3]
        refine tk 7 ?_; try simp only [Act.put, pz1, pz2, pz3]
        refine tk 8 ?_; try simp only [Act.put, pz1, pz2, pz3]
        refine tk 9 ?_; try simp only [Act.put, pz1, pz2, pz3]
        refine tk 10 ?_; try simp only [Act.put, pz1, pz2, pz3]
        refine wpAnyH_ready (rs := [11, 16]) (by kernel_rfl) (by simp) ?_
        refine (AllReadyH.cons (o := ⟨some 63, .makeSlice 37 (.tmp 62) (.tmp 62), 37, "write.go:41", #[⟨10, .data⟩, ⟨10, .data⟩], none⟩) rfl (fun K hK => ?_) (AllReadyH.cons (o := ⟨some 9, .alloc 68, 0, "write.go:41", #[], none⟩) rfl (fun K hK => ?_) AllReadyH.nil))
        · obtain ⟨ti0, hi, hz0, hz1, hz2⟩ := info_parts infoByte
          refine wp_make _ (.tmp 62) (.tmp 62) 37 rfl _ 5 ti0 (.int .u8 0) 1 Tryz.underlying37 hi hz0 hz1 .i64 .i64 nd nd nd rfl rfl rfl rfl (by rw [hz2]; omega) (by unfold maxLen; omega) (Nat.le_refl _) ?_
          intro wM hoM hgM
          clear hi hz0 hz1 hz2
          have hbM := (Below.refl _ _).grown hgM (Nat.le_refl _) (fun j hj => by cases hj)
          have hrM := row_zero (RowT.own hoM)
          clear hoM hgM
          first
            | (have HBM : Below wr.heap.size wr wM := btr bD bD.size hbM; change RowT wM wr.heap.size _ _ at hrM; have hgz := gzn hGV (Nat.le_refl wr.heap.size))
            | (have HBM : Below wr.heap.size wr wM := btr bA bA.size hbM; have BAM := BA.below hbM BA.lt; rw [e9] at hrM; have hgz := gzn hGV (Nat.le_succ wr.heap.size))
          have hGM := hGV.below HBM
          have hNext : (wM.cell? ⟨F1.fm, 9, none⟩ = some (.int .i64 S.epoch) ∧ wM.cell? ⟨F1.fm, 3, none⟩ = some (.int .i64 (nd : Int))) := ⟨hGM.c9, hGM.c3⟩
          have QNM : ∀ cs, ((wM.alloc (.cells cs 68)).cell? ⟨F1.fm, 9, none⟩ = some (.int .i64 S.epoch) ∧ (wM.alloc (.cells cs 68)).cell? ⟨F1.fm, 3, none⟩ = some (.int .i64 (nd : Int))) := fun cs => (by have h := hGM.below ((Below.refl _ _).alloc (Nat.le_refl _) (.cells cs 68)); exact ⟨h.c9, h.c3⟩)
          refine hK.out _ _ ?_ (fun hNew => ?_)
          · (first | with_reducible exact QNS | with_reducible exact QNM _ | with_reducible exact QN5 _ | exact QN5 _ | with_reducible exact QD | with_reducible exact QA | with_reducible exact hNext | assumption)
          clear hK K hHeld
          have hHeld := hNew
          clear hNew
          try simp only [Act.put, pz1, pz2, pz3]
          refine wpAnyH_ready (rs := [12, 16]) (by kernel_rfl) (by simp) ?_
          refine (AllReadyH.cons (o := ⟨some 64, .call { callee := .value (.func 79), args := #[.tmp 52, .tmp 57, .tmp 63], argTypes := #[28, 109, 37] }, 106, "write.go:41", #[⟨0, .data⟩, ⟨5, .data⟩, ⟨11, .data⟩], none⟩) rfl (fun K hK => ?_) (AllReadyH.cons (o := ⟨some 9, .alloc 68, 0, "write.go:41", #[], none⟩) rfl (fun K hK => ?_) AllReadyH.nil))
          · go_simp
            (first | (go_at_call 79; go_loud (((with_reducible refine (write_c F1 a b d e fs L N nd S S4 kb ub _ rfl _ _ _ hGM hcm.out hrM.slr hgz).mono ?_); rintro e' w5 ⟨rfl, hG5, hT5⟩; have hNext : (w5.cell? ⟨F1.fm, 9, none⟩ = some (.int .i64 S.epoch) ∧ w5.cell? ⟨F1.fm, 3, none⟩ = some (.int .i64 (nd : Int))) := ⟨HE5.out.symm ▸ hG5.c9, hG5.c3⟩; have QN5 : ∀ cs, ((w5.alloc (.cells cs 68)).cell? ⟨F1.fm, 9, none⟩ = some (.int .i64 S.epoch) ∧ (w5.alloc (.cells cs 68)).cell? ⟨F1.fm, 3, none⟩ = some (.int .i64 (nd : Int))) := fun cs => (by have h := hG5.below ((Below.refl _ _).alloc (Nat.le_refl _) (.cells cs 68)); exact ⟨HE5.out.symm ▸ h.c9, h.c3⟩); have BN5 := hT5.blk BAM (fun h => by have := hGV.blt h; omega); have m0 := BN5.cell_ 0; have m1 := BN5.cell_ 1; simp at m0 m1; have f0 := BN5.free 0; have f1 := BN5.free 1; have TS : Tch (fun g => g = wr.heap.size) w5 ((w5.setCell ⟨wr.heap.size, 0, none⟩ (.int .i64 (kb : Int))).setCell ⟨wr.heap.size, 1, none⟩ (.int .i64 (ub : Int))) := (Tch.setm w5 wr.heap.size 0 _).trans (Tch.setm _ wr.heap.size 1 _); have GS := hG5.far TS (fun g hu e => by have := hGV.lt g hu; have := HBM.size; omega); have BS := (BN5.set_ 0 (.int .i64 (kb : Int))).set_ 1 (.int .i64 (ub : Int)); simp at BS; have QNS : (((w5.setCell ⟨wr.heap.size, 0, none⟩ (.int .i64 (kb : Int))).setCell ⟨wr.heap.size, 1, none⟩ (.int .i64 (ub : Int))).cell? ⟨F1.fm, 9, none⟩ = some (.int .i64 S.epoch) ∧ ((w5.setCell ⟨wr.heap.size, 0, none⟩ (.int .i64 (kb : Int))).setCell ⟨wr.heap.size, 1, none⟩ (.int .i64 (ub : Int))).cell? ⟨F1.fm, 3, none⟩ = some (.int .i64 (nd : Int))) := ⟨HE5.out.symm ▸ GS.c9, GS.c3⟩))) | (go_at_call 79; go_loud (((with_reducible refine (write_c F1 a b d e fs L N nd S S4 kb ub _ rfl _ _ _ hGM hcm.out hrM.slr hgz).mono ?_); rintro e' w5 ⟨rfl, hG5, hT5⟩; have hNext : (w5.cell? ⟨F1.fm, 9, none⟩ = some (.int .i64 S.epoch) ∧ w5.cell? ⟨F1.fm, 3, none⟩ = some (.int .i64 (nd : Int))) := ⟨HE5.out.symm ▸ hG5.c9, hG5.c3⟩; have QN5 : ∀ cs, ((w5.alloc (.cells cs 68)).cell? ⟨F1.fm, 9, none⟩ = some (.int .i64 S.epoch) ∧ (w5.alloc (.cells cs 68)).cell? ⟨F1.fm, 3, none⟩ = some (.int .i64 (nd : Int))) := fun cs => (by have h := hG5.below ((Below.refl _ _).alloc (Nat.le_refl _) (.cells cs 68)); exact ⟨HE5.out.symm ▸ h.c9, h.c3⟩)))) | (go_at_call 79; go_loud (((with_reducible refine (write_c F1 a b d e fs L N nd S S4 kb ub _ rfl _ _ _ (hGM.below ((Below.refl _ _).alloc (Nat.le_refl _) _)) hcm.out (hrM.below ((Below.refl _ _).alloc (Nat.le_refl _) _)).slr hgz).mono ?_); rintro e' w5 ⟨rfl, hG5, hT5⟩; have hNext : (w5.cell? ⟨F1.fm, 9, none⟩ = some (.int .i64 S.epoch) ∧ w5.cell? ⟨F1.fm, 3, none⟩ = some (.int .i64 (nd : Int))) := ⟨HE5.out.symm ▸ hG5.c9, hG5.c3⟩; have QN5 : ∀ cs, ((w5.alloc (.cells cs 68)).cell? ⟨F1.fm, 9, none⟩ = some (.int .i64 S.epoch) ∧ (w5.alloc (.cells cs 68)).cell? ⟨F1.fm, 3, none⟩ = some (.int .i64 (nd : Int))) := fun cs => (by have h := hG5.below ((Below.refl _ _).alloc (Nat.le_refl _) (.cells cs 68)); exact ⟨HE5.out.symm ▸ h.c9, h.c3⟩); have BN5 := hT5.blk (Blk.new_ wM 68 #[.int .i64 0, .int .i64 0]) (fun h => by have := hGV.blt h; have := HBM.size; omega); have m0 := BN5.cell_ 0; have m1 := BN5.cell_ 1; simp at m0 m1; have f0 := BN5.free 0; have f1 := BN5.free 1; have TS : Tch (fun g => g = wM.heap.size) w5 ((w5.setCell ⟨wM.heap.size, 0, none⟩ (.int .i64 (kb : Int))).setCell ⟨wM.heap.size, 1, none⟩ (.int .i64 (ub : Int))) := (Tch.setm w5 wM.heap.size 0 _).trans (Tch.setm _ wM.heap.size 1 _); have GS := hG5.far TS (fun g hu e => by have := hGV.lt g hu; have := HBM.size; omega); have BS := (BN5.set_ 0 (.int .i64 (kb : Int))).set_ 1 (.int .i64 (ub : Int)); simp at BS; have QNS : (((w5.setCell ⟨wM.heap.size, 0, none⟩ (.int .i64 (kb : Int))).setCell ⟨wM.heap.size, 1, none⟩ (.int .i64 (ub : Int))).cell? ⟨F1.fm, 9, none⟩ = some (.int .i64 S.epoch) ∧ ((w5.setCell ⟨wM.heap.size, 0, none⟩ (.int .i64 (kb : Int))).setCell ⟨wM.heap.size, 1, none⟩ (.int .i64 (ub : Int))).cell? ⟨F1.fm, 3, none⟩ = some (.int .i64 (nd : Int))) := ⟨HE5.out.symm ▸ GS.c9, GS.c3⟩))))
            go_wp2_with fail
            refine hK.out _ _ ?_ (fun hNew => ?_)
            · (first | with_reducible exact QNS | with_reducible exact QNM _ | with_reducible exact QN5 _ | exact QN5 _ | with_reducible exact QD | with_reducible exact QA | with_reducible exact hNext | assumption)
            clear hK K hHeld
            have hHeld := hNew
            clear hNew
            try simp only [Act.put, pz1, pz2, pz3]
            refine tk 13 ?_; try simp only [Act.put, pz1, pz2, pz3]
            refine tk 14 ?_; try simp only [Act.put, pz1, pz2, pz3]
            refine tk 15 ?_; try simp only [Act.put, pz1, pz2, pz3]
            refine wpAnyH_ready (rs := [16]) (by kernel_rfl) (by simp) ?_
            refine AllReadyH.cons (o := ⟨some 9, .alloc 68, 0, "write.go:41", #[], none⟩) rfl (fun K hK => ?_) AllReadyH.nil
            go_simp
            skip
            refine hK.out _ _ ?_ (fun hNew => ?_)
            · (first | with_reducible exact QNS | with_reducible exact QNM _ | with_reducible exact QN5 _ | exact QN5 _ | with_reducible exact QD | with_reducible exact QA | with_reducible exact hNext | assumption)
            clear hK K hHeld
            have hHeld := hNew
            clear hNew
            try simp only [Act.put, pz1, pz2, pz3]
            refine wpAnyH_ready (rs := [17]) (by kernel_rfl) (by simp) ?_
            refine AllReadyH.cons (o := ⟨none, .store 68 (.tmp 9) (.tmp 65), 0, "write.go:41", #[⟨16, .data⟩, ⟨14, .data⟩, ⟨12, .chain⟩, ⟨0, .phase⟩, ⟨1, .phase⟩, ⟨2, .phase⟩, ⟨3, .phase⟩, ⟨4, .phase⟩, ⟨5, .phase⟩, ⟨6, .phase⟩, ⟨7, .phase⟩, ⟨8, .phase⟩, ⟨9, .phase⟩, ⟨10, .phase⟩, ⟨11, .phase⟩, ⟨12, .phase⟩, ⟨13, .phase⟩, ⟨14, .phase⟩, { on := 15, ground := Ground.textOnly Departure.lateStores }, ⟨16, .phase⟩], none⟩) rfl (fun K hK => ?_) AllReadyH.nil
            go_simp
            skip
            refine hK.out _ _ ?_ (fun hNew => ?_)
            · (first | with_reducible exact QNS | with_reducible exact QNM _ | with_reducible exact QN5 _ | exact QN5 _ | with_reducible exact QD | with_reducible exact QA | with_reducible exact hNext | assumption)
            clear hK K hHeld
            have hHeld := hNew
            clear hNew
            try simp only [Act.put, pz1, pz2, pz3]
            refine tk 18 ?_; try simp only [Act.put, pz1, pz2, pz3]
            refine wpAnyH_done (by kernel_rfl) ?_ _
            refine NoPanic.normal ?_
            go_wp2_with fail
            go_meet
            first
              | exact ⟨_, rfl, rfl, hG5.below ((Below.refl w5.heap.size w5).alloc (Nat.le_refl _) _), (((tch_bel HBM).trans hT5).trans (tch_bel ((Below.refl w5.heap.size w5).alloc (Nat.le_refl _) _))), Blk.new_ _ _ _⟩
              | exact ⟨_, rfl, rfl, GS, tend HBM (Below.refl _ _) hT5 TS (by omega), BS⟩
              | exact ⟨_, rfl, rfl, GS, tend HBM ((Below.refl _ _).alloc (Nat.le_refl _) _) hT5 TS (by have := HBM.size; omega), BS⟩
          · go_simp
            skip
            refine hK.out _ _ ?_ (fun hNew => ?_)
            · (first | with_reducible exact QNS | with_reducible exact QNM _ | with_reducible exact QN5 _ | exact QN5 _ | with_reducible exact QD | with_reducible exact QA | with_reducible exact hNext | assumption)
            clear hK K hHeld
            have hHeld := hNew
            clear hNew
            try simp only [Act.put, pz1, pz2, pz3]
            refine wpAnyH_ready (rs := [12]) (by kernel_rfl) (by simp) ?_
            refine AllReadyH.cons (o := ⟨some 64, .call { callee := .value (.func 79), args := #[.tmp 52, .tmp 57, .tmp 63], argTypes := #[28, 109, 37] }, 106, "write.go:41", #[⟨0, .data⟩, ⟨5, .data⟩, ⟨11, .data⟩], none⟩) rfl (fun K hK => ?_) AllReadyH.nil
            go_simp
            (first | (go_at_call 79; go_loud (((with_reducible refine (write_c F1 a b d e fs L N nd S S4 kb ub _ rfl _ _ _ hGM hcm.out hrM.slr hgz).mono ?_); rintro e' w5 ⟨rfl, hG5, hT5⟩; have hNext : (w5.cell? ⟨F1.fm, 9, none⟩ = some (.int .i64 S.epoch) ∧ w5.cell? ⟨F1.fm, 3, none⟩ = some (.int .i64 (nd : Int))) := ⟨HE5.out.symm ▸ hG5.c9, hG5.c3⟩; have QN5 : ∀ cs, ((w5.alloc (.cells cs 68)).cell? ⟨F1.fm, 9, none⟩ = some (.int .i64 S.epoch) ∧ (w5.alloc (.cells cs 68)).cell? ⟨F1.fm, 3, none⟩ = some (.int .i64 (nd : Int))) := fun cs => (by have h := hG5.below ((Below.refl _ _).alloc (Nat.le_refl _) (.cells cs 68)); exact ⟨HE5.out.symm ▸ h.c9, h.c3⟩); have BN5 := hT5.blk BAM (fun h => by have := hGV.blt h; omega); have m0 := BN5.cell_ 0; have m1 := BN5.cell_ 1; simp at m0 m1; have f0 := BN5.free 0; have f1 := BN5.free 1; have TS : Tch (fun g => g = wr.heap.size) w5 ((w5.setCell ⟨wr.heap.size, 0, none⟩ (.int .i64 (kb : Int))).setCell ⟨wr.heap.size, 1, none⟩ (.int .i64 (ub : Int))) := (Tch.setm w5 wr.heap.size 0 _).trans (Tch.setm _ wr.heap.size 1 _); have GS := hG5.far TS (fun g hu e => by have := hGV.lt g hu; have := HBM.size; omega); have BS := (BN5.set_ 0 (.int .i64 (kb : Int))).set_ 1 (.int .i64 (ub : Int)); simp at BS; have QNS : (((w5.setCell ⟨wr.heap.size, 0, none⟩ (.int .i64 (kb : Int))).setCell ⟨wr.heap.size, 1, none⟩ (.int .i64 (ub : Int))).cell? ⟨F1.fm, 9, none⟩ = some (.int .i64 S.epoch) ∧ ((w5.setCell ⟨wr.heap.size, 0, none⟩ (.int .i64 (kb : Int))).setCell ⟨wr.heap.size, 1, none⟩ (.int .i64 (ub : Int))).cell? ⟨F1.fm, 3, none⟩ = some (.int .i64 (nd : Int))) := ⟨HE5.out.symm ▸ GS.c9, GS.c3⟩))) | (go_at_call 79; go_loud (((with_reducible refine (write_c F1 a b d e fs L N nd S S4 kb ub _ rfl _ _ _ hGM hcm.out hrM.slr hgz).mono ?_); rintro e' w5 ⟨rfl, hG5, hT5⟩; have hNext : (w5.cell? ⟨F1.fm, 9, none⟩ = some (.int .i64 S.epoch) ∧ w5.cell? ⟨F1.fm, 3, none⟩ = some (.int .i64 (nd : Int))) := ⟨HE5.out.symm ▸ hG5.c9, hG5.c3⟩; have QN5 : ∀ cs, ((w5.alloc (.cells cs 68)).cell? ⟨F1.fm, 9, none⟩ = some (.int .i64 S.epoch) ∧ (w5.alloc (.cells cs 68)).cell? ⟨F1.fm, 3, none⟩ = some (.int .i64 (nd : Int))) := fun cs => (by have h := hG5.below ((Below.refl _ _).alloc (Nat.le_refl _) (.cells cs 68)); exact ⟨HE5.out.symm ▸ h.c9, h.c3⟩)))) | (go_at_call 79; go_loud (((with_reducible refine (write_c F1 a b d e fs L N nd S S4 kb ub _ rfl _ _ _ (hGM.below ((Below.refl _ _).alloc (Nat.le_refl _) _)) hcm.out (hrM.below ((Below.refl _ _).alloc (Nat.le_refl _) _)).slr hgz).mono ?_); rintro e' w5 ⟨rfl, hG5, hT5⟩; have hNext : (w5.cell? ⟨F1.fm, 9, none⟩ = some (.int .i64 S.epoch) ∧ w5.cell? ⟨F1.fm, 3, none⟩ = some (.int .i64 (nd : Int))) := ⟨HE5.out.symm ▸ hG5.c9, hG5.c3⟩; have QN5 : ∀ cs, ((w5.alloc (.cells cs 68)).cell? ⟨F1.fm, 9, none⟩ = some (.int .i64 S.epoch) ∧ (w5.alloc (.cells cs 68)).cell? ⟨F1.fm, 3, none⟩ = some (.int .i64 (nd : Int))) := fun cs => (by have h := hG5.below ((Below.refl _ _).alloc (Nat.le_refl _) (.cells cs 68)); exact ⟨HE5.out.symm ▸ h.c9, h.c3⟩); have BN5 := hT5.blk (Blk.new_ wM 68 #[.int .i64 0, .int .i64 0]) (fun h => by have := hGV.blt h; have := HBM.size; omega); have m0 := BN5.cell_ 0; have m1 := BN5.cell_ 1; simp at m0 m1; have f0 := BN5.free 0; have f1 := BN5.free 1; have TS : Tch (fun g => g = wM.heap.size) w5 ((w5.setCell ⟨wM.heap.size, 0, none⟩ (.int .i64 (kb : Int))).setCell ⟨wM.heap.size, 1, none⟩ (.int .i64 (ub : Int))) := (Tch.setm w5 wM.heap.size 0 _).trans (Tch.setm _ wM.heap.size 1 _); have GS := hG5.far TS (fun g hu e => by have := hGV.lt g hu; have := HBM.size; omega); have BS := (BN5.set_ 0 (.int .i64 (kb : Int))).set_ 1 (.int .i64 (ub : Int)); simp at BS; have QNS : (((w5.setCell ⟨wM.heap.size, 0, none⟩ (.int .i64 (kb : Int))).setCell ⟨wM.heap.size, 1, none⟩ (.int .i64 (ub : Int))).cell? ⟨F1.fm, 9, none⟩ = some (.int .i64 S.epoch) ∧ ((w5.setCell ⟨wM.heap.size, 0, none⟩ (.int .i64 (kb : Int))).setCell ⟨wM.heap.size, 1, none⟩ (.int .i64 (ub : Int))).cell? ⟨F1.fm, 3, none⟩ = some (.int .i64 (nd : Int))) := ⟨HE5.out.symm ▸ GS.c9, GS.c3⟩))))
            go_wp2_with fail
            refine hK.out _ _ ?_ (fun hNew => ?_)
            · (first | with_reducible exact QNS | with_reducible exact QNM _ | with_reducible exact QN5 _ | exact QN5 _ | with_reducible exact QD | with_reducible exact QA | with_reducible exact hNext | assumption)
            clear hK K hHeld
            have hHeld := hNew
            clear hNew
            try simp only [Act.put, pz1, pz2, pz3]
            refine tk 13 ?_; try simp only [Act.put, pz1, pz2, pz3]
            refine tk 14 ?_; try simp only [Act.put, pz1, pz2, pz3]
            refine tk 15 ?_; try simp only [Act.put, pz1, pz2, pz3]
            refine wpAnyH_ready (rs := [17]) (by kernel_rfl) (by simp) ?_
            refine AllReadyH.cons (o := ⟨none, .store 68 (.tmp 9) (.tmp 65), 0, "write.go:41", #[⟨16, .data⟩, ⟨14, .data⟩, ⟨12, .chain⟩, ⟨0, .phase⟩, ⟨1, .phase⟩, ⟨2, .phase⟩, ⟨3, .phase⟩, ⟨4, .phase⟩, ⟨5, .phase⟩, ⟨6, .phase⟩, ⟨7, .phase⟩, ⟨8, .phase⟩, ⟨9, .phase⟩, ⟨10, .phase⟩, ⟨11, .phase⟩, ⟨12, .phase⟩, ⟨13, .phase⟩, ⟨14, .phase⟩, { on := 15, ground := Ground.textOnly Departure.lateStores }, ⟨16, .phase⟩], none⟩) rfl (fun K hK => ?_) AllReadyH.nil
            go_simp
            skip
            refine hK.out _ _ ?_ (fun hNew => ?_)
            · (first | with_reducible exact QNS | with_reducible exact QNM _ | with_reducible exact QN5 _ | exact QN5 _ | with_reducible exact QD | with_reducible exact QA | with_reducible exact hNext | assumption)
            clear hK K hHeld
            have hHeld := hNew
            clear hNew
            try simp only [Act.put, pz1, pz2, pz3]
            refine tk 18 ?_; try simp only [Act.put, pz1, pz2, pz3]
            refine wpAnyH_done (by kernel_rfl) ?_ _
            refine NoPanic.normal ?_
            go_wp2_with fail
            go_meet
            first
              | exact ⟨_, rfl, rfl, hG5.below ((Below.refl w5.heap.size w5).alloc (Nat.le_refl _) _), (((tch_bel HBM).trans hT5).trans (tch_bel ((Below.refl w5.heap.size w5).alloc (Nat.le_refl _) _))), Blk.new_ _ _ _⟩
              | exact ⟨_, rfl, rfl, GS, tend HBM (Below.refl _ _) hT5 TS (by omega), BS⟩
              | exact ⟨_, rfl, rfl, GS, tend HBM ((Below.refl _ _).alloc (Nat.le_refl _) _) hT5 TS (by have := HBM.size; omega), BS⟩
        · go_simp
          skip
          refine hK.out _ _ ?_ (fun hNew => ?_)
          · (first | with_reducible exact QNS | with_reducible exact QNM _ | with_reducible exact QN5 _ | exact QN5 _ | with_reducible exact QD | with_reducible exact QA | with_reducible exact hNext | assumption)
          clear hK K hHeld
          have hHeld := hNew
          clear hNew
          try simp only [Act.put, pz1, pz2, pz3]
          refine wpAnyH_ready (rs := [11]) (by kernel_rfl) (by simp) ?_
          refine AllReadyH.cons (o := ⟨some 63, .makeSlice 37 (.tmp 62) (.tmp 62), 37, "write.go:41", #[⟨10, .data⟩, ⟨10, .data⟩], none⟩) rfl (fun K hK => ?_) AllReadyH.nil
          obtain ⟨ti0, hi, hz0, hz1, hz2⟩ := info_parts infoByte
          refine wp_make _ (.tmp 62) (.tmp 62) 37 rfl _ 5 ti0 (.int .u8 0) 1 Tryz.underlying37 hi hz0 hz1 .i64 .i64 nd nd nd rfl rfl rfl rfl (by rw [hz2]; omega) (by unfold maxLen; omega) (Nat.le_refl _) ?_
          intro wM hoM hgM
          clear hi hz0 hz1 hz2
          have hbM := (Below.refl _ _).grown hgM (Nat.le_refl _) (fun j hj => by cases hj)
          have hrM := row_zero (RowT.own hoM)
          clear hoM hgM
          first
            | (have HBM : Below wr.heap.size wr wM := btr bD bD.size hbM; change RowT wM wr.heap.size _ _ at hrM; have hgz := gzn hGV (Nat.le_refl wr.heap.size))
            | (have HBM : Below wr.heap.size wr wM := btr bA bA.size hbM; have BAM := BA.below hbM BA.lt; rw [e9] at hrM; have hgz := gzn hGV (Nat.le_succ wr.heap.size))
          have hGM := hGV.below HBM
          have hNext : (wM.cell? ⟨F1.fm, 9, none⟩ = some (.int .i64 S.epoch) ∧ wM.cell? ⟨F1.fm, 3, none⟩ = some (.int .i64 (nd : Int))) := ⟨hGM.c9, hGM.c3⟩
          have QNM : ∀ cs, ((wM.alloc (.cells cs 68)).cell? ⟨F1.fm, 9, none⟩ = some (.int .i64 S.epoch) ∧ (wM.alloc (.cells cs 68)).cell? ⟨F1.fm, 3, none⟩ = some (.int .i64 (nd : Int))) := fun cs => (by have h := hGM.below ((Below.refl _ _).alloc (Nat.le_refl _) (.cells cs 68)); exact ⟨h.c9, h.c3⟩)
          refine hK.out _ _ ?_ (fun hNew => ?_)
          · (first | with_reducible exact QNS | with_reducible exact QNM _ | with_reducible exact QN5 _ | exact QN5 _ | with_reducible exact QD | with_reducible exact QA | with_reducible exact hNext | assumption)
          clear hK K hHeld
          have hHeld := hNew
          clear hNew
          try simp only [Act.put, pz1, pz2, pz3]
          refine wpAnyH_ready (rs := [12]) (by kernel_rfl) (by simp) ?_
          refine AllReadyH.cons (o := ⟨some 64, .call { callee := .value (.func 79), args := #[.tmp 52, .tmp 57, .tmp 63], argTypes := #[28, 109, 37] }, 106, "write.go:41", #[⟨0, .data⟩, ⟨5, .data⟩, ⟨11, .data⟩], none⟩) rfl (fun K hK => ?_) AllReadyH.nil
          go_simp
          (first | (go_at_call 79; go_loud (((with_reducible refine (write_c F1 a b d e fs L N nd S S4 kb ub _ rfl _ _ _ hGM hcm.out hrM.slr hgz).mono ?_); rintro e' w5 ⟨rfl, hG5, hT5⟩; have hNext : (w5.cell? ⟨F1.fm, 9, none⟩ = some (.int .i64 S.epoch) ∧ w5.cell? ⟨F1.fm, 3, none⟩ = some (.int .i64 (nd : Int))) := ⟨HE5.out.symm ▸ hG5.c9, hG5.c3⟩; have QN5 : ∀ cs, ((w5.alloc (.cells cs 68)).cell? ⟨F1.fm, 9, none⟩ = some (.int .i64 S.epoch) ∧ (w5.alloc (.cells cs 68)).cell? ⟨F1.fm, 3, none⟩ = some (.int .i64 (nd : Int))) := fun cs => (by have h := hG5.below ((Below.refl _ _).alloc (Nat.le_refl _) (.cells cs 68)); exact ⟨HE5.out.symm ▸ h.c9, h.c3⟩); have BN5 := hT5.blk BAM (fun h => by have := hGV.blt h; omega); have m0 := BN5.cell_ 0; have m1 := BN5.cell_ 1; simp at m0 m1; have f0 := BN5.free 0; have f1 := BN5.free 1; have TS : Tch (fun g => g = wr.heap.size) w5 ((w5.setCell ⟨wr.heap.size, 0, none⟩ (.int .i64 (kb : Int))).setCell ⟨wr.heap.size, 1, none⟩ (.int .i64 (ub : Int))) := (Tch.setm w5 wr.heap.size 0 _).trans (Tch.setm _ wr.heap.size 1 _); have GS := hG5.far TS (fun g hu e => by have := hGV.lt g hu; have := HBM.size; omega); have BS := (BN5.set_ 0 (.int .i64 (kb : Int))).set_ 1 (.int .i64 (ub : Int)); simp at BS; have QNS : (((w5.setCell ⟨wr.heap.size, 0, none⟩ (.int .i64 (kb : Int))).setCell ⟨wr.heap.size, 1, none⟩ (.int .i64 (ub : Int))).cell? ⟨F1.fm, 9, none⟩ = some (.int .i64 S.epoch) ∧ ((w5.setCell ⟨wr.heap.size, 0, none⟩ (.int .i64 (kb : Int))).setCell ⟨wr.heap.size, 1, none⟩ (.int .i64 (ub : Int))).cell? ⟨F1.fm, 3, none⟩ = some (.int .i64 (nd : Int))) := ⟨HE5.out.symm ▸ GS.c9, GS.c3⟩))) | (go_at_call 79; go_loud (((with_reducible refine (write_c F1 a b d e fs L N nd S S4 kb ub _ rfl _ _ _ hGM hcm.out hrM.slr hgz).mono ?_); rintro e' w5 ⟨rfl, hG5, hT5⟩; have hNext : (w5.cell? ⟨F1.fm, 9, none⟩ = some (.int .i64 S.epoch) ∧ w5.cell? ⟨F1.fm, 3, none⟩ = some (.int .i64 (nd : Int))) := ⟨HE5.out.symm ▸ hG5.c9, hG5.c3⟩; have QN5 : ∀ cs, ((w5.alloc (.cells cs 68)).cell? ⟨F1.fm, 9, none⟩ = some (.int .i64 S.epoch) ∧ (w5.alloc (.cells cs 68)).cell? ⟨F1.fm, 3, none⟩ = some (.int .i64 (nd : Int))) := fun cs => (by have h := hG5.below ((Below.refl _ _).alloc (Nat.le_refl _) (.cells cs 68)); exact ⟨HE5.out.symm ▸ h.c9, h.c3⟩)))) | (go_at_call 79; go_loud (((with_reducible refine (write_c F1 a b d e fs L N nd S S4 kb ub _ rfl _ _ _ (hGM.below ((Below.refl _ _).alloc (Nat.le_refl _) _)) hcm.out (hrM.below ((Below.refl _ _).alloc (Nat.le_refl _) _)).slr hgz).mono ?_); rintro e' w5 ⟨rfl, hG5, hT5⟩; have hNext : (w5.cell? ⟨F1.fm, 9, none⟩ = some (.int .i64 S.epoch) ∧ w5.cell? ⟨F1.fm, 3, none⟩ = some (.int .i64 (nd : Int))) := ⟨HE5.out.symm ▸ hG5.c9, hG5.c3⟩; have QN5 : ∀ cs, ((w5.alloc (.cells cs 68)).cell? ⟨F1.fm, 9, none⟩ = some (.int .i64 S.epoch) ∧ (w5.alloc (.cells cs 68)).cell? ⟨F1.fm, 3, none⟩ = some (.int .i64 (nd : Int))) := fun cs => (by have h := hG5.below ((Below.refl _ _).alloc (Nat.le_refl _) (.cells cs 68)); exact ⟨HE5.out.symm ▸ h.c9, h.c3⟩); have BN5 := hT5.blk (Blk.new_ wM 68 #[.int .i64 0, .int .i64 0]) (fun h => by have := hGV.blt h; have := HBM.size; omega); have m0 := BN5.cell_ 0; have m1 := BN5.cell_ 1; simp at m0 m1; have f0 := BN5.free 0; have f1 := BN5.free 1; have TS : Tch (fun g => g = wM.heap.size) w5 ((w5.setCell ⟨wM.heap.size, 0, none⟩ (.int .i64 (kb : Int))).setCell ⟨wM.heap.size, 1, none⟩ (.int .i64 (ub : Int))) := (Tch.setm w5 wM.heap.size 0 _).trans (Tch.setm _ wM.heap.size 1 _); have GS := hG5.far TS (fun g hu e => by have := hGV.lt g hu; have := HBM.size; omega); have BS := (BN5.set_ 0 (.int .i64 (kb : Int))).set_ 1 (.int .i64 (ub : Int)); simp at BS; have QNS : (((w5.setCell ⟨wM.heap.size, 0, none⟩ (.int .i64 (kb : Int))).setCell ⟨wM.heap.size, 1, none⟩ (.int .i64 (ub : Int))).cell? ⟨F1.fm, 9, none⟩ = some (.int .i64 S.epoch) ∧ ((w5.setCell ⟨wM.heap.size, 0, none⟩ (.int .i64 (kb : Int))).setCell ⟨wM.heap.size, 1, none⟩ (.int .i64 (ub : Int))).cell? ⟨F1.fm, 3, none⟩ = some (.int .i64 (nd : Int))) := ⟨HE5.out.symm ▸ GS.c9, GS.c3⟩))))
          go_wp2_with fail
          refine hK.out _ _ ?_ (fun hNew => ?_)
          · (first | with_reducible exact QNS | with_reducible exact QNM _ | with_reducible exact QN5 _ | exact QN5 _ | with_reducible exact QD | with_reducible exact QA | with_reducible exact hNext | assumption)
          clear hK K hHeld
          have hHeld := hNew
          clear hNew
          try simp only [Act.put, pz1, pz2, pz3]
          refine tk 13 ?_; try simp only [Act.put, pz1, pz2, pz3]
          refine tk 14 ?_; try simp only [Act.put, pz1, pz2, pz3]
          refine tk 15 ?_; try simp only [Act.put, pz1, pz2, pz3]
          refine wpAnyH_ready (rs := [17]) (by kernel_rfl) (by simp) ?_
          refine AllReadyH.cons (o := ⟨none, .store 68 (.tmp 9) (.tmp 65), 0, "write.go:41", #[⟨16, .data⟩, ⟨14, .data⟩, ⟨12, .chain⟩, ⟨0, .phase⟩, ⟨1, .phase⟩, ⟨2, .phase⟩, ⟨3, .phase⟩, ⟨4, .phase⟩, ⟨5, .phase⟩, ⟨6, .phase⟩, ⟨7, .phase⟩, ⟨8, .phase⟩, ⟨9, .phase⟩, ⟨10, .phase⟩, ⟨11, .phase⟩, ⟨12, .phase⟩, ⟨13, .phase⟩, ⟨14, .phase⟩, { on := 15, ground := Ground.textOnly Departure.lateStores }, ⟨16, .phase⟩], none⟩) rfl (fun K hK => ?_) AllReadyH.nil
          go_simp
          skip
          refine hK.out _ _ ?_ (fun hNew => ?_)
          · (first | with_reducible exact QNS | with_reducible exact QNM _ | with_reducible exact QN5 _ | exact QN5 _ | with_reducible exact QD | with_reducible exact QA | with_reducible exact hNext | assumption)
          clear hK K hHeld
          have hHeld := hNew
          clear hNew
          try simp only [Act.put, pz1, pz2, pz3]
          refine tk 18 ?_; try simp only [Act.put, pz1, pz2, pz3]
          refine wpAnyH_done (by kernel_rfl) ?_ _
          refine NoPanic.normal ?_
          go_wp2_with fail
          go_meet
          first
            | exact ⟨_, rfl, rfl, hG5.below ((Below.refl w5.heap.size w5).alloc (Nat.le_refl _) _), (((tch_bel HBM).trans hT5).trans (tch_bel ((Below.refl w5.heap.size w5).alloc (Nat.le_refl _) _))), Blk.new_ _ _ _⟩
            | exact ⟨_, rfl, rfl, GS, tend HBM (Below.refl _ _) hT5 TS (by omega), BS⟩
            | exact ⟨_, rfl, rfl, GS, tend HBM ((Below.refl _ _).alloc (Nat.le_refl _) _) hT5 TS (by have := HBM.size; omega), BS⟩
      case rest =>
        obtain ⟨g9, rfl, rfl, hG6, hT6, BX⟩ := hcut
        have TT6 := HT.trans hT6
        have hSl6 : Sl wc wc.heap.size A (ps.map fun (p : Nat) => Value.int .i64 (p : Int)) := (slT hSl3 TT6 (Nat.le_refl _) (fun h => hd2 (fun e => h (by rw [e]; rfl)))).mono TT6.size
        have hd6 : ps ≠ [] → ∀ h o, A = some ⟨h, o, none⟩ → ¬ FlB F1 h := hd2
        obtain ⟨o0, o1⟩ : _ ∧ _ := ⟨BX.cell_ 0, BX.cell_ 1⟩
        simp at o0 o1
        clear QD QA bD bA0 bA BA hGD hGA
        go_wp2_with (first | (go_at_call 80; go_loud (((with_reducible refine (settle_f F1 a b (nd : Int) d e fs L N S4 ps n HN.out A cA (kb : Int) (ub : Int) _ hG6 hSl6 hd6 HPS.out hnn1).mono ?_); rintro e' w7 ⟨⟨v7, rfl⟩, ⟨F2, hG7, HNX2⟩, hT7⟩; have hG7 : FlW w7 F2 a b (nd : Int) d e fs L N (stlEnd a b L S4 ps kb ub) := hG7; have hfm2 := HNX2.fm; rw [← hfm2]; clear hfm2))) | (go_at_call 81; go_loud (((with_reducible refine (rescue_no F2 a b (nd : Int) d e fs L N (stlEnd a b L S4 ps kb ub) _ hG7 HNS.out).mono ?_); rintro e' w8 ⟨rfl, b8⟩; have hG8 := hG7.below b8))) | (go_at_call 64; go_loud (((with_reducible refine (even_no F2 a b (nd : Int) d e fs L N (stlEnd a b L S4 ps kb ub) nb _ hG8 HBN.out hnb HSP.out).mono ?_); rintro e' w9 ⟨rfl, b9⟩; have hG9 := hG8.below b9))))
        go_ret
        have T9 := HNX2.tch hT7 ((tch_bel (S := FlB F2) b8).trans (tch_bel b9))
        have HXX := HNX.trans HNX2 (w' := wc) (by have := TT3.size; have := TT6.size; omega)
        have HTT := HNX.tch TT3 (TT6.trans T9)
        first
          | exact ⟨rfl, ⟨F2, hG9, HXX⟩, HTT⟩
          | exact ⟨⟨F2, hG9, HXX⟩, HTT⟩
end Go.Proofs.YtkpcohfdcilfcaaGreat
namespace Go.Proofs.YtkpcohfdcilfcaaGreat
open Go.ChangeShapes Go.WideShapes Go.ChangeAt Go.RowKit
attribute [local go_sem ↓] Go.wp_at_zero Go.wp_at_succ
theorem own_ints {w : World} {base : Nat} {v : Value} {l : List Int} {ps : List Nat} (h : w.ownsRow base 3 1 v l.length (l.map (Value.int .i64))) (hl : l = ps.map fun (p : Nat) => (p : Int)) : ∃ (A : Option Addr) (cA : Nat), v = .slice A ps.length cA ∧ Sl w w.heap.size A (ps.map fun (p : Nat) => Value.int .i64 (p : Int)) ∧ ∀ g o, A = some ⟨g, o, none⟩ → base ≤ g := by
  obtain ⟨A, c, hv, hs, -, -⟩ := own_sl h
  subst hl
  rw [List.length_map] at hv
  rw [List.map_map] at hs
  refine ⟨A, c, hv, hs, fun g o hA => ?_⟩
  subst hA
  rcases h with ⟨-, ⟨h1, -⟩ | ⟨g', cap, cur, h1, h2, -⟩⟩
  · rw [hv] at h1
    injection h1 with q1
    cases q1
  · rw [hv] at h1
    injection h1 with q1
    injection q1 with q1
    injection q1 with q1
    omega
theorem flush_ok (F : FlK) (a b d e : Int) (fs : List Flt) (L N nd : Nat) (s S3 S4 : FlS) (eq : Nat) (ps : List Nat) (kb ub : Nat) (nb : Int) (w : World) (hF : FlW w F a b (nd : Int) d e fs L N s) (hon : s.ch.on = true) (hc : s.ch.cuts = s.cuts) (hd : s.degr = false) (hl : chgL s L = ps.map fun (p : Nat) => (p : Int)) (hne : 0 < ps.length) (hn1 : ps.length ≤ 100000) (hps : ∀ p ∈ ps, p < L ∧ hasB S4.fA (p : Int) = true) (heq : s.epoch = (eq : Int)) (heq2 : eq ≤ 1000000000) (hrb : resB a d fs s.ch 0 = true)
    (hch : WChain a b nd d fs { s with epoch := (eq : Int) + 1, fA := List.replicate L (-1) } ps S3) (hcm : CmOk a b nd d fs S3 kb ub S4) (hns : NoStrand a b fs (stlEnd a b L S4 ps kb ub)) (hbn : S4.ch.Bnd nb) (hnb : nb ≤ 900000000) (hsp : sprI a fs S4.ch ≤ e + 2 * a + S4.ch.cuts) :
    Calls Tryz.prog 20 #[.pointer (some ⟨F.fm, 0, none⟩)] w fun e' w' => e' = .returned (.int .i64 0) ∧ (∃ F', FlW w' F' a b (nd : Int) d e fs L N (stlEnd a b L S4 ps kb ub) ∧ FlNx w F F') ∧ Tch (FlB F) w w' := by
  have HL := Lib.hid hl
  have HCH := Lib.hid hch
  have HCM := Lib.hid hcm
  have HNS := Lib.hid hns
  have hne2 : decide ((ps.length : Int) = 0) = false := decide_eq_false (by omega)
  clear hl hch hcm hns
  go_enter Tryz.func20, Tryz.ntmps20
  go_wp2_with (first | (go_at_call 46; go_loud (((with_reducible refine (off_no F a b (nd : Int) d e fs L N s _ hF hon hc).mono ?_); rintro e' w1 ⟨rfl, b1⟩; have hG := hF.below b1; have k7 := hG.c7; rw [hd] at k7))) | (go_at_call 49; go_loud (((with_reducible refine (changed_f F a b (nd : Int) d e fs L N s _ hG _ rfl).mono ?_); rintro e' w2 ⟨⟨v2, rfl, ho2⟩, b2⟩; (obtain ⟨A, cA, hv, hSl, hAB⟩ := own_ints ho2 HL.out); subst hv; have hG2 := hG.below b2; have B2 := btr b1 b1.size b2))) | (go_at_call 50; go_loud (((with_reducible refine (flush_f F a b d e fs L N nd s S3 S4 eq ps _ rfl A cA kb ub nb _ hG2 hSl (fun _ h o e hb => by have q1 := hAB h o e; have q2 := hF.blt hb; have q3 := b1.size; omega) hn1 hps heq heq2 hrb HCH.out HCM.out HNS.out hbn hnb hsp).mono ?_); rintro e' w3 ⟨rfl, ⟨F2, hG3, hNX⟩, hT3⟩; skip))))
  go_ret
  have hNX : FlNx w F F2 := (FlNx.refl w F).trans hNX (w' := w2) B2.size
  have hTT : Tch (FlB F) w w3 := (tch_bel B2).trans hT3
  first
    | exact ⟨rfl, ⟨F2, hG3, hNX⟩, hTT⟩
    | exact ⟨⟨F2, hG3, hNX⟩, hTT⟩
end Go.Proofs.YtkpcohfdcilfcaaGreat
namespace Go.Proofs.YtkpcohfdcilfcaaGreat
open Go.ChangeShapes Go.WideShapes Go.ChangeAt Go.RowKit
def kA0 : List Int := List.replicate 24 0
def kA1 : List Int := (kA0.set 0 1).set 2 1
def kA2 : List Int := (kA1.set 0 2).set 2 2
def dN (n k : Nat) : List Nat := (List.range k).map fun i => (n + i) % 256
theorem dN_8 (n k : Nat) : Bytes8 (dN n k) := fun x hx => by
  obtain ⟨i, -, rfl⟩ := List.mem_map.1 hx
  exact Nat.mod_lt _ (by omega)
theorem dN_len (n k : Nat) : (dN n k).length = k := by simp [dN]
def rw1 : List Nat := rawB (dN 9 32) 1 2 1 1
def rw2 : List Nat := rawB (List.replicate 32 0) 3 0 2 1
theorem k0_open {s : ChS} (h : s.K = kA0) : OpenOk 8 4 0 [] s 0 := by
  obtain ⟨X, K, ops, cuts, on, armed, turn, cop, cby, fill⟩ := s
  obtain rfl : K = kA0 := h
  exact Or.inr ⟨by kernel_rfl, by kernel_rfl, by kernel_rfl⟩
theorem k0_res {s : ChS} (h : s.K = kA0) : resB 8 0 [] s 0 = true := by
  obtain ⟨X, K, ops, cuts, on, armed, turn, cop, cby, fill⟩ := s
  obtain rfl : K = kA0 := h
  kernel_rfl
theorem k0_ask {s : ChS} (h : s.K = kA0) : s.ask 8 (0 : Nat) 0 = (0 : Nat) := by
  obtain ⟨X, K, ops, cuts, on, armed, turn, cop, cby, fill⟩ := s
  obtain rfl : K = kA0 := h
  kernel_rfl
theorem k1_ask {s : ChS} (h : s.K = kA1) : s.ask 8 (0 : Nat) 0 = (1 : Nat) := by
  obtain ⟨X, K, ops, cuts, on, armed, turn, cop, cby, fill⟩ := s
  obtain rfl : K = kA1 := h
  kernel_rfl
theorem k1_open {s : ChS} (h : s.K = kA1) : OpenOk 8 4 0 [] s 0 := by
  obtain ⟨X, K, ops, cuts, on, armed, turn, cop, cby, fill⟩ := s
  obtain rfl : K = kA1 := h
  exact Or.inl (by kernel_rfl)
theorem k0_spr {s : ChS} (h : s.K = kA0) : sprI 8 [] s = 0 := by
  obtain ⟨X, K, ops, cuts, on, armed, turn, cop, cby, fill⟩ := s
  obtain rfl : K = kA0 := h
  kernel_rfl
theorem k2_spr {s : ChS} (h : s.K = kA2) : sprI 8 [] s = 0 := by
  obtain ⟨X, K, ops, cuts, on, armed, turn, cop, cby, fill⟩ := s
  obtain rfl : K = kA2 := h
  kernel_rfl
theorem k_over {s : ChS} (f : FlS) (hd : f.degr = false) (h : f.ch = s) (hK : s.K = kA0 ∨ s.K = kA1 ∨ s.K = kA2) : f.over 8 0 [] = false := by
  unfold FlS.over
  rw [hd, h]
  obtain ⟨X, K, ops, cuts, on, armed, turn, cop, cby, fill⟩ := s
  rcases hK with hK | hK | hK
  · obtain rfl : K = kA0 := hK
    kernel_rfl
  · obtain rfl : K = kA1 := hK
    kernel_rfl
  · obtain rfl : K = kA2 := hK
    kernel_rfl
theorem good_nil (a : Int) (s : ChS) (B : Int) : goodB a [] s B = true := by
  unfold goodB
  rw [failed_none]
  rfl
theorem layD : LayOk (dN 9 32) 1 2 1 1 := ⟨by decide, by decide, by omega, by omega, by omega, by omega, by omega, by omega, dN_8 9 32⟩
theorem layZ : LayOk (List.replicate 32 0) 3 0 2 1 := ⟨by simp, by simp, by omega, by omega, by omega, by omega, by omega, by omega, fun x hx => by have := List.eq_of_mem_replicate hx; omega⟩
theorem rw1_len : rw1.length = 48 := by unfold rw1; rw [rawB_len]; rfl
theorem rw2_len : rw2.length = 48 := by unfold rw2; rw [rawB_len, List.length_replicate]
theorem rw1_8 : Bytes8 rw1 := rawB_8 layD.2.2.2.2.2.2.2.2 (by omega)
theorem rw2_8 : Bytes8 rw2 := rawB_8 layZ.2.2.2.2.2.2.2.2 (by omega)
theorem rw1_st : readSt rw1 = 1 := raw_valid layD
theorem rw2_st : readSt rw2 = 1 := raw_valid layZ
theorem rw1_lk : Lk rw1 (dN 9 32) 32 1 2 1 1 1 := by
  have h := raw_drop (dN 9 32) 1 2 1 1
  rw [show (dN 9 32).length = 32 from by decide] at h
  refine ⟨?_, by decide, ?_, rw1_st⟩
  · unfold lkD
    rw [if_pos rw1_st, rw1_len]
    unfold rw1
    rw [raw_tail]
    exact List.take_left' (by decide)
  · unfold lkT
    rw [if_pos rw1_st, rw1_len, show 48 - 16 = 32 from rfl]
    unfold rw1
    rw [h, tail_tK, tail_tP (by omega), tail_tS (by omega), tail_tE (by omega)]
theorem rw2_tag : lkT rw2 = (3, 0, 2, 1) := by
  have h := raw_drop (List.replicate 32 0) 3 0 2 1
  rw [List.length_replicate] at h
  unfold lkT
  rw [if_pos rw2_st, rw2_len, show 48 - 16 = 32 from rfl]
  unfold rw2
  rw [h, tail_tK, tail_tP (by omega), tail_tS (by omega), tail_tE (by omega)]
end Go.Proofs.YtkpcohfdcilfcaaGreat
namespace Go.Proofs.YtkpcohfdcilfcaaGreat
open Go.ChangeShapes Go.WideShapes Go.ChangeAt Go.RowKit
attribute [local go_sem ↓] Go.wp_at_zero Go.wp_at_succ
theorem fds_row2 {w : World} {F : FlK} {base : Nat} {A : Option Addr} {n c : Nat} {L : List Fd} (h : RowFd w base (.slice A n c) L) (hb : ∀ g, FlU F g → g < base ∨ w.heap.size ≤ g) : FdsAt w F A L := by
  obtain ⟨A', c', hv, hs, -, -⟩ := h.sl
  cases hv
  by_cases hn : L = []
  · exact Or.inl hn
  · obtain ⟨b, off, hA, hl, hq⟩ := hs.at_ (List.length_pos_iff.2 hn)
    subst hA
    have hlt := World.ownsRow.lt h b rfl
    exact Or.inr ⟨b, off, rfl, hl, fun hu => by have := hb _ hu; omega, hq⟩
def learnF (L : Nat) (a b : Int) (fds L1 L2 : List Fd) (s : FlS) : FlS := comF (lastZ fds) ((staleZ fds).foldl (staStep L) (L2.foldl (datStep L) (L1.foldl (putStep a b) { s with seq := seqF fds s.seq, epoch := epoF fds s.epoch }))) fds
theorem mountn_nil (w : World) : Calls Tryz.prog 23 #[.pointer none] w fun e' w' => e' = .returned (.tuple #[.pointer none, .int .i64 1]) ∧ w = w' := by
  go_enter Tryz.func23, Tryz.ntmps23
  go_wp2_with fail
  go_ret2
  exact ⟨rfl, rfl⟩
theorem mount_off (m gx gb : Nat) (Af : Option Addr) (nf cf : Nat) (a b c d e : Int) (fs : List Flt) (s : ChS) (w : World) (hC : ChipW w m gx gb Af nf cf a b c d e fs s) (hon : s.on = false) : Calls Tryz.prog 23 #[.pointer (some ⟨m, 0, none⟩)] w fun e' w' => e' = .returned (.tuple #[.pointer none, .int .i64 9]) ∧ w = w' := by
  go_enter Tryz.func23, Tryz.ntmps23
  go_wp2_with ((go_at_call 58; go_loud (((with_reducible refine (on_any m gx gb Af nf cf a b c d e fs _ s hC).mono ?_); rintro e' w1 ⟨rfl, rfl⟩; rw [hon]))))
  go_ret2
  exact ⟨rfl, rfl⟩
theorem apart9 {w w1 : World} {m gx gb : Nat} {Af : Option Addr} {nf cf : Nat} {a b c d e : Int} {fs : List Flt} {s S1 : ChS} (hC : ChipW w m gx gb Af nf cf a b c d e fs s) (hC1 : ChipW w1 m gx gb Af nf cf a b c d e fs S1) (hT : Tch (chB m gx gb) w w1) {F : FlK} (hAp : ∀ g, FlB F g → chB m gx gb g ∨ w1.heap.size ≤ g) (hD : ∀ g ∈ F.dat, fs ≠ [] ∧ ∃ off, Af = some ⟨g, off, none⟩) : ∀ g, FlU F g → g < w.heap.size ∨ w1.heap.size ≤ g := by
  intro g hg
  obtain ⟨l1, l2, l3⟩ := hC.lt
  rcases hg with hg | hg
  · rcases hAp g hg with h | h
    · rcases h with rfl | rfl | rfl
      · exact Or.inl l1
      · exact Or.inl l2
      · exact Or.inl l3
    · exact Or.inr h
  · obtain ⟨h1, off, h2⟩ := hD g hg
    rcases hC.flt with h | ⟨g', off', hA, hl, -⟩
    · exact absurd h h1
    · rw [h2] at hA
      cases hA
      exact Or.inl hl
theorem FlW.to {w : World} {F : FlK} {a b c d e : Int} {fs : List Flt} {L N : Nat} {s s' : FlS} (hF : FlW w F a b c d e fs L N s) (h : s = s') : FlW w F a b c d e fs L N s' := h ▸ hF
theorem mount_ok (m gx gb : Nat) (Af : Option Addr) (nf cf : Nat) (a b c d e : Int) (fs : List Flt) (NA NB : Nat) (n0 : Int) (acc : List Vis) (s S1 : ChS) (L N : Nat) (SL : FlS) (n : Nat) (w : World) (hC : ChipW w m gx gb Af nf cf a b c d e fs s) (hg : Good s n0) (hn0 : n0 ≤ 800000000) (h8 : Bytes8 s.X) (hNA : (NA : Int) = a) (hNB : (NB : Int) = b) (hon : s.on = true) (hR : Hid (walkF a b c NB fs (NA * NB) 0 s [] = (0, acc, S1))) (HN : Hid ((fdsOf acc).length = n)) (hn1 : n ≤ 100000) (hL : logicalI a b d = (L : Int)) (hN : (N : Int) = a * b) (hok : ∀ x ∈ fdsOf acc, FdOk x)
    (hsl : ∀ L1 L2 : List Fd, IsAll (trimL (fdsOf acc)) L1 → IsAll (fdsOf acc) L2 → learnF L a b (fdsOf acc) L1 L2 (blankS S1 L) = SL) (hal : ∀ x ∈ fdsOf acc, needB a b SL x.b x.g = true → Alone a fs SL.ch (fdsOf acc) x) (hch : SL.ch = S1) (hover : SL.over a d fs = false) (hsp : sprI a fs SL.ch ≤ e + 2 * a + SL.ch.cuts) :
    Calls Tryz.prog 23 #[.pointer (some ⟨m, 0, none⟩)] w fun e' w' => (∃ F : FlK, e' = .returned (.tuple #[.pointer (some ⟨F.fm, 0, none⟩), .int .i64 0]) ∧ FlW w' F a b c d e fs L N { SL with degr := false } ∧ (F.m = m ∧ F.gx = gx ∧ F.gb = gb ∧ F.Af = Af ∧ F.nf = nf ∧ F.cf = cf) ∧ (∀ g, FlB F g → chB m gx gb g ∨ w.heap.size ≤ g) ∧ (∀ g ∈ F.dat, fs ≠ [] ∧ ∃ off, Af = some ⟨g, off, none⟩)) ∧ Tch (chB m gx gb) w w' ∧ Good S1 (n0 + 1000) := by
  have HSL : Hid (∀ L1 L2 : List Fd, IsAll (trimL (fdsOf acc)) L1 → IsAll (fdsOf acc) L2 → learnF L a b (fdsOf acc) L1 L2 (blankS S1 L) = SL) := Lib.hid hsl
  have HCH := Lib.hid hch
  have HON := Lib.hid hon
  clear hsl hch hon
  go_enter Tryz.func23, Tryz.ntmps23
  go_wp2_with (first | (go_at_call 58; go_loud (((with_reducible refine (on_any m gx gb Af nf cf a b c d e fs _ s hC).mono ?_); rintro e' w0 ⟨rfl, rfl⟩; rw [HON.out]))) | (go_at_call 59; go_loud (((with_reducible refine (scan_ok m gx gb Af nf cf a b c d e fs NA NB n0 acc s S1 _ hC hg hn0 h8 hNA hNB hR n HN).mono ?_); rintro e' w1 ⟨⟨A1, c1, rfl, hR1⟩, hC1, hT1, hg1, h81⟩; have z1 := hT1.size))) | (go_at_call 60; go_loud (((with_reducible refine (blank_any m gx gb Af nf cf a b c d e fs S1 L N _ hC1 hL hN).mono ?_); rintro e' w2 ⟨⟨F, rfl, hF2, hEq, hAp, hDat⟩, b2⟩; have hFds : FdsAt w2 F A1 (fdsOf acc) := (fds_row2 hR1 (apart9 hC hC1 hT1 hAp hDat)).tch (tch_bel b2); have z2 := b2.size))) | (go_at_call 61; go_loud (((with_reducible refine (learn_f F a b c d e fs L N _ (fdsOf acc) n HN.out A1 c1 _ hF2 hFds hn1 hok).mono ?_); rintro e' w3 ⟨⟨v3, rfl⟩, ⟨L1, L2, hI1, hI2, hF3⟩, hT3⟩; have hF3 := hF3.to (HSL.out L1 L2 hI1 hI2); have hFds3 := hFds.tch hT3))) | (go_at_call 62; go_loud (((with_reducible refine (prefer_same F a b c d e fs L N SL (fdsOf acc) n HN.out A1 c1 _ hF3 hFds3 hn1 hal).mono ?_); rintro e' w4 ⟨rfl, b4⟩; have hF4 := hF3.below b4))) | (go_at_call 63; go_loud (((with_reducible refine (overdue_any F a b c d e fs L N SL _ hF4 false hover).mono ?_); rintro e' w5 ⟨rfl, hF5, hT5⟩; skip))) | (go_at_call 64; go_loud (((with_reducible refine (even_no F a b c d e fs L N { SL with degr := false } (n0 + 1000) _ hF5 (by show ChS.Bnd _ _; rw [HCH.out]; exact hg1.fine.bnd) (by omega) hsp).mono ?_); rintro e' w6 ⟨rfl, b6⟩; have hF6 := hF5.below b6))))
  go_ret2
  refine ⟨⟨F, rfl, hF6, hEq, fun g h => (hAp g h).imp id (fun h => Nat.le_trans z1 h), hDat⟩, ?_, hg1⟩
  obtain ⟨e1, e2, e3, -⟩ := hEq
  have hAp' : ∀ g, g < w1.heap.size → FlB F g → chB m gx gb g := fun g hl h => (hAp g h).elim id (fun h2 => absurd h2 (by omega))
  exact hT1.trans (((((tch_bel b2).trans hT3).trans (tch_bel b4)).trans hT5).trans (tch_bel b6) |>.monoL hAp')
end Go.Proofs.YtkpcohfdcilfcaaGreat
namespace Go.Proofs.YtkpcohfdcilfcaaGreat
open Go.ChangeShapes Go.WideShapes Go.ChangeAt Go.RowKit
theorem prog_eq {s : ChS} (h : Liv s) {kb ub N : Nat} {bs : List Nat} (hl : bs.length = 48) (ht : thereB 8 4 (kb : Int) (ub : Int) = true) (hu : s.k (kb : Int) 0 = (ub : Int)) (hN : ((kb : Int) * 4 + (ub : Int)).toNat = N) : s.progZ 8 4 ((32 : Nat) : Int) [] (kb : Int) (ub : Int) (32 + 16) = 0 ∧ s.progS 8 4 ((32 : Nat) : Int) [] (kb : Int) (ub : Int) bs = s.prog kb N 48 bs := by
  have hw : s.wrong 8 [] kb ub = 0 := wrong_next hu
  unfold ChS.progZ ChS.progS
  rw [h.on, ht, hl, h.cut, hN]
  refine ⟨?_, ?_⟩
  · rw [if_pos rfl, if_pos (by decide), if_neg (by decide)]
    exact hw
  · rw [if_pos (by decide)]
    have hw2 : s.wrong 8 [] (kb : Int).toNat (ub : Int).toNat = 0 := hw
    rw [if_pos hw2, if_neg (by decide)]
    rfl
theorem prog_K0 {s : ChS} (hK : s.K = kA0) (N : Nat) (bs : List Nat) : (s.prog 0 N 48 bs).K = kA1 := by
  unfold ChS.prog ChS.inc ChS.k
  dsimp only
  rw [tick_K, hK]
  kernel_rfl
theorem prog_K1 {s : ChS} (hK : s.K = kA1) (N : Nat) (bs : List Nat) : (s.prog 0 N 48 bs).K = kA2 := by
  unfold ChS.prog ChS.inc ChS.k
  dsimp only
  rw [tick_K, hK]
  kernel_rfl
theorem prog_liv {s : ChS} (h : Liv s) (k N RW : Nat) {bs : List Nat} (hb : Bytes8 bs) : Liv (s.prog k N RW bs) := by
  have ht := h.tick
  exact ⟨ht.on, ht.ar, by
    show Bytes8 (putX s.X (N * RW) bs)
    exact putX_8 h.b8 hb⟩
theorem prog_cuts {s : ChS} (h : Liv s) (k N RW : Nat) (bs : List Nat) : (s.prog k N RW bs).cuts = s.cuts := by
  have := (prog_on (s := s) k N RW bs).2.2.2.2.1
  rw [this, tick_nc h.cut]
theorem prog_fine {s : ChS} {n : Int} (h : Fine s n) (k N RW : Nat) (bs : List Nat) : Fine (s.prog k N RW bs) (n + 3) := by
  refine ⟨prog_bnd h.bnd k N RW bs, ?_, ?_⟩
  · have h1 := h.cby
    unfold ChS.prog ChS.inc ChS.tick
    split <;> exact h1
  · have h1 := h.fill
    unfold ChS.prog ChS.inc ChS.tick
    split <;> exact h1
theorem walk0 (n : Int) : ∃ S1, walkF 8 4 32 4 [] (8 * 4) 0 ((ChS.new 1536 8).at_ n) [] = (0, visF 4 48 [] (List.replicate 1536 255) 32 0, S1) ∧ ∃ m, S1 = (ChS.new 1536 8).at_ m := by
  have hL : Liv ((ChS.new 1536 8).at_ n) := (Liv.new 1536 8).at_ n
  obtain ⟨S1, h1, h2, h3⟩ := walkF_liv (a := 8) (b := 4) (c := 32) (NA := 8) (NB := 4) (RW := 48) (fs := []) rfl rfl rfl (by omega) 32 0 ((ChS.new 1536 8).at_ n) [] (by omega) hL
  rw [List.nil_append] at h1
  refine ⟨S1, h1, ?_⟩
  obtain ⟨m, hm⟩ := walkF_at 32 0 _ [] hL _ _ _ h1
  exact ⟨m, by rw [hm]; rfl⟩
theorem vis0 : fdsOf (visF 4 48 [] (List.replicate 1536 255) 32 0) = [] :=
  (vis_blank 32 0 (fun t h1 h2 => by rw [pg_rep (by omega)]; exact st_blank (by omega) (by omega))).1
def xP : List Nat := putX (putX (List.replicate 1536 255) (0 * 48) rw1) (1 * 48) rw2
def fdl : List Fd := [⟨0, 0, 1, 2, 1, 1⟩, ⟨0, 1, 3, 0, 2, 1⟩]
theorem pg0 : pg xP 48 0 = rw1 := by
  unfold xP
  rw [pg_far (by rw [rw2_len]; rw [putX_len (by rw [rw1_len, List.length_replicate]; omega), List.length_replicate]; omega) (Or.inl (by omega)), pg_at (by rw [rw1_len, List.length_replicate]; omega) rw1_len]
theorem pg1 : pg xP 48 1 = rw2 := by
  unfold xP
  rw [pg_at (by rw [rw2_len, putX_len (by rw [rw1_len, List.length_replicate]; omega), List.length_replicate]; omega) rw2_len]
theorem pg2 {t : Nat} (h : 2 ≤ t) (h2 : t < 32) : pg xP 48 t = List.replicate 48 255 := by
  unfold xP
  rw [pg_far (by rw [rw2_len]; rw [putX_len (by rw [rw1_len, List.length_replicate]; omega), List.length_replicate]; omega) (Or.inr (by rw [rw2_len]; omega)), pg_far (by rw [rw1_len, List.length_replicate]; omega) (Or.inr (by rw [rw1_len]; omega)), pg_rep (by omega)]
theorem fd0 : fdOf (0, 0, rw1) = [⟨0, 0, 1, 2, 1, 1⟩] := by rw [fdOf_lk rw1_lk]; rfl
theorem fd1 : fdOf (0, 1, rw2) = [⟨0, 1, 3, 0, 2, 1⟩] := by
  unfold fdOf
  dsimp only
  rw [if_pos rw2_st, rw2_tag]
  rfl
theorem visP : fdsOf (visF 4 48 [] xP 32 0) = fdl := by
  rw [show (32 : Nat) = 2 + 30 from rfl, visF_add, fds_app, (vis_blank 30 (0 + 2) (fun t h1 h2 => by rw [pg2 (by omega) (by omega)]; exact st_blank (by omega) (by omega))).1, List.append_nil, visF_nil, visF_nil, fds_cons, fds_cons, pg0, pg1]
  rw [show (0 / 4, 0 % 4, rw1) = (0, 0, rw1) from rfl, show ((0 + 1) / 4, (0 + 1) % 4, rw2) = (0, 1, rw2) from rfl, fd0, fd1]
  rfl
theorem walkP {s : ChS} (h : Liv s) (hX : s.X = xP) : ∃ S1, walkF 8 4 32 4 [] (8 * 4) 0 s [] = (0, visF 4 48 [] xP 32 0, S1) ∧ ∃ m, S1 = s.at_ m := by
  obtain ⟨S1, h1, h2, h3⟩ := walkF_liv (a := 8) (b := 4) (c := 32) (NA := 8) (NB := 4) (RW := 48) (fs := []) rfl rfl rfl (by omega) 32 0 s [] (by omega) h
  rw [List.nil_append, hX] at h1
  exact ⟨S1, h1, walkF_at 32 0 _ [] h _ _ _ h1⟩
theorem fdl_ok : ∀ x ∈ fdl, FdOk x := by
  intro x hx
  unfold fdl at hx
  rcases List.mem_cons.1 hx with rfl | hx
  · unfold FdOk i64in; decide
  · rcases List.mem_cons.1 hx with rfl | hx
    · unfold FdOk i64in; decide
    · cases hx
theorem fdl_all {L : List Fd} (h : IsAll fdl L) : L = [⟨0, 0, 1, 2, 1, 1⟩] := by
  refine IsAll.unique h ⟨List.pairwise_singleton .., fun x => ⟨fun hx => ?_, fun hx => ?_⟩⟩
  · obtain rfl := List.mem_singleton.1 hx
    exact ⟨by kernel_rfl, rfl⟩
  · obtain ⟨h1, -⟩ := newestZ_some hx.1
    unfold fdl at h1
    rcases List.mem_cons.1 h1 with rfl | h1
    · exact List.mem_singleton.2 rfl
    · rcases List.mem_cons.1 h1 with rfl | h1
      · exact absurd hx.2 (by decide)
      · cases h1
def slP (s : ChS) : FlS := ⟨s, s.cuts, false, 2, 1, (List.replicate 8 (-1)).set 2 0, List.replicate 8 (-1), List.replicate 8 false, 0, 1, true, List.replicate 8 ⟨0, []⟩, List.replicate 8 false⟩
theorem learnP (s : ChS) (L1 L2 : List Fd) (h1 : IsAll (trimL fdl) L1) (h2 : IsAll fdl L2) : learnF 8 8 4 fdl L1 L2 (blankS s 8) = slP s := by
  have h1 : IsAll fdl L1 := h1
  obtain rfl := fdl_all h1
  obtain rfl := fdl_all h2
  have hq : learnF 8 8 4 fdl [⟨0, 0, 1, 2, 1, 1⟩] [⟨0, 0, 1, 2, 1, 1⟩] (blankS s 8) = slP s := by kernel_rfl
  exact hq
theorem learn0 (s : ChS) (L1 L2 : List Fd) (h1 : IsAll (trimL []) L1) (h2 : IsAll [] L2) : learnF 8 8 4 [] L1 L2 (blankS s 8) = blankS s 8 := by
  have hn : IsAll [] [] := ⟨List.Pairwise.nil, fun x => ⟨fun h => (by cases h), fun h => (by cases h.1)⟩⟩
  have h1 : IsAll [] L1 := h1
  rw [IsAll.unique h1 hn, IsAll.unique h2 hn]
  rfl
theorem aloneP (s : ChS) : ∀ x ∈ fdl, Alone 8 [] s fdl x := by
  intro x hx y hy
  unfold fdl at hx hy
  rcases List.mem_cons.1 hx with rfl | hx <;> rcases List.mem_cons.1 hy with rfl | hy
  · exact Or.inr (Or.inr ⟨rfl, rfl⟩)
  · rcases List.mem_cons.1 hy with rfl | hy
    · exact Or.inr (Or.inl rfl)
    · cases hy
  · rcases List.mem_cons.1 hx with rfl | hx
    · exact Or.inr (Or.inl rfl)
    · cases hx
  · rcases List.mem_cons.1 hx with rfl | hx
    · rcases List.mem_cons.1 hy with rfl | hy
      · exact Or.inr (Or.inr ⟨rfl, rfl⟩)
      · cases hy
    · cases hx
end Go.Proofs.YtkpcohfdcilfcaaGreat
namespace Go.Proofs.YtkpcohfdcilfcaaGreat
open Go.ChangeShapes Go.WideShapes Go.ChangeAt Go.RowKit
attribute [local go_sem ↓] Go.wp_at_zero Go.wp_at_succ
theorem small14 (w : World) : Calls Tryz.prog 45 #[] w fun e' w' => e' = .returned (.agg #[.int .i64 8, .int .i64 4, .int .i64 32, .int .i64 0, .int .i64 2]) ∧ Below w.heap.size w w' := by
  go_enter Tryz.func45, Tryz.ntmps45
  go_wp2
  refine bodyPost_ret (v := .agg #[.int .i64 8, .int .i64 4, .int .i64 32, .int .i64 0, .int .i64 2]) (by simp [results, Tryz.results45, go_sem]) rfl ⟨rfl, ?_⟩
  exact (Below.refl _ _).alloc (Nat.le_refl _) _
theorem new14 (w : World) : Calls Tryz.prog 28 #[.agg #[.int .i64 8, .int .i64 4, .int .i64 32, .int .i64 0, .int .i64 2], .slice none 0 0] w fun e' w' => (∃ m gx gb AF cf, e' = .returned (.pointer (some ⟨m, 0, none⟩)) ∧ ChipW w' m gx gb AF 0 cf 8 4 32 0 2 [] (ChS.new 1536 8) ∧ w.heap.size ≤ m ∧ w.heap.size ≤ gx ∧ w.heap.size ≤ gb) ∧ Below w.heap.size w w' :=
  newF_yes 8 4 32 0 2 [] none 0 1536 8 w (Or.inl rfl) (Nat.le_refl _) (Nat.zero_le _) (by simp) (Lib.hid (by decide)) (by decide) rfl (by omega) (by omega) (by omega)
theorem dN_at {n k j : Nat} (h : j < k) : (dN n k)[j]? = some ((n + j) % 256) := by
  unfold dN
  rw [List.getElem?_map, List.getElem?_range h]
  rfl
theorem wrapB (n j : Nat) : (((n : Int) + (j : Int)) % 256) = (((n + j) % 256 : Nat) : Int) := by
  omega
theorem data_n (n k : Nat) (w : World) (hn : n < 256) (hk : k ≤ 1000) : Calls Tryz.prog 19 #[.int .u8 (n : Nat), .int .i64 (k : Nat)] w fun e' w' => (∃ g, e' = .returned (.slice (some ⟨g, 0, none⟩) k k) ∧ RowT w' g 5 ((dN n k).map byteV) ∧ w.heap.size ≤ g) ∧ Below w.heap.size w w' := by
  go_enter Tryz.func19, Tryz.ntmps19
  go_wp2_with (at_make; go_loud (obtain ⟨ti0, hi, hz0, hz1, hz2⟩ := info_parts infoByte; refine wpList_make_full _ rfl _ _ 37 rfl w.heap.size 5 ti0 (.int .u8 0) 1 Tryz.underlying37 hi hz0 hz1 _ _ _ _ k rfl rfl rfl rfl (by rw [hz2]; omega) (by unfold maxLen; omega) (Nat.le_refl _) ?_; intro w1 hown1 hgrow1; clear hi hz0 hz1 hz2))
  have hB1 : Below w.heap.size w w1 := (Below.refl _ _).grown hgrow1 (Nat.le_refl _) (fun j hj => by cases hj)
  have hR1 : RowT w1 w.heap.size 5 ((dN n k).map byteV |>.take 0 |>.append (List.replicate (k - 0) (.int .u8 0))) := by
    have h := RowT.own hown1
    rw [show (madeCells (Value.int .u8 0).cells (k * 1)).toList = List.replicate (k * 1) (Value.int .u8 0) from toList_madeCells_one _ _, Nat.mul_one] at h
    simpa using h
  have HLN : Hid (((dN n k).map byteV).length = k) := Lib.hid (by rw [List.length_map, dN_len])
  clear hown1 hgrow1
  obtain ⟨g, hg⟩ : ∃ g, w.heap.size = g := ⟨_, rfl⟩
  have HGG := Lib.hid hg
  rw [hg] at hR1 ⊢
  have hBg : Below g w w1 := by rw [← hg]; exact hB1
  clear hg
  go_loopw [6] (fun i wr => ∃ j : Nat, j ≤ k ∧ i = .int .i64 j ∧ RowT wr g 5 (((dN n k).map byteV).take j ++ List.replicate (k - j) (.int .u8 0)) ∧ Below g w wr) (fun i _ => k - (intOf i).toNat)
  case atStart => exact ⟨0, by omega, rfl, hR1, hBg⟩
  case round =>
    obtain ⟨j, hj, rfl, hR, HB⟩ := hrel
    by_cases hlt : j < k
    · have i0 : (0 : Int) ≤ (j : Int) := by omega
      have i1 : (j : Int) < (k : Int) := by omega
      have HAT := Lib.hid (fill_at (z := Value.int .u8 0) HLN.out hlt)
      have HNX : Hid ((((dN n k).map byteV).take j ++ List.replicate (k - j) (Value.int .u8 0)).set j (.int .u8 ((((n : Int) + (j : Int)) % 256))) = ((dN n k).map byteV).take (j + 1) ++ List.replicate (k - (j + 1)) (.int .u8 0)) := Lib.hid (fill_next HLN.out (by
        rw [List.getElem?_map, dN_at hlt, wrapB]
        rfl))
      have HLL : Hid (j < (((dN n k).map byteV).take j ++ List.replicate (k - j) (Value.int .u8 0)).length) := Lib.hid (by
        have := HLN.out
        rw [List.length_append, List.length_take, List.length_replicate]
        omega)
      obtain ⟨xs, hxs⟩ : ∃ xs, ((dN n k).map byteV).take j ++ List.replicate (k - j) (Value.int .u8 0) = xs := ⟨_, rfl⟩
      rw [hxs] at hR HAT HNX HLL
      have c0 := hR.cell_ HAT.out
      have f0 := hR.free j
      have hS := hR.set_ HLL.out (.int .u8 ((((n : Int) + (j : Int)) % 256)))
      have hgl : g ≤ g := Nat.le_refl g
      have HB2 := HB.setCell (p := ⟨g, j, none⟩) hgl (.int .u8 ((((n : Int) + (j : Int)) % 256)))
      clear hxs
      go_wp2_with fail
      go_roundw
      case rel => exact ⟨j + 1, by omega, by go_num, by rw [← HNX.out]; exact hS, HB2⟩
      case measure => simp [intOf]; omega
    · obtain rfl : k = j := by omega
      have hR9 : RowT wr g 5 ((dN n k).map byteV) := by
        have h := hR
        rw [List.take_of_length_le (by rw [HLN.out]; exact Nat.le_refl _), Nat.sub_self, List.replicate_zero, List.append_nil] at h
        exact h
      go_wp2_with fail
      go_ret
      have HB9 : Below w.heap.size w wr := by rw [HGG.out]; exact HB
      exact ⟨⟨g, rfl, hR9, by rw [HGG.out]; exact Nat.le_refl _⟩, HB9⟩
theorem data_9 (w : World) : Calls Tryz.prog 19 #[.int .u8 9, .int .i64 32] w fun e' w' => (∃ g, e' = .returned (.slice (some ⟨g, 0, none⟩) 32 32) ∧ RowT w' g 5 ((dN 9 32).map byteV) ∧ w.heap.size ≤ g) ∧ Below w.heap.size w w' := data_n 9 32 w (by omega) (by omega)
end Go.Proofs.YtkpcohfdcilfcaaGreat
namespace Go.Proofs.YtkpcohfdcilfcaaGreat
open Go.ChangeShapes Go.WideShapes Go.ChangeAt Go.RowKit
attribute [local go_sem ↓] Go.wp_at_zero Go.wp_at_succ
def fsW (s : ChS) : FlS := (blankS s 8).put 2 ⟨1, dN 9 32⟩
def fs2 (s : ChS) : FlS := { fsW s with epoch := (0 : Nat) + 1, fA := List.replicate 8 (-1), st := (fsW s).st.set 2 true }
def fs3 (s p : ChS) : FlS := { fs2 s with seq := ((0 : Nat) : Int) + 1, ch := p, degr := false, fA := putL 8 4 (List.replicate 8 (-1)) ((2 : Nat) : Int) ((0 : Nat) : Int) ((0 : Nat) : Int) }
def fs4 (s p q : ChS) : FlS := { fs3 s p with seq := ((1 : Nat) : Int) + 1, ch := q, degr := false }
theorem k_k0 {s : ChS} (h : s.K = kA0) : s.k ((0 : Nat) : Int) 0 = ((0 : Nat) : Int) := by unfold ChS.k; rw [h]; kernel_rfl
theorem k_k1 {s : ChS} (h : s.K = kA1) : s.k ((0 : Nat) : Int) 0 = ((1 : Nat) : Int) := by unfold ChS.k; rw [h]; kernel_rfl
theorem step1 {s : ChS} (h : Liv s) (hK : s.K = kA0) : s.progZ 8 4 ((32 : Nat) : Int) [] ((0 : Nat) : Int) ((0 : Nat) : Int) (32 + 16) = 0 ∧ s.progS 8 4 ((32 : Nat) : Int) [] ((0 : Nat) : Int) ((0 : Nat) : Int) rw1 = s.prog 0 0 48 rw1 := prog_eq h (kb := 0) (ub := 0) (N := 0) rw1_len (by decide) (k_k0 hK) (by decide)
theorem step2 {s : ChS} (h : Liv s) (hK : s.K = kA1) : s.progZ 8 4 ((32 : Nat) : Int) [] ((0 : Nat) : Int) ((1 : Nat) : Int) (32 + 16) = 0 ∧ s.progS 8 4 ((32 : Nat) : Int) [] ((0 : Nat) : Int) ((1 : Nat) : Int) rw2 = s.prog 0 1 48 rw2 := prog_eq h (kb := 0) (ub := 1) (N := 1) rw2_len (by decide) (k_k1 hK) (by decide)
theorem wrA {s : ChS} (h : Liv s) (hK : s.K = kA0) (hf : Fine s 1020) : WrOk 8 4 32 0 [] (fs2 s) 2 (fs3 s (s.prog 0 0 48 rw1)) :=
  ⟨⟨0, 0, 0, 1, ⟨1, dN 9 32⟩, 1020, s.prog 0 0 48 rw1, rfl, rfl, rfl, rfl, by omega, k0_open hK, by decide, k0_ask hK, by decide, dN_8 9 32, dN_len 9 32, by omega, hf, by omega, (step1 h hK).1, (step1 h hK).2, k_over _ rfl rfl (Or.inr (Or.inl (prog_K0 hK 0 rw1))), rfl⟩⟩
theorem cmA {s p : ChS} (h : Liv p) (hK : p.K = kA1) (hf : Fine p 1023) : CmOk 8 4 32 0 [] (fs3 s p) 0 1 (fs4 s p (p.prog 0 1 48 rw2)) :=
  ⟨⟨1, 1, 1023, p.prog 0 1 48 rw2, rfl, rfl, by omega, k1_open hK, by decide, k1_ask hK, by decide, by omega, hf, by omega, (step2 h hK).1, (step2 h hK).2, k_over _ rfl rfl (Or.inr (Or.inr (prog_K1 hK 1 rw2))), rfl⟩⟩
theorem flushA (F : FlK) (s : ChS) (hL : Liv s) (hK : s.K = kA0) (hf : Fine s 1020) (h0 : s.cuts = 0) (w : World) (hF : FlW w F 8 4 32 0 2 [] 8 32 (fsW s)) :
    Calls Tryz.prog 20 #[.pointer (some ⟨F.fm, 0, none⟩)] w fun e' w' => e' = .returned (.int .i64 0) ∧ (∃ F' sE, FlW w' F' 8 4 32 0 2 [] 8 32 sE ∧ sE.ch = (s.prog 0 0 48 rw1).prog 0 1 48 rw2 ∧ FlNx w F F') ∧ Tch (FlB F) w w' := by
  have hL1 := prog_liv hL 0 0 48 rw1_8
  have hK1 := prog_K0 hK 0 rw1
  have hf1 := prog_fine hf 0 0 48 rw1
  have hK2 := prog_K1 hK1 1 rw2
  have hf2 := prog_fine hf1 0 1 48 rw2
  refine (flush_ok F 8 4 0 2 [] 8 32 32 (fsW s) (fs3 s (s.prog 0 0 48 rw1)) (fs4 s (s.prog 0 0 48 rw1) ((s.prog 0 0 48 rw1).prog 0 1 48 rw2)) 0 [2] 0 1 1026 w hF hL.on rfl rfl (by kernel_rfl) (by decide) (by decide) (fun p hp => ?_) rfl (by omega) (k0_res hK) ⟨_, wrA hL hK hf, rfl⟩ (cmA hL1 hK1 hf1) (fun k i _ _ hg => ?_) hf2.bnd (by omega) ?_).mono ?_
  · obtain rfl := List.mem_singleton.1 hp
    exact ⟨by omega, by kernel_rfl⟩
  · rw [good_nil] at hg
    cases hg
  · have e1 : (fs4 s (s.prog 0 0 48 rw1) ((s.prog 0 0 48 rw1).prog 0 1 48 rw2)).ch = (s.prog 0 0 48 rw1).prog 0 1 48 rw2 := rfl
    rw [e1, k2_spr hK2, prog_cuts hL1, prog_cuts hL, h0]
    decide
  · rintro e' w' ⟨rfl, ⟨F', hG, hN⟩, hT⟩
    exact ⟨rfl, ⟨F', _, hG, stl_ch 8 4 [2] _, hN⟩, hT⟩
theorem logA : logicalI 8 4 0 = ((8 : Nat) : Int) := by decide
theorem mountA (m gx gb : Nat) (AF : Option Addr) (cf : Nat) (w : World) (hC : ChipW w m gx gb AF 0 cf 8 4 32 0 2 [] (ChS.new 1536 8)) :
    Calls Tryz.prog 23 #[.pointer (some ⟨m, 0, none⟩)] w fun e' w' => (∃ F : FlK, e' = .returned (.tuple #[.pointer (some ⟨F.fm, 0, none⟩), .int .i64 0]) ∧ (∃ n, FlW w' F 8 4 32 0 2 [] 8 32 (blankS ((ChS.new 1536 8).at_ n) 8) ∧ Good ((ChS.new 1536 8).at_ n) 1020) ∧ (F.m = m ∧ F.gx = gx ∧ F.gb = gb ∧ F.Af = AF ∧ F.nf = 0 ∧ F.cf = cf) ∧ (∀ g, FlB F g → chB m gx gb g ∨ w.heap.size ≤ g) ∧ F.dat = []) ∧ Tch (chB m gx gb) w w' := by
  obtain ⟨S1, h1, n, rfl⟩ := walk0 0
  have hfd := vis0
  refine (mount_ok m gx gb AF 0 cf 8 4 32 0 2 [] 8 4 20 _ (ChS.new 1536 8) _ 8 32 (blankS ((ChS.new 1536 8).at_ n) 8) 0 w hC (good_new 1536 8) (by omega) (Liv.new 1536 8).b8 rfl rfl rfl (Lib.hid h1) (Lib.hid (by rw [hfd]; rfl)) (by omega) logA rfl (fun x hx => by rw [hfd] at hx; cases hx) (fun L1 L2 i1 i2 => ?_) (fun x hx => by rw [hfd] at hx; cases hx) rfl (k_over _ rfl rfl (Or.inl rfl)) ?_).mono ?_
  · rw [hfd] at i1 i2 ⊢
    exact learn0 _ L1 L2 i1 i2
  · rw [show (blankS ((ChS.new 1536 8).at_ n) 8).ch = (ChS.new 1536 8).at_ n from rfl, k0_spr rfl, show ((ChS.new 1536 8).at_ n).cuts = 0 from rfl]
    decide
  · rintro e' w' ⟨⟨F, rfl, hG, hE, hO, hD⟩, hT, hg⟩
    refine ⟨⟨F, rfl, ⟨n, hG, hg⟩, hE, hO, ?_⟩, hT⟩
    exact List.eq_nil_iff_forall_not_mem.2 (fun g hg => (hD g hg).1 rfl)
theorem mountB (m gx gb : Nat) (AF : Option Addr) (cf : Nat) (p : ChS) (w : World) (hC : ChipW w m gx gb AF 0 cf 8 4 32 0 2 [] p) (hL : Liv p) (hX : p.X = xP) (hK : p.K = kA2) (hgd : Good p 1100) (h0 : p.cuts = 0) :
    Calls Tryz.prog 23 #[.pointer (some ⟨m, 0, none⟩)] w fun e' w' => (∃ F : FlK, e' = .returned (.tuple #[.pointer (some ⟨F.fm, 0, none⟩), .int .i64 0]) ∧ (∃ n, FlW w' F 8 4 32 0 2 [] 8 32 (slP (p.at_ n)) ∧ Good (p.at_ n) 2100) ∧ (F.m = m ∧ F.gx = gx ∧ F.gb = gb ∧ F.Af = AF ∧ F.nf = 0 ∧ F.cf = cf) ∧ (∀ g, FlB F g → chB m gx gb g ∨ w.heap.size ≤ g) ∧ F.dat = []) ∧ Tch (chB m gx gb) w w' := by
  obtain ⟨S1, h1, n, rfl⟩ := walkP hL hX
  have hfd := visP
  have hK1 : (p.at_ n).K = kA2 := hK
  refine (mount_ok m gx gb AF 0 cf 8 4 32 0 2 [] 8 4 1100 _ p _ 8 32 (slP (p.at_ n)) 2 w hC hgd (by omega) hL.b8 rfl rfl hL.on (Lib.hid h1) (Lib.hid (by rw [hfd]; rfl)) (by omega) logA rfl (fun x hx => by rw [hfd] at hx; exact fdl_ok x hx) (fun L1 L2 i1 i2 => ?_) (fun x hx _ => by rw [hfd] at hx ⊢; exact aloneP _ x hx) rfl (k_over _ rfl rfl (Or.inr (Or.inr hK1))) ?_).mono ?_
  · rw [hfd] at i1 i2 ⊢
    exact learnP _ L1 L2 i1 i2
  · rw [show (slP (p.at_ n)).ch = p.at_ n from rfl, k2_spr hK1, show (p.at_ n).cuts = p.cuts from rfl, h0]
    decide
  · rintro e' w' ⟨⟨F, rfl, hG, hE, hO, hD⟩, hT, hg⟩
    refine ⟨⟨F, rfl, ⟨n, hG, hg⟩, hE, hO, ?_⟩, hT⟩
    exact List.eq_nil_iff_forall_not_mem.2 (fun g hg => (hD g hg).1 rfl)
theorem writeA (F : FlK) (s : ChS) (gD cp : Nat) (w : World) (hF : FlW w F 8 4 32 0 2 [] 8 32 (blankS s 8)) (hon : s.on = true) (hR : RowT w gD 5 ((dN 9 32).map byteV)) :
    Calls Tryz.prog 16 #[.pointer (some ⟨F.fm, 0, none⟩), .int .i64 2, .slice (some ⟨gD, 0, none⟩) 32 cp] w fun e' w' => e' = .returned (.int .i64 0) ∧ (∃ g' c', FlW w' (F.put 2 g' c') 8 4 32 0 2 [] 8 32 (fsW s) ∧ w.heap.size ≤ g') ∧ Tch (FlB F) w w' := by
  have h := write_yes F 8 4 0 2 [] 8 32 (blankS s 8) 2 gD 0 cp (dN 9 32) w (by rw [dN_len]; exact hF) hon rfl (by omega) rfl (Rd.of_sl hR.slr (by rw [List.length_map])) hR.lt
  rw [dN_len] at h
  exact h
theorem readA (F : FlK) (p : ChS) (w : World) (hF : FlW w F 8 4 32 0 2 [] 8 32 (slP p)) (hL : Liv p) (hX : p.X = xP) (n0 : Int) (hs : Fine p n0) (hn0 : n0 ≤ 900000000) :
    Calls Tryz.prog 34 #[.pointer (some ⟨F.fm, 0, none⟩), .int .i64 2] w fun e' w' => (∃ A' c', e' = .returned (.tuple #[.slice A' 32 c', .int .i64 0]) ∧ w'.ownsRow w.heap.size 5 1 (.slice A' 32 c') 32 ((dN 9 32).map byteV)) ∧ FlW w' F 8 4 32 0 2 [] 8 32 { slP p with ch := p.readS 8 4 0 0 } ∧ Tch (FlB F) w w' := by
  have h1 := live_read (a := 8) (b := 4) (c := 32) (NA := 8) (NB := 4) (RW := 48) (i := 0) hL rfl rfl rfl (by omega) (by omega)
  rw [hX, pg0] at h1
  exact read_kept F 8 4 32 0 2 [] 8 32 (slP p) 2 ⟨0, []⟩ n0 w hF hL.on rfl hs hn0 rfl rfl (by kernel_rfl) (by kernel_rfl) 0 0 (by kernel_rfl) (by kernel_rfl) (dN 9 32) 32 1 2 1 1 _ rw1 rw1_8 (by rw [rw1_len]; omega) (Lib.hid ⟨h1.1, h1.2, rfl⟩) (Lib.hid rw1_lk)
end Go.Proofs.YtkpcohfdcilfcaaGreat
namespace Go.Proofs.YtkpcohfdcilfcaaGreat
open Go.ChangeShapes Go.WideShapes Go.ChangeAt Go.RowKit
attribute [local go_sem ↓] Go.wp_at_zero Go.wp_at_succ
theorem good_two {s : ChS} {n : Int} (h : Good s n) (hL : Liv s) (hK : s.K = kA0) : Good ((s.prog 0 0 48 rw1).prog 0 1 48 rw2) (n + 6) := by
  have h1 : (s.prog 0 0 48 rw1).Wt := by
    have := Wt.prog h.wt 8 4 32 [] ((0 : Nat) : Int) ((0 : Nat) : Int) rw1
    have e := (step1 hL hK).2
    rw [show ((32 : Nat) : Int) = 32 from rfl] at e
    rwa [e] at this
  have h2 : ((s.prog 0 0 48 rw1).prog 0 1 48 rw2).Wt := by
    have := Wt.prog h1 8 4 32 [] ((0 : Nat) : Int) ((1 : Nat) : Int) rw2
    have e := (step2 (prog_liv hL 0 0 48 rw1_8) (prog_K0 hK 0 rw1)).2
    rw [show ((32 : Nat) : Int) = 32 from rfl] at e
    rwa [e] at this
  exact ⟨(prog_fine (prog_fine h.fine 0 0 48 rw1) 0 1 48 rw2).mono (by omega), h2⟩
theorem two_X {s : ChS} (hX : s.X = List.replicate 1536 255) : ((s.prog 0 0 48 rw1).prog 0 1 48 rw2).X = xP := by
  rw [(prog_on (s := s.prog 0 0 48 rw1) 0 1 48 rw2).2.2.2.2.2.1, (prog_on (s := s) 0 0 48 rw1).2.2.2.2.2.1, hX]
  rfl
theorem sl_int1 (w : World) (x : Int) {g : Nat} (hg : g = w.heap.size) : Sl (w.alloc (.cells #[.int .i64 x] 3)) (w.alloc (.cells #[.int .i64 x] 3)).heap.size (some ⟨g, 0, none⟩) ([x].map (Value.int .i64)) := by
  subst hg
  refine Or.inr ⟨w.heap.size, 0, rfl, (Blk.new_ w _ _).lt, fun k u hk => ?_⟩
  match k, hk with
  | 0, hk => cases hk; exact (Blk.new_ w _ _).cell_ 0
  | k + 1, hk => simp at hk
theorem lowC {z : Nat} {w1 : World} {m gx gb : Nat} (h : z ≤ w1.heap.size) (h1 : w1.heap.size ≤ m) (h2 : w1.heap.size ≤ gx) (h3 : w1.heap.size ≤ gb) : ∀ g, chB m gx gb g → z ≤ g := by
  rintro g (rfl | rfl | rfl) <;> omega
theorem chip6 {w6 : World} {F F5 F6 : FlK} {sE : FlS} {m gx gb cf : Nat} {AF : Option Addr} {p : ChS} {w5 : World} (hF : FlW w6 F6 8 4 32 0 2 [] 8 32 sE) (hN : FlNx w5 F5 F6) (h5 : F5.m = F.m ∧ F5.gx = F.gx ∧ F5.gb = F.gb ∧ F5.Af = F.Af ∧ F5.nf = F.nf ∧ F5.cf = F.cf) (h : F.m = m ∧ F.gx = gx ∧ F.gb = gb ∧ F.Af = AF ∧ F.nf = 0 ∧ F.cf = cf) (hp : sE.ch = p) : ChipW w6 m gx gb AF 0 cf 8 4 32 0 2 [] p := by
  have hc := hF.chip
  obtain ⟨a1, a2, a3, a4, a5, a6⟩ := h5
  obtain ⟨b1, b2, b3, b4, b5, b6⟩ := h
  rw [hN.m, hN.gx, hN.gb, hN.Af, hN.nf, hN.cf, a1, a2, a3, a4, a5, a6, b1, b2, b3, b4, b5, b6, hp] at hc
  exact hc
theorem at_X (p : ChS) (n : Int) : (p.at_ n).X = p.X := rfl
theorem pgA (p : ChS) : upTo (hasF { slP p with ch := p.readS 8 4 0 0 }) 8 = [2] := by kernel_rfl
theorem onA {p : ChS} (h : Liv p) : (p.readS 8 4 0 0).on = true := (h.read 8 4 0 0).on
theorem cutsA {p : ChS} (h : Liv p) : (p.readS 8 4 0 0).cuts = p.cuts := by
  obtain ⟨n, hn⟩ := readS_at h 8 4 0 0
  rw [hn]
  rfl
theorem readN (F : FlK) (p : ChS) (w : World) (hF : FlW w F 8 4 32 0 2 [] 8 32 { slP p with ch := p.readS 8 4 0 0 }) (hL : Liv p) : Calls Tryz.prog 34 #[.pointer (some ⟨F.fm, 0, none⟩), .int .i64 3] w fun e' w' => e' = .returned (.tuple #[.slice none 0 0, .int .i64 4]) ∧ Below w.heap.size w w' :=
  rdf_none F 8 4 32 0 2 [] 8 32 { slP p with ch := p.readS 8 4 0 0 } 3 w hF (onA hL) (cutsA hL) (by omega) (by kernel_rfl)
theorem logN (F : FlK) (s : FlS) (w : World) (hF : FlW w F 8 4 32 0 2 [] 8 32 s) : Calls Tryz.prog 18 #[.pointer (some ⟨F.fm, 0, none⟩)] w fun e' w' => e' = .returned (.int .i64 8) ∧ w = w' := logical_f F 8 4 32 0 2 [] 8 32 s w hF
@[local go_sem] theorem ptr_chip (m : Nat) (w : World) : (binOp BinOp.eql 27 (.pointer (some ⟨m, 0, none⟩)) (.pointer (some ⟨m, 0, none⟩))).run Tryz.prog w = .ok (.bool true) w := by
  have h : (Tryz.prog.info? 81).isSome = true := by kernel_rfl
  obtain ⟨j, hj⟩ := Option.isSome_iff_exists.1 h
  exact run_eql_ptr_same w ⟨m, 0, none⟩ (te := 81) (by kernel_rfl) hj
theorem awake14 (w : World) : Calls Tryz.prog 12 #[] w fun e' w' => e' = .returned (.bool true) ∧ Below w.heap.size w w' := by
  go_enter Tryz.func12, Tryz.ntmps12
  go_wp2_with (first
    | (go_at_call 45; go_loud (((with_reducible refine (small14 _).mono ?_); rintro e' w1 ⟨rfl, b1⟩; have H1 : Below w.heap.size w w1 := b1)))
    | (go_at_call 28; go_loud (((with_reducible refine (new14 _).mono ?_); rintro e' w2 ⟨⟨m, gx, gb, AF, cf, rfl, hC, hm, hgx, hgb⟩, b2⟩; have H2 := btr H1 H1.size b2; have hlow : ∀ g, chB m gx gb g → w.heap.size ≤ g := lowC H1.size hm hgx hgb)))
    | (go_at_call 23; go_loud (((with_reducible refine (mountA m gx gb AF cf _ hC).mono ?_); rintro e' w3 ⟨⟨F, rfl, ⟨n1, hF, hg1⟩, hE, hO, hD⟩, hT3⟩; have HE := Lib.hid hE; have hL1 : Liv ((ChS.new 1536 8).at_ n1) := (Liv.new 1536 8).at_ n1; clear hE; have H3 := H2.trans (hT3.below H2.size hlow); have hFO : ∀ g, FlB F g → w.heap.size ≤ g := fun g h => (hO g h).elim (hlow g) (Nat.le_trans H2.size))))
    | (go_at_call 19; go_loud (((with_reducible refine (data_9 _).mono ?_); rintro e' w4 ⟨⟨gD, rfl, hRD, hgD⟩, b4⟩; have hF4 := hF.below b4; have H4 := btr H3 H3.size b4)))
    | (go_at_call 16; go_loud (((with_reducible refine (writeA F _ gD 32 _ hF4 rfl hRD).mono ?_); rintro e' w5 ⟨rfl, ⟨g5, c5, hF5, hg5⟩, hT5⟩; (obtain ⟨F5, hF5e⟩ : ∃ G : FlK, G = F.put 2 g5 c5 := ⟨_, rfl⟩); rw [← hF5e] at hF5; have hfm5 : F5.fm = F.fm := (by rw [hF5e]; rfl); have HE5 : Hid (F5.m = F.m ∧ F5.gx = F.gx ∧ F5.gb = F.gb ∧ F5.Af = F.Af ∧ F5.nf = F.nf ∧ F5.cf = F.cf) := Lib.hid (by rw [hF5e]; exact ⟨rfl, rfl, rfl, rfl, rfl, rfl⟩); have H5 := H4.trans (hT5.below H4.size hFO); have hFO5 : ∀ g, FlB F5 g → w.heap.size ≤ g := (by rw [hF5e]; exact hFO); rw [← hfm5]; clear hfm5 hF5e)))
    | (go_at_call 20; go_loud (((with_reducible refine (flushA F5 ((ChS.new 1536 8).at_ n1) hL1 rfl hg1.fine rfl _ hF5).mono ?_); rintro e' w6 ⟨rfl, ⟨F6, sE, hF6, hch, hN⟩, hT6⟩; have hC6 := chip6 hF6 hN HE5.out HE.out hch; have hLp := prog_liv (prog_liv hL1 0 0 48 rw1_8) 0 1 48 rw2_8; have hXp := two_X (s := (ChS.new 1536 8).at_ n1) rfl; have hKp : (((((ChS.new 1536 8).at_ n1).prog 0 0 48 rw1).prog 0 1 48 rw2)).K = kA2 := prog_K1 (prog_K0 rfl 0 rw1) 1 rw2; have hgp := (good_two hg1 hL1 rfl).mono (show (1020 : Int) + 6 ≤ 1100 by omega); have h0p : (((((ChS.new 1536 8).at_ n1).prog 0 0 48 rw1).prog 0 1 48 rw2)).cuts = 0 := (prog_cuts (prog_liv hL1 0 0 48 rw1_8) 0 1 48 rw2).trans (prog_cuts hL1 0 0 48 rw1); (obtain ⟨p, hp⟩ : ∃ p, (((ChS.new 1536 8).at_ n1).prog 0 0 48 rw1).prog 0 1 48 rw2 = p := ⟨_, rfl⟩); rw [hp] at hC6 hLp hXp hKp hgp h0p; have HXp := Lib.hid hXp; have HKp := Lib.hid hKp; have H0p := Lib.hid h0p; clear hp hXp hKp h0p hch; have H6 := H5.trans (hT6.below H5.size hFO5))))
    | (go_at_call 23; go_loud (((with_reducible refine (mountB m gx gb AF cf p _ hC6 hLp HXp.out HKp.out hgp H0p.out).mono ?_); rintro e' w7 ⟨⟨G, rfl, ⟨n2, hG, hg2⟩, hGE, hGO, hGD⟩, hT7⟩; have hL2 : Liv (p.at_ n2) := hLp.at_ n2; have hGm := hGE.1; clear hGE; have H7 := H6.trans (hT7.below H6.size hlow); have hGO2 : ∀ g, FlB G g → w.heap.size ≤ g := fun g h => (hGO g h).elim (hlow g) (Nat.le_trans H6.size))))
    | (go_at_call 34; go_loud (((with_reducible refine (readA G (p.at_ n2) _ hG hL2 ((at_X p n2).trans HXp.out) 2100 hg2.fine (by omega)).mono ?_); rintro e' w8 ⟨⟨A8, c8, rfl, ho8⟩, hG8, hT8⟩; (obtain ⟨A8b, c8b, hv8, hSl8, -, -⟩ := own_sl ho8); cases hv8; have H8 := H7.trans (hT8.below H7.size hGO2))))
    | (go_at_call 34; go_loud (((with_reducible refine (readN G (p.at_ n2) _ hG8 hL2).mono ?_); rintro e' w9 ⟨rfl, b9⟩; have hG9 := hG8.below b9; have hSl9 := hSl8.next b9; have H9 := btr H8 H8.size b9)))
    | (go_at_call 19; go_loud (((with_reducible refine (data_9 _).mono ?_); rintro e' w10 ⟨⟨gD2, rfl, hRD2, hgD2⟩, b10⟩; have hG10 := hG9.below b10; have hSl10 := hSl9.next b10; have hSlD := hRD2.slr; have H10 := btr H9 H9.size b10)))
    | (go_at_call 37; go_loud (((with_reducible refine (sameB_b true (dN 9 32) (dN 9 32) 32 32 (dN_len 9 32) (dN_len 9 32) (by simp) A8 (some ⟨gD2, 0, none⟩) c8 32 _ hSl10 hSlD (by omega) (by omega)).mono ?_); rintro e' w11 ⟨rfl, b11⟩; have hG11 := hG10.below b11; have H11 := btr H10 H10.size b11)))
    | (go_at_call 18; go_loud (((with_reducible refine (logN G _ _ hG11).mono ?_); rintro e' w12 ⟨rfl, rfl⟩; skip)))
    | (go_at_call 41; go_loud (((with_reducible refine (pages_f G 8 4 32 0 2 [] 8 32 _ _ hG11 [2] (pgA (p.at_ n2))).mono ?_); rintro e' w13 ⟨⟨v13, rfl, ho13⟩, b13⟩; (obtain ⟨A13, c13, hv13, hSl13, -, -⟩ := own_sl ho13); subst hv13; have hG13 := hG11.below b13; have H13 := btr H11 H11.size b13)))
    | (go_at_call 42; go_loud (((with_reducible refine (sameI_b true [2] [2] 1 1 rfl rfl (by decide) A13 _ c13 1 _ (hSl13.next ((Below.refl _ _).alloc (Nat.le_refl _) _)) (sl_int1 _ 2 rfl) (by omega) (by omega)).mono ?_); rintro e' w14 ⟨rfl, b14⟩; have hG14 := (hG13.below ((Below.refl _ _).alloc (Nat.le_refl _) _)).below b14; have H14 := btr (H13.alloc H13.size _) (H13.alloc H13.size _).size b14)))
    | (go_at_call 40; go_loud (((with_reducible refine (chipf_f G 8 4 32 0 2 [] 8 32 _ _ hG14).mono ?_); rintro e' w15 ⟨rfl, rfl⟩; rw [hGm]))))
  go_ret
  exact ⟨rfl, H14⟩
end Go.Proofs.YtkpcohfdcilfcaaGreat
namespace Go.Proofs.YtkpcohfdcilfcaaGreat
open Go.ChangeShapes Go.WideShapes Go.ChangeAt Go.RowKit
attribute [local go_sem ↓] Go.wp_at_zero Go.wp_at_succ
theorem spread_zero {ws : List Int} {good : List Bool} (h : ∀ i, ws.getD i 0 = 0) : spreadI ws good = 0 := by
  unfold spreadI
  split
  · rfl
  · rw [h, h]
    rfl
theorem spr_zero {a : Int} {fs : List Flt} {s : ChS} (h : ∀ i, s.K.getD i 0 = 0) : sprI a fs s = 0 := by
  unfold sprI
  refine spread_zero fun i => ?_
  unfold wearL
  rw [List.getD_eq_getElem?_getD, List.getElem?_map]
  cases hq : (List.range a.toNat)[i]? with
  | none => rfl
  | some k =>
    show (s.ask a (k : Int) 1) = 0
    unfold ChS.ask ChS.k
    split
    · exact h _
    · rfl
theorem fail_nil (a : Int) (s : ChS) (n : Nat) : failC a [] s n = 0 := by
  unfold failC
  rw [List.countP_eq_zero]
  intro k _
  rw [good_nil]
  decide
theorem new_K (NX NB : Nat) (n : Int) (i : Nat) : ((ChS.new NX NB).at_ n).K.getD i 0 = 0 := by
  show (List.replicate (3 * NB) (0 : Int)).getD i 0 = 0
  rw [List.getD_eq_getElem?_getD, List.getElem?_replicate]
  split <;> rfl
theorem learnL (L : Nat) (a b : Int) (s : ChS) (L1 L2 : List Fd) (h1 : IsAll (trimL []) L1) (h2 : IsAll [] L2) : learnF L a b [] L1 L2 (blankS s L) = blankS s L := by
  have hn : IsAll [] [] := ⟨List.Pairwise.nil, fun x => ⟨fun h => (by cases h), fun h => (by cases h.1)⟩⟩
  have h1 : IsAll [] L1 := h1
  rw [IsAll.unique h1 hn, IsAll.unique h2 hn]
  rfl
theorem visL {NB RW NX n : Nat} (hNX : n * RW = NX) (h1 : 40 ≤ RW) (h2 : RW ≤ 80) : fdsOf (visF NB RW [] (List.replicate NX 255) n 0) = [] :=
  (vis_blank n 0 (fun t _ ht => by
    rw [pg_rep (by
      rw [← hNX]
      have : (t + 1) * RW ≤ n * RW := Nat.mul_le_mul_right _ (by omega)
      rw [Nat.succ_mul] at this
      exact this)]
    exact st_blank h1 h2)).1
theorem mountG (m gx gb : Nat) (AF : Option Addr) (cf : Nat) (a b c d e : Int) (NA NB NX L N : Nat) (w : World) (hC : ChipW w m gx gb AF 0 cf a b c d e [] (ChS.new NX NA)) (hNA : (NA : Int) = a) (hNB : (NB : Int) = b) (hL : logicalI a b d = (L : Int)) (hN : (N : Int) = a * b) :
    Calls Tryz.prog 23 #[.pointer (some ⟨m, 0, none⟩)] w fun e' w' => (∃ F : FlK, e' = .returned (.tuple #[.pointer (some ⟨F.fm, 0, none⟩), .int .i64 0]) ∧ (∃ n, FlW w' F a b c d e [] L N (blankS ((ChS.new NX NA).at_ n) L) ∧ Good ((ChS.new NX NA).at_ n) 1020) ∧ (F.m = m ∧ F.gx = gx ∧ F.gb = gb ∧ F.Af = AF ∧ F.nf = 0 ∧ F.cf = cf) ∧ (∀ g, FlB F g → chB m gx gb g ∨ w.heap.size ≤ g) ∧ F.dat = []) ∧ Tch (chB m gx gb) w w' := by
  obtain ⟨hm, -, -⟩ := planMay_bd hC.may
  obtain ⟨g1, g2, g3, g4, g5, g6, g7, g8, g9, -⟩ := may_bd hm
  obtain ⟨RW, hRW⟩ : ∃ r : Nat, (r : Int) = c + 16 := ⟨(c + 16).toNat, by omega⟩
  have hlen : NX = (a * b * (c + 16)).toNat := by
    have h := hC.lenX
    rwa [show (ChS.new NX NA).X.length = NX from List.length_replicate ..] at h
  have hNX : NA * NB * RW = NX := by
    rw [hlen, ← hNA, ← hNB, ← hRW, ← Int.natCast_mul, ← Int.natCast_mul, Int.toNat_natCast]
  have hLv := Liv.new NX NA
  obtain ⟨S1, h1, h2, h3⟩ := walkF_liv (a := a) (b := b) (c := c) (NA := NA) (NB := NB) (RW := RW) (fs := []) hNA hNB hRW (by omega) (NA * NB) 0 (ChS.new NX NA) [] (by omega) hLv
  rw [List.nil_append] at h1
  obtain ⟨n, rfl⟩ := walkF_at (NA * NB) 0 _ [] hLv _ _ _ h1
  have hfd : fdsOf (visF NB RW [] (ChS.new NX NA).X (NA * NB) 0) = [] := visL hNX (by omega) (by omega)
  refine (mount_ok m gx gb AF 0 cf a b c d e [] NA NB 20 _ (ChS.new NX NA) _ L N (blankS ((ChS.new NX NA).at_ n) L) 0 w hC (good_new NX NA) (by omega) hLv.b8 hNA hNB rfl (Lib.hid h1) (Lib.hid (by rw [hfd]; rfl)) (by omega) hL hN (fun x hx => by rw [hfd] at hx; cases hx) (fun L1 L2 i1 i2 => ?_) (fun x hx => by rw [hfd] at hx; cases hx) rfl ?_ ?_).mono ?_
  · rw [hfd] at i1 i2 ⊢
    exact learnL L a b _ L1 L2 i1 i2
  · unfold FlS.over
    rw [fail_nil]
    rw [decide_eq_false (by omega)]
    rfl
  · rw [show (blankS ((ChS.new NX NA).at_ n) L).ch = (ChS.new NX NA).at_ n from rfl, spr_zero (new_K NX NA n), show ((ChS.new NX NA).at_ n).cuts = 0 from rfl]
    omega
  · rintro e' w' ⟨⟨F, rfl, hG, hE, hO, hD⟩, hT, hg⟩
    refine ⟨⟨F, rfl, ⟨n, hG, hg⟩, hE, hO, ?_⟩, hT⟩
    exact List.eq_nil_iff_forall_not_mem.2 (fun g hg => (hD g hg).1 rfl)
theorem newG (a b c d e : Int) (NA NB NX : Nat) (w : World) (hm : mayB a b c d e = true) (hNA : (NA : Int) = a) (hNB : (NB : Int) = b) (hNX : (NX : Int) = a * b * (c + 16)) :
    Calls Tryz.prog 28 #[.agg #[.int .i64 a, .int .i64 b, .int .i64 c, .int .i64 d, .int .i64 e], .slice none 0 0] w fun e' w' => (∃ m gx gb AF cf, e' = .returned (.pointer (some ⟨m, 0, none⟩)) ∧ ChipW w' m gx gb AF 0 cf a b c d e [] (ChS.new NX NA) ∧ w.heap.size ≤ m ∧ w.heap.size ≤ gx ∧ w.heap.size ≤ gb) ∧ Below w.heap.size w w' := by
  obtain ⟨g1, g2, g3, g4, g5, g6, -⟩ := may_bd hm
  have h1 : 1 ≤ a * b := by
    have := Int.mul_pos (show (0 : Int) < a by omega) (show (0 : Int) < b by omega)
    omega
  have h2 : a * b ≤ 20 * 8 := Int.mul_le_mul g2 g4 (by omega) (by omega)
  have h3 : 1 ≤ a * b * (c + 16) := by
    have := Int.mul_pos (show (0 : Int) < a * b by omega) (show (0 : Int) < c + 16 by omega)
    omega
  have h4 : a * b * (c + 16) ≤ 160 * 80 := Int.mul_le_mul (by omega) (by omega) (by omega) (by omega)
  exact newF_yes a b c d e [] none 0 NX NA w (Or.inl rfl) (Nat.le_refl _) (Nat.zero_le _) (by simp) (Lib.hid (by unfold planMay; rw [hm]; rfl)) hNX hNA (by omega) (by omega) (by omega)
theorem newN (a b c d e : Int) (w : World) (hm : mayB a b c d e = false) : Calls Tryz.prog 28 #[.agg #[.int .i64 a, .int .i64 b, .int .i64 c, .int .i64 d, .int .i64 e], .slice none 0 0] w fun e' w' => e' = .returned (.pointer none) ∧ Below w.heap.size w w' :=
  newF_no a b c d e [] none 0 w (Or.inl rfl) (Nat.le_refl _) (Nat.zero_le _) (Lib.hid (by unfold planMay; rw [hm]; rfl))
end Go.Proofs.YtkpcohfdcilfcaaGreat
namespace Go.Proofs.YtkpcohfdcilfcaaGreat
open Go.ChangeShapes Go.WideShapes Go.ChangeAt Go.RowKit
attribute [local go_sem ↓] Go.wp_at_zero Go.wp_at_succ
theorem grown_tch {w w' : World} {g : Nat} (h : w.grownBy w' (some g)) : Tch (fun x => x = g) w w' :=
  ⟨h.size, fun x hx hn => h.block x hx (fun e => hn (Option.some.inj e)), h.os, h.tape, h.output⟩
theorem own_tchS {w w' : World} {base n z : Nat} {t : TypeId} {v : Value} {xs : List Value} {S : Nat → Prop} (h : w.ownsRow base t z v n xs) (hT : Tch S w w') (hs : ∀ g, base ≤ g → ¬ S g) : w'.ownsRow base t z v n xs := by
  obtain ⟨h0, h | ⟨g, cap, cur, h1, h2, h3, h4⟩⟩ := h
  · exact ⟨h0, Or.inl h⟩
  · exact ⟨h0, Or.inr ⟨g, cap, cur, h1, h2, (hT.far g (Array.getElem?_eq_some_iff.1 h3).1 (hs g h2)).trans h3, h4⟩⟩
theorem lent_tch {w w' : World} {g : Nat} {xs : List Value} {S : Nat → Prop} (h : LentB w g xs) (hT : Tch S w w') (hn : ¬ S g) : LentB w' g xs := by
  obtain ⟨cur, hb, h2⟩ := h
  exact ⟨cur, hT.blk hb hn, h2⟩
theorem lend_n (bs : List Nat) (n : Nat) (hn : bs.length = n) (A : Option Addr) (c : Nat) (w : World) (h1 : Sl w w.heap.size A (bs.map byteV)) (n1 : n ≤ 1000000) (hA : A = none → bs.length = 0 ∧ c = 0) :
    Calls Tryz.prog 33 #[.slice A n c] w fun e' w' => (∃ g, e' = .returned (.slice (some ⟨g, 0, none⟩) n (n + 3)) ∧ LentB w' g (bs.map byteV) ∧ w'.ownsRow w.heap.size 5 1 (.slice (some ⟨g, 0, none⟩) n (n + 3)) n (bs.map byteV) ∧ w.heap.size ≤ g) ∧ Below w.heap.size w w' := by
  subst hn
  refine (lendB_ownT bs A c w h1 n1 hA).mono ?_
  rintro e' w' ⟨g, h1, h2, h3, h4, h5⟩
  exact ⟨⟨g, h1, h3, h4, h2⟩, h5⟩
theorem kept_n (bs : List Nat) (n : Nat) (hn : bs.length = n) (g : Nat) (B : Option Addr) (d : Nat) (w : World) (h1 : LentB w g (bs.map byteV)) (h2 : Sl w w.heap.size B (bs.map byteV)) (n1 : n ≤ 1000000) :
    Calls Tryz.prog 35 #[.slice (some ⟨g, 0, none⟩) n (n + 3), .slice B n d] w fun e' w' => e' = .returned (.bool true) ∧ Below w.heap.size w w' := by
  subst hn
  have h := keptB_any bs bs g B d w h1 h2 n1 n1
  simpa using h
theorem write_n1 (F : FlK) (a b d e : Int) (fs : List Flt) (L N n : Nat) (s : FlS) (k gD cp : Nat) (bs : List Nat) (hn : bs.length = n) (w : World) (hF : FlW w F a b (n : Int) d e fs L N s) (hon : s.ch.on = true) (hc : s.ch.cuts = s.cuts) (hk : k < L) (hd : s.degr = false) (hL : LentB w gD (bs.map byteV)) :
    Calls Tryz.prog 16 #[.pointer (some ⟨F.fm, 0, none⟩), .int .i64 (k : Int), .slice (some ⟨gD, 0, none⟩) n cp] w fun e' w' => e' = .returned (.int .i64 0) ∧ (∃ F', FlW w' F' a b (n : Int) d e fs L N (s.put k ⟨1, bs⟩) ∧ FlNx w F F') ∧ Tch (FlB F) w w' := by
  subst hn
  refine (write_yes F a b d e fs L N s k gD 0 cp bs w hF hon hc hk hd (Rd.of_sl hL.sl (by rw [List.length_map])) hL.lt).mono ?_
  rintro e' w' ⟨rfl, ⟨g', c', hG, hg⟩, hT⟩
  refine ⟨rfl, ⟨_, hG, rfl, rfl, rfl, rfl, rfl, rfl, rfl, fun g h => Or.inl h, fun g h => ?_⟩, hT⟩
  rcases List.mem_cons.1 h with rfl | h
  · exact Or.inr hg
  · exact Or.inl h
theorem read_w1 (F : FlK) (a b c d e : Int) (fs : List Flt) (L N n : Nat) (s : FlS) (k : Nat) (bs : List Nat) (hn : bs.length = n) (w : World) (hF : FlW w F a b c d e fs L N (s.put k ⟨1, bs⟩)) (hk : k < L) (hl : s.wt.length = L) (hon : s.ch.on = true) (hc : s.ch.cuts = s.cuts) (n1 : 1 ≤ n) (n2 : n ≤ 100000) :
    Calls Tryz.prog 34 #[.pointer (some ⟨F.fm, 0, none⟩), .int .i64 (k : Int)] w fun e' w' => (∃ g' c', e' = .returned (.tuple #[.slice (some ⟨g', 0, none⟩) n c', .int .i64 0]) ∧ RowT w' g' 5 (bs.map byteV) ∧ w.heap.size ≤ g' ∧ w'.ownsRow w.heap.size 5 1 (.slice (some ⟨g', 0, none⟩) n c') n (bs.map byteV)) ∧ Below w.heap.size w w' := by
  subst hn
  exact read_wait F a b c d e fs L N (s.put k ⟨1, bs⟩) k ⟨1, bs⟩ w hF hon hc (List.getElem?_set_self (by rw [hl]; exact hk)) rfl n1 n2
theorem same_n (bs : List Nat) (n : Nat) (hn : bs.length = n) (A B : Option Addr) (c d : Nat) (w : World) (h1 : Sl w w.heap.size A (bs.map byteV)) (h2 : Sl w w.heap.size B (bs.map byteV)) (n1 : n ≤ 1000000) :
    Calls Tryz.prog 37 #[.slice A n c, .slice B n d] w fun e' w' => e' = .returned (.bool true) ∧ Below w.heap.size w w' := by
  subst hn
  have h := sameB_any bs bs A B c d w h1 h2 n1 n1
  simpa using h
theorem arm1 (F : FlK) (a b c d e : Int) (fs : List Flt) (L N : Nat) (s : FlS) (n : Int) (w : World) (hF : FlW w F a b c d e fs L N s) (hs : Fine s.ch n) (hn : n ≤ 900000000) (hon : s.ch.on = true) :
    Calls Tryz.prog 38 #[.pointer (some ⟨F.m, 0, none⟩), .agg #[.int .i64 1, .int .i64 0, .int .u8 0]] w fun e' w' => e' = .returned (.int .i64 0) ∧ FlW w' F a b c d e fs L N { s with ch := s.ch.arm 1 0 0 } ∧ Tch (FlB F) w w' := by
  refine (arm_all F.m F.gx F.gb F.Af F.nf F.cf a b c d e fs 1 0 0 n w s.ch hF.chip hs hn).mono ?_
  rintro e' w' ⟨rfl, hC, hT⟩
  refine ⟨?_, hF.chip_ hC hT, hT.mono (fun g h => flB_chip h)⟩
  unfold ChS.armC
  rw [hon]
  rfl
theorem cread1 (F : FlK) (a b c d e : Int) (fs : List Flt) (L N : Nat) (s : FlS) (n : Int) (w : World) (hF : FlW w F a b c d e fs L N s) (hs : Fine s.ch n) (hn : n ≤ 900000000) :
    Calls Tryz.prog 39 #[.pointer (some ⟨F.m, 0, none⟩), .agg #[.int .i64 0, .int .i64 0]] w fun e' w' => (∃ v z, e' = .returned (.tuple #[v, z])) ∧ FlW w' F a b c d e fs L N { s with ch := s.ch.readS a b 0 0 } ∧ Tch (FlB F) w w' := by
  refine (read_all F.m F.gx F.gb F.Af F.nf F.cf a b c d e fs 0 0 n w s.ch hF.chip hs hn).mono ?_
  rintro e' w' ⟨⟨A, c', rfl, -⟩, hC, hT⟩
  exact ⟨⟨_, _, rfl⟩, hF.chip_ hC hT, hT.mono (fun g h => flB_chip h)⟩
theorem arm_fine {s : ChS} {n : Int} (h : Fine s n) : Fine (s.arm 1 0 0) n := by
  unfold ChS.arm
  split
  · exact ⟨⟨h.bnd.o0, h.bnd.o1, h.bnd.c0, h.bnd.c1, h.bnd.k0, h.bnd.k1⟩, by show (0 : Int) ≤ 0; omega, by show 0 < 256; omega⟩
  · exact h
theorem cut_off {s : ChS} {a b : Int} (hon : s.on = true) (ha : 0 < a) (hb : 0 < b) : ((s.arm 1 0 0).readS a b 0 0).on = false := by
  have h1 : s.arm 1 0 0 = { s with armed := true, turn := s.ops + 1, cop := 1, cby := 0, fill := 0 } := by
    unfold ChS.arm
    rw [hon]
    rfl
  have ht : thereB a b 0 0 = true := by
    unfold thereB withinB
    have h1 : (0 : Int) ≤ a - 1 := by omega
    have h2 : (0 : Int) ≤ b - 1 := by omega
    simp [h1, h2]
    exact ⟨by omega, by omega⟩
  rw [h1]
  unfold ChS.readS
  rw [show ({ s with armed := true, turn := s.ops + 1, cop := 1, cby := 0, fill := 0 } : ChS).on = true from hon, ht]
  rw [if_pos (by decide)]
  unfold ChS.tick ChS.cutB
  simp
theorem data_1 (k : Nat) (w : World) (hk : k ≤ 1000) : Calls Tryz.prog 19 #[.int .u8 1, .int .i64 (k : Nat)] w fun e' w' => (∃ g, e' = .returned (.slice (some ⟨g, 0, none⟩) k k) ∧ RowT w' g 5 ((dN 1 k).map byteV) ∧ w.heap.size ≤ g) ∧ Below w.heap.size w w' := data_n 1 k w (by omega) hk
theorem has_blank (s : ChS) (L k : Nat) (hk : k < L) : hasF (blankS s L) k = false := by
  have e : (blankS s L).wt[k]? = some ⟨0, []⟩ := by
    show (List.replicate L (⟨0, []⟩ : Wt))[k]? = _
    rw [List.getElem?_replicate, if_pos hk]
  unfold hasF
  rw [e]
  show storedB (blankS s L) k = false
  unfold storedB
  rw [show hasB (blankS s L).kA (k : Int) = false from hasB_no (by show k < (List.replicate L (-1 : Int)).length; rw [List.length_replicate]; exact hk) (by
    show (List.replicate L (-1 : Int)).getD k (-1) = -1
    rw [List.getD_eq_getElem?_getD, List.getElem?_replicate]
    split <;> rfl)]
  rfl
end Go.Proofs.YtkpcohfdcilfcaaGreat
namespace Go.Proofs.YtkpcohfdcilfcaaGreat
open Go.ChangeShapes Go.WideShapes Go.ChangeAt Go.RowKit
attribute [local go_sem ↓] Go.wp_at_zero Go.wp_at_succ
theorem bx5 {w : World} {g : Nat} {T : TypeId} {u0 u1 u2 u3 u4 : Value} (h : Blk w g T #[u0, u1, u2, u3, u4]) : w.cell? ⟨g, 0, none⟩ = some u0 ∧ w.cell? ⟨g, 1, none⟩ = some u1 ∧ w.cell? ⟨g, 2, none⟩ = some u2 ∧ w.cell? ⟨g, 3, none⟩ = some u3 ∧ w.cell? ⟨g, 4, none⟩ = some u4 := by
  have h0 := h.cell_ 0
  have h1 := h.cell_ 1
  have h2 := h.cell_ 2
  have h3 := h.cell_ 3
  have h4 := h.cell_ 4
  simp at h0 h1 h2 h3 h4
  exact ⟨h0, h1, h2, h3, h4⟩
theorem nx_ne {w6 : World} {F F9 : FlK} {gL : Nat} (h : ∀ g, FlB F g → g < gL) (hNx : FlNx w6 F F9) (hD : F.dat = []) (hg : gL < w6.heap.size) : ∀ g, FlU F9 g → g < gL ∨ gL < g := by
  intro g hq
  rcases hq with hq | hq
  · rcases hNx.own g hq with q | q
    · exact Or.inl (h g q)
    · exact Or.inr (by omega)
  · rcases hNx.dat g hq with q | q
    · rw [hD] at q
      cases q
    · exact Or.inr (by omega)
theorem nx_low {w6 : World} {F F9 : FlK} {z : Nat} (h : ∀ g, FlB F g → z + 1 ≤ g) (hNx : FlNx w6 F F9) (hD : F.dat = []) (hz : z < w6.heap.size) : ∀ g, FlU F9 g → z + 1 ≤ g := by
  intro g hq
  rcases hq with hq | hq
  · rcases hNx.own g hq with q | q
    · exact h g q
    · omega
  · rcases hNx.dat g hq with q | q
    · rw [hD] at q
      cases q
    · omega
theorem asks_great (a b c d e : Int) (p : Int) (A : Option Addr) (n cA : Nat) (bs : List Nat) (w : World) (hx : 200 < n) (hm : n ≤ maxLen) : Calls Tryz.prog 6 #[.agg #[.int .i64 a, .int .i64 b, .int .i64 c, .int .i64 d, .int .i64 e], .int .i64 p, .slice A n cA] w fun e' w' => e' = .returned (.bool true) ∧ Below w.heap.size w w' := by
  have g1 : (200 : Int) < (n : Int) := by omega
  have HB0 : Below w.heap.size w (w.alloc (.cells #[.int .i64 a, .int .i64 b, .int .i64 c, .int .i64 d, .int .i64 e] 23)) := (Below.refl _ _).alloc (Nat.le_refl _) _
  have BG : Blk (w.alloc (.cells #[.int .i64 a, .int .i64 b, .int .i64 c, .int .i64 d, .int .i64 e] 23)) w.heap.size 23 #[.int .i64 a, .int .i64 b, .int .i64 c, .int .i64 d, .int .i64 e] := Blk.new_ _ _ _
  have y := bx5 BG
  obtain ⟨y0, y1, y2, y3, y4⟩ := y
  go_enter Tryz.func6, Tryz.ntmps6
  go_wp2_with ((go_at_call 12; go_loud (((with_reducible refine (awake14 _).mono ?_); rintro e' w99 ⟨rfl, b99⟩; skip))))
  go_ret
  exact ⟨rfl, btr HB0 HB0.size b99⟩
theorem asks_none (a b c d e : Int) (p : Int) (A : Option Addr) (n cA : Nat) (bs : List Nat) (w : World) (hx : n ≤ 200) (hm : mayB a b c d e = false) : Calls Tryz.prog 6 #[.agg #[.int .i64 a, .int .i64 b, .int .i64 c, .int .i64 d, .int .i64 e], .int .i64 p, .slice A n cA] w fun e' w' => e' = .returned (.bool true) ∧ Below w.heap.size w w' := by
  have g1 : ¬ (200 : Int) < (n : Int) := by omega
  have HB0 : Below w.heap.size w (w.alloc (.cells #[.int .i64 a, .int .i64 b, .int .i64 c, .int .i64 d, .int .i64 e] 23)) := (Below.refl _ _).alloc (Nat.le_refl _) _
  have BG : Blk (w.alloc (.cells #[.int .i64 a, .int .i64 b, .int .i64 c, .int .i64 d, .int .i64 e] 23)) w.heap.size 23 #[.int .i64 a, .int .i64 b, .int .i64 c, .int .i64 d, .int .i64 e] := Blk.new_ _ _ _
  have y := bx5 BG
  obtain ⟨y0, y1, y2, y3, y4⟩ := y
  go_enter Tryz.func6, Tryz.ntmps6
  go_wp2_with (first
    | (go_at_call 28; go_loud (((with_reducible refine (newN a b c d e _ hm).mono ?_); rintro e' w1 ⟨rfl, b1⟩; skip)))
    | (go_at_call 23; go_loud (((with_reducible refine (mountn_nil _).mono ?_); rintro e' w2 ⟨rfl, rfl⟩; skip)))
    | (go_at_call 12; go_loud (((with_reducible refine (awake14 _).mono ?_); rintro e' w99 ⟨rfl, b99⟩; skip))))
  go_ret
  exact ⟨rfl, btr (btr HB0 HB0.size b1) (btr HB0 HB0.size b1).size b99⟩
theorem asks_c1 (a b d e : Int) (cN NA NB NX L N : Nat) (A : Option Addr) (n cA : Nat) (bs : List Nat) (w : World) (hx : n ≤ 200) (hm : mayB a b (cN : Int) d e = true) (hA : (NA : Int) = a) (hBB : (NB : Int) = b) (hX : (NX : Int) = a * b * ((cN : Int) + 16)) (hL : logicalI a b d = (L : Int)) (hNN : (N : Int) = a * b) (hlen : bs.length = n) (hnil : A = none → bs.length = 0 ∧ cA = 0) (H1s : Sl w w.heap.size A (bs.map byteV)) (k : Nat) (hk : k < L) (hn2 : n = cN) : Calls Tryz.prog 6 #[.agg #[.int .i64 a, .int .i64 b, .int .i64 (cN : Int), .int .i64 d, .int .i64 e], .int .i64 (k : Int), .slice A n cA] w fun e' w' => e' = .returned (.bool true) ∧ Below w.heap.size w w' := by
  obtain ⟨ha1, ha2, hb1, hb2, hc1, hc2, -⟩ := may_bd hm
  have hc3 : 24 ≤ cN := by omega
  have hc4 : cN ≤ 64 := by omega
  have HAB : Hid (0 < a ∧ 0 < b) := Lib.hid ⟨by omega, by omega⟩
  have g1 : ¬ (200 : Int) < (n : Int) := by omega
  have HM := Lib.hid hm
  have HA := Lib.hid hA
  have HBB := Lib.hid hBB
  have HX := Lib.hid hX
  have HLG := Lib.hid hL
  have HNN := Lib.hid hNN
  have HN := Lib.hid hlen
  have HNIL := Lib.hid hnil
  have i0 : (0 : Int) ≤ (k : Int) := by omega
  have i1 : (k : Int) < (L : Int) := by omega
  obtain rfl := hn2
  clear hm hA hBB hX hL hNN hlen hnil ha1 ha2 hb1 hb2 hc1 hc2
  have HB0 : Below w.heap.size w (w.alloc (.cells #[.int .i64 a, .int .i64 b, .int .i64 (n : Int), .int .i64 d, .int .i64 e] 23)) := (Below.refl _ _).alloc (Nat.le_refl _) _
  have BG : Blk (w.alloc (.cells #[.int .i64 a, .int .i64 b, .int .i64 (n : Int), .int .i64 d, .int .i64 e] 23)) w.heap.size 23 #[.int .i64 a, .int .i64 b, .int .i64 (n : Int), .int .i64 d, .int .i64 e] := Blk.new_ _ _ _
  have y := bx5 BG
  obtain ⟨y0, y1, y2, y3, y4⟩ := y
  go_enter Tryz.func6, Tryz.ntmps6
  go_wp2_with (first
    | (go_at_call 28; go_loud (((with_reducible refine (newG a b (n : Int) d e NA NB NX _ HM.out HA.out HBB.out HX.out).mono ?_); rintro e' w1 ⟨⟨m, gx, gb, AF, cf, rfl, hC, hm1, hgx, hgb⟩, b1⟩; have H1 := btr HB0 HB0.size b1; have hlow : ∀ g, chB m gx gb g → w.heap.size ≤ g := lowC HB0.size hm1 hgx hgb; have BG1 := BG.below b1 BG.lt; have BGl := BG.lt)))
    | (go_at_call 23; go_loud (((with_reducible refine (mountG m gx gb AF cf a b (n : Int) d e NA NB NX L N _ hC HA.out HBB.out HLG.out HNN.out).mono ?_); rintro e' w2 ⟨⟨F, rfl, ⟨n1, hF, hg1⟩, ⟨rfl, rfl, rfl, rfl, hnf, rfl⟩, hO, hD⟩, hT2⟩; have H2 := H1.trans (hT2.below H1.size hlow); have hFO : ∀ g, FlB F g → w.heap.size + 1 ≤ g := (fun g h => (hO g h).elim (lowC (by simp) hm1 hgx hgb g) (fun q => Nat.le_trans (by have := BGl; have := b1.size; omega) q)); have hFO1 : ∀ g, FlB F g → w.heap.size ≤ g := (fun g h => Nat.le_of_succ_le (hFO g h)); have BG2 := hT2.blk BG1 (fun h => by have := lowC (z := w.heap.size + 1) (by simp) hm1 hgx hgb _ h; omega); have y := bx5 BG2; (obtain ⟨z0, z1, z2, z3, z4⟩ := y); (obtain ⟨s0, hs0⟩ : ∃ s : FlS, s = blankS ((ChS.new NX NA).at_ n1) L := ⟨_, rfl⟩); have HON : s0.ch.on = true := (by rw [hs0]; rfl); have HCU : s0.ch.cuts = s0.cuts := (by rw [hs0]; rfl); have HDG : s0.degr = false := (by rw [hs0]; rfl); have HFI : Fine s0.ch 1020 := (by rw [hs0]; exact hg1.fine); have HWL : s0.wt.length = L := (by rw [hs0]; exact List.length_replicate ..); have HHF := Lib.hid (show ∀ k, k < L → hasF s0 k = false from fun k hk => by rw [hs0]; exact has_blank _ L k hk); rw [← hs0] at hF; clear hs0; have HFX : Fine (s0.put k ⟨1, bs⟩).ch 1020 := HFI; have HOX : (s0.put k ⟨1, bs⟩).ch.on = true := HON)))
    | (go_at_call 18; go_loud (((with_reducible refine (logical_f F a b (n : Int) d e [] L N _ _ hF).mono ?_); rintro e' w3 ⟨rfl, rfl⟩; skip)))
    | (go_at_call 33; go_loud (((with_reducible refine (lend_n bs n HN.out A cA _ (H1s.next H2) (by omega) HNIL.out).mono ?_); rintro e' w4 ⟨⟨gL, rfl, hLT, hLO, hgL⟩, b4⟩; have H4 := btr H2 H2.size b4; have hF4 := hF.below b4; have z4s := b4.size; have hnL : ∀ g, FlB F g → g ≠ gL := (fun g h e => by have := hF.blt h; omega); have BG4 := BG2.below b4 BG2.lt)))
    | (go_at_call 34; go_loud (((with_reducible refine (rdf_none F a b (n : Int) d e [] L N _ k _ hF4 HON HCU hk (HHF.out k hk)).mono ?_); rintro e' w5 ⟨rfl, b5⟩; have H5 := btr H4 H4.size b5; have hF5 := hF4.below b5; have BG5 := BG4.below b5 BG4.lt)))
    | (go_at_call 32; go_loud (((with_reducible refine (trim_none F a b (n : Int) d e [] L N _ k _ hF5 HON HCU HDG hk (HHF.out k hk)).mono ?_); rintro e' w6 ⟨rfl, b6⟩; have H6 := btr H5 H5.size b6; have hF6 := hF5.below b6; have BG6 := BG5.below b6 BG5.lt; have hLT6 := (hLT.below b5 hLT.lt).below b6 (hLT.below b5 hLT.lt).lt; have hLO6 := own_tchS (own_tchS hLO (tch_bel (S := fun _ => False) b5) (fun _ _ h => h)) (tch_bel (S := fun _ => False) b6) (fun _ _ h => h))))
    | (go_at_call 16; go_loud (((with_reducible refine (write_n1 F a b d e [] L N n _ k gL (n + 3) bs HN.out _ hF6 HON HCU hk HDG hLT6).mono ?_); rintro e' w7 ⟨rfl, ⟨F9, hF7, hNx⟩, hT7⟩; have H7 := H6.trans (hT7.below H6.size hFO1); have hLT7 := lent_tch hLT6 hT7 (fun h => hnL _ h rfl); have hLO7 := own_tchS hLO6 hT7 (fun g hg h => by have := hF.blt h; omega); have hfm := hNx.fm; have hcm := hNx.m; have HCM := Lib.hid hcm; have hF9 := nx_ne (gL := gL) (fun g h => by have := hF.blt h; omega) hNx hD (by have := b5.size; have := b6.size; have := hLT.lt; omega); have hFO9 : ∀ g, FlB F9 g → w.heap.size ≤ g := (fun g h => (hNx.own g h).elim (hFO1 g) (fun q => Nat.le_trans H6.size q)); have hFU9 := nx_low hFO hNx hD BG6.lt; have BG7 := hT7.blk BG6 (fun h => by have := hFO _ h; omega); rw [← hfm]; rw [← hcm]; clear hfm hcm)))
    | (go_at_call 35; go_loud (((with_reducible refine (kept_n bs n HN.out gL A cA _ hLT7 (H1s.next H7) (by omega)).mono ?_); rintro e' w8 ⟨rfl, b8⟩; have H8 := btr H7 H7.size b8; have hF8 := hF7.below b8; have hLO8 := own_tchS hLO7 (tch_bel (S := fun _ => False) b8) (fun _ _ h => h); have BG8 := BG7.below b8 BG7.lt)))
    | (go_at_call 36; go_loud (((with_reducible refine (over_ownT n gL (n + 3) _ w2.heap.size _ hLO8 (by have := b4.size; have := b5.size; have := b6.size; have := hT7.size; have := b8.size; omega) (by omega)).mono ?_); rintro e' w9 ⟨⟨v9, rfl⟩, hgr9⟩; have T9 := grown_tch hgr9; have H9 := H8.trans (T9.below H8.size (fun g h => Nat.le_trans (Nat.le_trans H2.size hgL) (Nat.le_of_eq (Eq.symm h)))); have hFA := hF8.far T9 (fun g hg e => (hF9 g hg).elim (fun q => absurd e (Nat.ne_of_lt q)) (fun q => absurd e (Nat.ne_of_gt q))); have BG9 := T9.blk BG8 (fun h => by have := H2.size; have := BG2.lt; omega))))
    | (go_at_call 34; go_loud (((with_reducible refine (read_w1 F9 a b (n : Int) d e [] L N n s0 k bs HN.out _ hFA hk HWL HON HCU (by omega) (by omega)).mono ?_); rintro e' w10 ⟨⟨gD, cD, rfl, hRD, hgD, hoD⟩, b10⟩; have H10 := btr H9 H9.size b10; have hFB := hFA.below b10; have BG10 := BG9.below b10 BG9.lt; have hSD := hRD.slr)))
    | (go_at_call 37; go_loud (((with_reducible refine (same_n bs n HN.out (some ⟨gD, 0, none⟩) A cD cA _ hSD (H1s.next H10) (by omega)).mono ?_); rintro e' w11 ⟨rfl, b11⟩; have H11 := btr H10 H10.size b11; have hFC := hFB.below b11; have BG11 := BG10.below b11 BG10.lt; have hoD11 := own_tchS hoD (tch_bel (S := fun _ => False) b11) (fun _ _ h => h))))
    | (go_at_call 36; go_loud (((with_reducible refine (over_ownT n gD cD _ w9.heap.size _ hoD11 (Nat.le_trans b10.size b11.size) (by omega)).mono ?_); rintro e' w12 ⟨⟨v12, rfl⟩, hgr12⟩; have T12 := grown_tch hgr12; have H12 := H11.trans (T12.below H11.size (fun g h => Nat.le_trans (Nat.le_trans H9.size hgD) (Nat.le_of_eq (Eq.symm h)))); have hFD := hFC.far T12 (fun g hg e => absurd e (Nat.ne_of_lt (Nat.lt_of_lt_of_le (hFA.lt g hg) hgD))); have BG12 := T12.blk BG11 (fun h => by have := BG9.lt; omega))))
    | (go_at_call 34; go_loud (((with_reducible refine (read_w1 F9 a b (n : Int) d e [] L N n s0 k bs HN.out _ hFD hk HWL HON HCU (by omega) (by omega)).mono ?_); rintro e' w13 ⟨⟨gE, cE, rfl, hRE, hgE, hoE⟩, b13⟩; have H13 := btr H12 H12.size b13; have hFE := hFD.below b13; have BG13 := BG12.below b13 BG12.lt; have hSE := hRE.slr)))
    | (go_at_call 37; go_loud (((with_reducible refine (same_n bs n HN.out (some ⟨gE, 0, none⟩) A cE cA _ hSE (H1s.next H13) (by omega)).mono ?_); rintro e' w14 ⟨rfl, b14⟩; have H14 := btr H13 H13.size b14; have hFG := hFE.below b14; have BG14 := BG13.below b14 BG13.lt; have BGx := BG14; have Hx := H14; have hFx := hFG)))
    | (go_at_call 38; go_loud (((with_reducible refine (arm1 F9 a b (n : Int) d e [] L N _ 1020 _ hFx HFX (by omega) HOX).mono ?_); rintro e' w15 ⟨rfl, hF15, hT15⟩; have H15 := Hx.trans (hT15.below Hx.size hFO9); have BG15 := hT15.blk BGx (fun h => by have := hFU9 _ (Or.inl h); omega))))
    | (go_at_call 39; go_loud (((with_reducible refine (cread1 F9 a b (n : Int) d e [] L N _ 1020 _ hF15 (arm_fine HFX) (by omega)).mono ?_); rintro e' w16 ⟨⟨v16, x16, rfl⟩, hF16, hT16⟩; have H16 := H15.trans (hT16.below H15.size hFO9); have BG16 := hT16.blk BG15 (fun h => by have := hFU9 _ (Or.inl h); omega); have hof := cut_off (a := a) (b := b) HOX HAB.out.1 HAB.out.2)))
    | (go_at_call 34; go_loud (((with_reducible refine (rdf_off F9 a b (n : Int) d e [] L N _ 0 _ hF16 hof).mono ?_); rintro e' w17 ⟨rfl, b17⟩; have H17 := btr H16 H16.size b17; have hF17 := hF16.below b17; have BG17 := BG16.below b17 BG16.lt; have y := bx5 BG17; (obtain ⟨o0, o1, o2, o3, o4⟩ := y))))
    | (go_at_call 23; go_loud (((with_reducible refine (mount_off F9.m F9.gx F9.gb F9.Af F9.nf F9.cf a b (n : Int) d e [] _ _ hF17.chip hof).mono ?_); rintro e' w18 ⟨rfl, rfl⟩; skip)))
    | (go_at_call 19; go_loud (((with_reducible refine (data_1 n _ (by omega)).mono ?_); rintro e' w19 ⟨⟨gZ, rfl, hRZ, hgZ⟩, b19⟩; have H19 := btr H17 H17.size b19; have hF19 := hF17.below b19)))
    | (go_at_call 16; go_loud (((with_reducible refine (write_off F9 a b (n : Int) d e [] L N _ _ _ _ 0 _ hF19 hof).mono ?_); rintro e' w20 ⟨rfl, b20⟩; have H20 := btr H19 H19.size b20; have hF20 := hF19.below b20)))
    | (go_at_call 32; go_loud (((with_reducible refine (trim_off F9 a b (n : Int) d e [] L N _ 0 _ hF20 hof).mono ?_); rintro e' w21 ⟨rfl, b21⟩; have H21 := btr H20 H20.size b21; have hF21 := hF20.below b21)))
    | (go_at_call 20; go_loud (((with_reducible refine (flush_off F9 a b (n : Int) d e [] L N _ _ hF21 hof).mono ?_); rintro e' w22 ⟨rfl, b22⟩; have H22 := btr H21 H21.size b22)))
    | (go_at_call 12; go_loud (((with_reducible refine (awake14 _).mono ?_); rintro e' w99 ⟨rfl, b99⟩; have H99 := btr H22 H22.size b99))))
  go_ret
  exact ⟨rfl, H99⟩
theorem asks_c2 (a b d e : Int) (cN NA NB NX L N : Nat) (A : Option Addr) (n cA : Nat) (bs : List Nat) (w : World) (hx : n ≤ 200) (hm : mayB a b (cN : Int) d e = true) (hA : (NA : Int) = a) (hBB : (NB : Int) = b) (hX : (NX : Int) = a * b * ((cN : Int) + 16)) (hL : logicalI a b d = (L : Int)) (hNN : (N : Int) = a * b) (hlen : bs.length = n) (hnil : A = none → bs.length = 0 ∧ cA = 0) (H1s : Sl w w.heap.size A (bs.map byteV)) (k : Nat) (hk : k < L) (hn2 : n ≠ cN) : Calls Tryz.prog 6 #[.agg #[.int .i64 a, .int .i64 b, .int .i64 (cN : Int), .int .i64 d, .int .i64 e], .int .i64 (k : Int), .slice A n cA] w fun e' w' => e' = .returned (.bool true) ∧ Below w.heap.size w w' := by
  obtain ⟨ha1, ha2, hb1, hb2, hc1, hc2, -⟩ := may_bd hm
  have hc3 : 24 ≤ cN := by omega
  have hc4 : cN ≤ 64 := by omega
  have HAB : Hid (0 < a ∧ 0 < b) := Lib.hid ⟨by omega, by omega⟩
  have g1 : ¬ (200 : Int) < (n : Int) := by omega
  have HM := Lib.hid hm
  have HA := Lib.hid hA
  have HBB := Lib.hid hBB
  have HX := Lib.hid hX
  have HLG := Lib.hid hL
  have HNN := Lib.hid hNN
  have HN := Lib.hid hlen
  have HNIL := Lib.hid hnil
  have i0 : (0 : Int) ≤ (k : Int) := by omega
  have i1 : (k : Int) < (L : Int) := by omega
  have e0 : ((n : Int) != (cN : Int)) = true := by simp; omega
  have HARG : Hid (mayP L (k : Int) = false ∨ (n : Int) ≠ (cN : Int)) := Lib.hid (Or.inr (by omega))
  clear hn2
  clear hm hA hBB hX hL hNN hlen hnil ha1 ha2 hb1 hb2 hc1 hc2
  have HB0 : Below w.heap.size w (w.alloc (.cells #[.int .i64 a, .int .i64 b, .int .i64 (cN : Int), .int .i64 d, .int .i64 e] 23)) := (Below.refl _ _).alloc (Nat.le_refl _) _
  have BG : Blk (w.alloc (.cells #[.int .i64 a, .int .i64 b, .int .i64 (cN : Int), .int .i64 d, .int .i64 e] 23)) w.heap.size 23 #[.int .i64 a, .int .i64 b, .int .i64 (cN : Int), .int .i64 d, .int .i64 e] := Blk.new_ _ _ _
  have y := bx5 BG
  obtain ⟨y0, y1, y2, y3, y4⟩ := y
  go_enter Tryz.func6, Tryz.ntmps6
  go_wp2_with (first
    | (go_at_call 28; go_loud (((with_reducible refine (newG a b (cN : Int) d e NA NB NX _ HM.out HA.out HBB.out HX.out).mono ?_); rintro e' w1 ⟨⟨m, gx, gb, AF, cf, rfl, hC, hm1, hgx, hgb⟩, b1⟩; have H1 := btr HB0 HB0.size b1; have hlow : ∀ g, chB m gx gb g → w.heap.size ≤ g := lowC HB0.size hm1 hgx hgb; have BG1 := BG.below b1 BG.lt; have BGl := BG.lt)))
    | (go_at_call 23; go_loud (((with_reducible refine (mountG m gx gb AF cf a b (cN : Int) d e NA NB NX L N _ hC HA.out HBB.out HLG.out HNN.out).mono ?_); rintro e' w2 ⟨⟨F, rfl, ⟨n1, hF, hg1⟩, ⟨rfl, rfl, rfl, rfl, hnf, rfl⟩, hO, hD⟩, hT2⟩; have H2 := H1.trans (hT2.below H1.size hlow); have hFO : ∀ g, FlB F g → w.heap.size + 1 ≤ g := (fun g h => (hO g h).elim (lowC (by simp) hm1 hgx hgb g) (fun q => Nat.le_trans (by have := BGl; have := b1.size; omega) q)); have hFO1 : ∀ g, FlB F g → w.heap.size ≤ g := (fun g h => Nat.le_of_succ_le (hFO g h)); have BG2 := hT2.blk BG1 (fun h => by have := lowC (z := w.heap.size + 1) (by simp) hm1 hgx hgb _ h; omega); have y := bx5 BG2; (obtain ⟨z0, z1, z2, z3, z4⟩ := y); (obtain ⟨s0, hs0⟩ : ∃ s : FlS, s = blankS ((ChS.new NX NA).at_ n1) L := ⟨_, rfl⟩); have HON : s0.ch.on = true := (by rw [hs0]; rfl); have HCU : s0.ch.cuts = s0.cuts := (by rw [hs0]; rfl); have HDG : s0.degr = false := (by rw [hs0]; rfl); have HFI : Fine s0.ch 1020 := (by rw [hs0]; exact hg1.fine); have HWL : s0.wt.length = L := (by rw [hs0]; exact List.length_replicate ..); have HHF := Lib.hid (show ∀ k, k < L → hasF s0 k = false from fun k hk => by rw [hs0]; exact has_blank _ L k hk); rw [← hs0] at hF; clear hs0; have HFX := HFI; have HOX := HON)))
    | (go_at_call 18; go_loud (((with_reducible refine (logical_f F a b (cN : Int) d e [] L N _ _ hF).mono ?_); rintro e' w3 ⟨rfl, rfl⟩; skip)))
    | (go_at_call 33; go_loud (((with_reducible refine (lend_n bs n HN.out A cA _ (H1s.next H2) (by omega) HNIL.out).mono ?_); rintro e' w4 ⟨⟨gL, rfl, hLT, hLO, hgL⟩, b4⟩; have H4 := btr H2 H2.size b4; have hF4 := hF.below b4; have z4s := b4.size; have hnL : ∀ g, FlB F g → g ≠ gL := (fun g h e => by have := hF.blt h; omega); have BG4 := BG2.below b4 BG2.lt)))
    | (go_at_call 34; go_loud (((with_reducible refine (rdf_none F a b (cN : Int) d e [] L N _ k _ hF4 HON HCU hk (HHF.out k hk)).mono ?_); rintro e' w5 ⟨rfl, b5⟩; have H5 := btr H4 H4.size b5; have hF5 := hF4.below b5; have BG5 := BG4.below b5 BG4.lt)))
    | (go_at_call 32; go_loud (((with_reducible refine (trim_none F a b (cN : Int) d e [] L N _ k _ hF5 HON HCU HDG hk (HHF.out k hk)).mono ?_); rintro e' w6 ⟨rfl, b6⟩; have H6 := btr H5 H5.size b6; have hF6 := hF5.below b6; have BG6 := BG5.below b6 BG5.lt; have hLT6 := (hLT.below b5 hLT.lt).below b6 (hLT.below b5 hLT.lt).lt; have hLO6 := own_tchS (own_tchS hLO (tch_bel (S := fun _ => False) b5) (fun _ _ h => h)) (tch_bel (S := fun _ => False) b6) (fun _ _ h => h))))
    | (go_at_call 16; go_loud (((with_reducible refine (write_arg F a b (cN : Int) d e [] L N _ (some ⟨gL, 0, none⟩) n (n + 3) (k : Int) _ hF6 HON HCU (by unfold maxLen; omega) HARG.out).mono ?_); rintro e' w7 ⟨rfl, b7⟩; have H7 := btr H6 H6.size b7; have hF7 := hF6.below b7; have hLT7 := hLT6.below b7 hLT6.lt; have hLO7 := own_tchS hLO6 (tch_bel (S := fun _ => False) b7) (fun _ _ h => h); have BG7 := BG6.below b7 BG6.lt; have hF9 := nx_ne (gL := gL) (fun g h => by have := hF.blt h; omega) (FlNx.refl w4 F) hD hLT.lt)))
    | (go_at_call 35; go_loud (((with_reducible refine (kept_n bs n HN.out gL A cA _ hLT7 (H1s.next H7) (by omega)).mono ?_); rintro e' w8 ⟨rfl, b8⟩; have H8 := btr H7 H7.size b8; have hF8 := hF7.below b8; have hLO8 := own_tchS hLO7 (tch_bel (S := fun _ => False) b8) (fun _ _ h => h); have BG8 := BG7.below b8 BG7.lt)))
    | (go_at_call 36; go_loud (((with_reducible refine (over_ownT n gL (n + 3) _ w2.heap.size _ hLO8 (by have := b4.size; have := b5.size; have := b6.size; have := b7.size; have := b8.size; omega) (by omega)).mono ?_); rintro e' w9 ⟨⟨v9, rfl⟩, hgr9⟩; have T9 := grown_tch hgr9; have H9 := H8.trans (T9.below H8.size (fun g h => Nat.le_trans (Nat.le_trans H2.size hgL) (Nat.le_of_eq (Eq.symm h)))); have hFA := hF8.far T9 (fun g hg e => (hF9 g hg).elim (fun q => absurd e (Nat.ne_of_lt q)) (fun q => absurd e (Nat.ne_of_gt q))); have BG9 := T9.blk BG8 (fun h => by have := H2.size; have := BG2.lt; omega))))
    | (go_at_call 34; go_loud (((with_reducible refine (rdf_none F a b (cN : Int) d e [] L N _ k _ hFA HON HCU hk (HHF.out k hk)).mono ?_); rintro e' w10 ⟨rfl, b10⟩; have H10 := btr H9 H9.size b10; have hFB := hFA.below b10; have BG10 := BG9.below b10 BG9.lt)))
    | (go_at_call 36; go_loud (((with_reducible refine (over_nil 0 _).mono ?_); rintro e' w12 ⟨⟨v12, rfl⟩, b12⟩; have Hx := btr H10 H10.size b12; have hFx := hFB.below b12; have BGx := BG10.below b12 BG10.lt)))
    | (go_at_call 38; go_loud (((with_reducible refine (arm1 F a b (cN : Int) d e [] L N _ 1020 _ hFx HFX (by omega) HOX).mono ?_); rintro e' w15 ⟨rfl, hF15, hT15⟩; have H15 := Hx.trans (hT15.below Hx.size hFO1); have BG15 := hT15.blk BGx (fun h => by have := hFO _ h; omega))))
    | (go_at_call 39; go_loud (((with_reducible refine (cread1 F a b (cN : Int) d e [] L N _ 1020 _ hF15 (arm_fine HFX) (by omega)).mono ?_); rintro e' w16 ⟨⟨v16, x16, rfl⟩, hF16, hT16⟩; have H16 := H15.trans (hT16.below H15.size hFO1); have BG16 := hT16.blk BG15 (fun h => by have := hFO _ h; omega); have hof := cut_off (a := a) (b := b) HOX HAB.out.1 HAB.out.2)))
    | (go_at_call 34; go_loud (((with_reducible refine (rdf_off F a b (cN : Int) d e [] L N _ 0 _ hF16 hof).mono ?_); rintro e' w17 ⟨rfl, b17⟩; have H17 := btr H16 H16.size b17; have hF17 := hF16.below b17; have BG17 := BG16.below b17 BG16.lt; have y := bx5 BG17; (obtain ⟨o0, o1, o2, o3, o4⟩ := y))))
    | (go_at_call 23; go_loud (((with_reducible refine (mount_off F.m F.gx F.gb F.Af F.nf F.cf a b (cN : Int) d e [] _ _ hF17.chip hof).mono ?_); rintro e' w18 ⟨rfl, rfl⟩; skip)))
    | (go_at_call 19; go_loud (((with_reducible refine (data_1 cN _ (by omega)).mono ?_); rintro e' w19 ⟨⟨gZ, rfl, hRZ, hgZ⟩, b19⟩; have H19 := btr H17 H17.size b19; have hF19 := hF17.below b19)))
    | (go_at_call 16; go_loud (((with_reducible refine (write_off F a b (cN : Int) d e [] L N _ _ _ _ 0 _ hF19 hof).mono ?_); rintro e' w20 ⟨rfl, b20⟩; have H20 := btr H19 H19.size b20; have hF20 := hF19.below b20)))
    | (go_at_call 32; go_loud (((with_reducible refine (trim_off F a b (cN : Int) d e [] L N _ 0 _ hF20 hof).mono ?_); rintro e' w21 ⟨rfl, b21⟩; have H21 := btr H20 H20.size b21; have hF21 := hF20.below b21)))
    | (go_at_call 20; go_loud (((with_reducible refine (flush_off F a b (cN : Int) d e [] L N _ _ hF21 hof).mono ?_); rintro e' w22 ⟨rfl, b22⟩; have H22 := btr H21 H21.size b22)))
    | (go_at_call 12; go_loud (((with_reducible refine (awake14 _).mono ?_); rintro e' w99 ⟨rfl, b99⟩; have H99 := btr H22 H22.size b99))))
  go_ret
  exact ⟨rfl, H99⟩
theorem asks_c3 (a b d e : Int) (cN NA NB NX L N : Nat) (p : Int) (A : Option Addr) (n cA : Nat) (bs : List Nat) (w : World) (hx : n ≤ 200) (hm : mayB a b (cN : Int) d e = true) (hA : (NA : Int) = a) (hBB : (NB : Int) = b) (hX : (NX : Int) = a * b * ((cN : Int) + 16)) (hL : logicalI a b d = (L : Int)) (hNN : (N : Int) = a * b) (hlen : bs.length = n) (hnil : A = none → bs.length = 0 ∧ cA = 0) (H1s : Sl w w.heap.size A (bs.map byteV)) (hP : mayP L p = false) : Calls Tryz.prog 6 #[.agg #[.int .i64 a, .int .i64 b, .int .i64 (cN : Int), .int .i64 d, .int .i64 e], .int .i64 p, .slice A n cA] w fun e' w' => e' = .returned (.bool true) ∧ Below w.heap.size w w' := by
  obtain ⟨ha1, ha2, hb1, hb2, hc1, hc2, -⟩ := may_bd hm
  have hc3 : 24 ≤ cN := by omega
  have hc4 : cN ≤ 64 := by omega
  have HAB : Hid (0 < a ∧ 0 < b) := Lib.hid ⟨by omega, by omega⟩
  have g1 : ¬ (200 : Int) < (n : Int) := by omega
  have HM := Lib.hid hm
  have HA := Lib.hid hA
  have HBB := Lib.hid hBB
  have HX := Lib.hid hX
  have HLG := Lib.hid hL
  have HNN := Lib.hid hNN
  have HN := Lib.hid hlen
  have HNIL := Lib.hid hnil
  have HP := Lib.hid hP
  have HARG : Hid (mayP L p = false ∨ (n : Int) ≠ (cN : Int)) := Lib.hid (Or.inl hP)
  have hpp : p < 0 ∨ (0 ≤ p ∧ ¬ p < (L : Int)) := by
    unfold mayP at hP
    simp only [Bool.and_eq_false_iff, decide_eq_false_iff_not] at hP
    omega
  clear hP
  clear hm hA hBB hX hL hNN hlen hnil ha1 ha2 hb1 hb2 hc1 hc2
  rcases hpp with i0 | ⟨i0, i1⟩
  · have i2 : ¬ (0 : Int) ≤ p := by omega
    have HB0 : Below w.heap.size w (w.alloc (.cells #[.int .i64 a, .int .i64 b, .int .i64 (cN : Int), .int .i64 d, .int .i64 e] 23)) := (Below.refl _ _).alloc (Nat.le_refl _) _
    have BG : Blk (w.alloc (.cells #[.int .i64 a, .int .i64 b, .int .i64 (cN : Int), .int .i64 d, .int .i64 e] 23)) w.heap.size 23 #[.int .i64 a, .int .i64 b, .int .i64 (cN : Int), .int .i64 d, .int .i64 e] := Blk.new_ _ _ _
    have y := bx5 BG
    obtain ⟨y0, y1, y2, y3, y4⟩ := y
    go_enter Tryz.func6, Tryz.ntmps6
    go_wp2_with (first
      | (go_at_call 28; go_loud (((with_reducible refine (newG a b (cN : Int) d e NA NB NX _ HM.out HA.out HBB.out HX.out).mono ?_); rintro e' w1 ⟨⟨m, gx, gb, AF, cf, rfl, hC, hm1, hgx, hgb⟩, b1⟩; have H1 := btr HB0 HB0.size b1; have hlow : ∀ g, chB m gx gb g → w.heap.size ≤ g := lowC HB0.size hm1 hgx hgb; have BG1 := BG.below b1 BG.lt; have BGl := BG.lt)))
      | (go_at_call 23; go_loud (((with_reducible refine (mountG m gx gb AF cf a b (cN : Int) d e NA NB NX L N _ hC HA.out HBB.out HLG.out HNN.out).mono ?_); rintro e' w2 ⟨⟨F, rfl, ⟨n1, hF, hg1⟩, ⟨rfl, rfl, rfl, rfl, hnf, rfl⟩, hO, hD⟩, hT2⟩; have H2 := H1.trans (hT2.below H1.size hlow); have hFO : ∀ g, FlB F g → w.heap.size + 1 ≤ g := (fun g h => (hO g h).elim (lowC (by simp) hm1 hgx hgb g) (fun q => Nat.le_trans (by have := BGl; have := b1.size; omega) q)); have hFO1 : ∀ g, FlB F g → w.heap.size ≤ g := (fun g h => Nat.le_of_succ_le (hFO g h)); have BG2 := hT2.blk BG1 (fun h => by have := lowC (z := w.heap.size + 1) (by simp) hm1 hgx hgb _ h; omega); have y := bx5 BG2; (obtain ⟨z0, z1, z2, z3, z4⟩ := y); (obtain ⟨s0, hs0⟩ : ∃ s : FlS, s = blankS ((ChS.new NX NA).at_ n1) L := ⟨_, rfl⟩); have HON : s0.ch.on = true := (by rw [hs0]; rfl); have HCU : s0.ch.cuts = s0.cuts := (by rw [hs0]; rfl); have HDG : s0.degr = false := (by rw [hs0]; rfl); have HFI : Fine s0.ch 1020 := (by rw [hs0]; exact hg1.fine); have HWL : s0.wt.length = L := (by rw [hs0]; exact List.length_replicate ..); have HHF := Lib.hid (show ∀ k, k < L → hasF s0 k = false from fun k hk => by rw [hs0]; exact has_blank _ L k hk); rw [← hs0] at hF; clear hs0; have HFX := HFI; have HOX := HON)))
      | (go_at_call 18; go_loud (((with_reducible refine (logical_f F a b (cN : Int) d e [] L N _ _ hF).mono ?_); rintro e' w3 ⟨rfl, rfl⟩; skip)))
      | (go_at_call 33; go_loud (((with_reducible refine (lend_n bs n HN.out A cA _ (H1s.next H2) (by omega) HNIL.out).mono ?_); rintro e' w4 ⟨⟨gL, rfl, hLT, hLO, hgL⟩, b4⟩; have H4 := btr H2 H2.size b4; have hF4 := hF.below b4; have z4s := b4.size; have hnL : ∀ g, FlB F g → g ≠ gL := (fun g h e => by have := hF.blt h; omega); have BG4 := BG2.below b4 BG2.lt)))
      | (go_at_call 34; go_loud (((with_reducible refine (rdf_arg F a b (cN : Int) d e [] L N _ p _ hF4 HON HCU HP.out).mono ?_); rintro e' w5 ⟨rfl, b5⟩; have H5 := btr H4 H4.size b5; have hF5 := hF4.below b5; have BG5 := BG4.below b5 BG4.lt)))
      | (go_at_call 32; go_loud (((with_reducible refine (trim_arg F a b (cN : Int) d e [] L N _ p _ hF5 HON HCU HP.out).mono ?_); rintro e' w6 ⟨rfl, b6⟩; have H6 := btr H5 H5.size b6; have hF6 := hF5.below b6; have BG6 := BG5.below b6 BG5.lt; have hLT6 := (hLT.below b5 hLT.lt).below b6 (hLT.below b5 hLT.lt).lt; have hLO6 := own_tchS (own_tchS hLO (tch_bel (S := fun _ => False) b5) (fun _ _ h => h)) (tch_bel (S := fun _ => False) b6) (fun _ _ h => h))))
      | (go_at_call 16; go_loud (((with_reducible refine (write_arg F a b (cN : Int) d e [] L N _ (some ⟨gL, 0, none⟩) n (n + 3) p _ hF6 HON HCU (by unfold maxLen; omega) HARG.out).mono ?_); rintro e' w7 ⟨rfl, b7⟩; have H7 := btr H6 H6.size b7; have hF7 := hF6.below b7; have hLT7 := hLT6.below b7 hLT6.lt; have hLO7 := own_tchS hLO6 (tch_bel (S := fun _ => False) b7) (fun _ _ h => h); have BG7 := BG6.below b7 BG6.lt; have hF9 := nx_ne (gL := gL) (fun g h => by have := hF.blt h; omega) (FlNx.refl w4 F) hD hLT.lt)))
      | (go_at_call 35; go_loud (((with_reducible refine (kept_n bs n HN.out gL A cA _ hLT7 (H1s.next H7) (by omega)).mono ?_); rintro e' w8 ⟨rfl, b8⟩; have H8 := btr H7 H7.size b8; have hF8 := hF7.below b8; have hLO8 := own_tchS hLO7 (tch_bel (S := fun _ => False) b8) (fun _ _ h => h); have BG8 := BG7.below b8 BG7.lt)))
      | (go_at_call 36; go_loud (((with_reducible refine (over_ownT n gL (n + 3) _ w2.heap.size _ hLO8 (by have := b4.size; have := b5.size; have := b6.size; have := b7.size; have := b8.size; omega) (by omega)).mono ?_); rintro e' w9 ⟨⟨v9, rfl⟩, hgr9⟩; have T9 := grown_tch hgr9; have H9 := H8.trans (T9.below H8.size (fun g h => Nat.le_trans (Nat.le_trans H2.size hgL) (Nat.le_of_eq (Eq.symm h)))); have hFA := hF8.far T9 (fun g hg e => (hF9 g hg).elim (fun q => absurd e (Nat.ne_of_lt q)) (fun q => absurd e (Nat.ne_of_gt q))); have BG9 := T9.blk BG8 (fun h => by have := H2.size; have := BG2.lt; omega))))
      | (go_at_call 34; go_loud (((with_reducible refine (rdf_arg F a b (cN : Int) d e [] L N _ p _ hFA HON HCU HP.out).mono ?_); rintro e' w10 ⟨rfl, b10⟩; have H10 := btr H9 H9.size b10; have hFB := hFA.below b10; have BG10 := BG9.below b10 BG9.lt)))
      | (go_at_call 36; go_loud (((with_reducible refine (over_nil 0 _).mono ?_); rintro e' w12 ⟨⟨v12, rfl⟩, b12⟩; have Hx := btr H10 H10.size b12; have hFx := hFB.below b12; have BGx := BG10.below b12 BG10.lt)))
      | (go_at_call 38; go_loud (((with_reducible refine (arm1 F a b (cN : Int) d e [] L N _ 1020 _ hFx HFX (by omega) HOX).mono ?_); rintro e' w15 ⟨rfl, hF15, hT15⟩; have H15 := Hx.trans (hT15.below Hx.size hFO1); have BG15 := hT15.blk BGx (fun h => by have := hFO _ h; omega))))
      | (go_at_call 39; go_loud (((with_reducible refine (cread1 F a b (cN : Int) d e [] L N _ 1020 _ hF15 (arm_fine HFX) (by omega)).mono ?_); rintro e' w16 ⟨⟨v16, x16, rfl⟩, hF16, hT16⟩; have H16 := H15.trans (hT16.below H15.size hFO1); have BG16 := hT16.blk BG15 (fun h => by have := hFO _ h; omega); have hof := cut_off (a := a) (b := b) HOX HAB.out.1 HAB.out.2)))
      | (go_at_call 34; go_loud (((with_reducible refine (rdf_off F a b (cN : Int) d e [] L N _ 0 _ hF16 hof).mono ?_); rintro e' w17 ⟨rfl, b17⟩; have H17 := btr H16 H16.size b17; have hF17 := hF16.below b17; have BG17 := BG16.below b17 BG16.lt; have y := bx5 BG17; (obtain ⟨o0, o1, o2, o3, o4⟩ := y))))
      | (go_at_call 23; go_loud (((with_reducible refine (mount_off F.m F.gx F.gb F.Af F.nf F.cf a b (cN : Int) d e [] _ _ hF17.chip hof).mono ?_); rintro e' w18 ⟨rfl, rfl⟩; skip)))
      | (go_at_call 19; go_loud (((with_reducible refine (data_1 cN _ (by omega)).mono ?_); rintro e' w19 ⟨⟨gZ, rfl, hRZ, hgZ⟩, b19⟩; have H19 := btr H17 H17.size b19; have hF19 := hF17.below b19)))
      | (go_at_call 16; go_loud (((with_reducible refine (write_off F a b (cN : Int) d e [] L N _ _ _ _ 0 _ hF19 hof).mono ?_); rintro e' w20 ⟨rfl, b20⟩; have H20 := btr H19 H19.size b20; have hF20 := hF19.below b20)))
      | (go_at_call 32; go_loud (((with_reducible refine (trim_off F a b (cN : Int) d e [] L N _ 0 _ hF20 hof).mono ?_); rintro e' w21 ⟨rfl, b21⟩; have H21 := btr H20 H20.size b21; have hF21 := hF20.below b21)))
      | (go_at_call 20; go_loud (((with_reducible refine (flush_off F a b (cN : Int) d e [] L N _ _ hF21 hof).mono ?_); rintro e' w22 ⟨rfl, b22⟩; have H22 := btr H21 H21.size b22)))
      | (go_at_call 12; go_loud (((with_reducible refine (awake14 _).mono ?_); rintro e' w99 ⟨rfl, b99⟩; have H99 := btr H22 H22.size b99))))
    go_ret
    exact ⟨rfl, H99⟩
  · skip
    have HB0 : Below w.heap.size w (w.alloc (.cells #[.int .i64 a, .int .i64 b, .int .i64 (cN : Int), .int .i64 d, .int .i64 e] 23)) := (Below.refl _ _).alloc (Nat.le_refl _) _
    have BG : Blk (w.alloc (.cells #[.int .i64 a, .int .i64 b, .int .i64 (cN : Int), .int .i64 d, .int .i64 e] 23)) w.heap.size 23 #[.int .i64 a, .int .i64 b, .int .i64 (cN : Int), .int .i64 d, .int .i64 e] := Blk.new_ _ _ _
    have y := bx5 BG
    obtain ⟨y0, y1, y2, y3, y4⟩ := y
    go_enter Tryz.func6, Tryz.ntmps6
    go_wp2_with (first
      | (go_at_call 28; go_loud (((with_reducible refine (newG a b (cN : Int) d e NA NB NX _ HM.out HA.out HBB.out HX.out).mono ?_); rintro e' w1 ⟨⟨m, gx, gb, AF, cf, rfl, hC, hm1, hgx, hgb⟩, b1⟩; have H1 := btr HB0 HB0.size b1; have hlow : ∀ g, chB m gx gb g → w.heap.size ≤ g := lowC HB0.size hm1 hgx hgb; have BG1 := BG.below b1 BG.lt; have BGl := BG.lt)))
      | (go_at_call 23; go_loud (((with_reducible refine (mountG m gx gb AF cf a b (cN : Int) d e NA NB NX L N _ hC HA.out HBB.out HLG.out HNN.out).mono ?_); rintro e' w2 ⟨⟨F, rfl, ⟨n1, hF, hg1⟩, ⟨rfl, rfl, rfl, rfl, hnf, rfl⟩, hO, hD⟩, hT2⟩; have H2 := H1.trans (hT2.below H1.size hlow); have hFO : ∀ g, FlB F g → w.heap.size + 1 ≤ g := (fun g h => (hO g h).elim (lowC (by simp) hm1 hgx hgb g) (fun q => Nat.le_trans (by have := BGl; have := b1.size; omega) q)); have hFO1 : ∀ g, FlB F g → w.heap.size ≤ g := (fun g h => Nat.le_of_succ_le (hFO g h)); have BG2 := hT2.blk BG1 (fun h => by have := lowC (z := w.heap.size + 1) (by simp) hm1 hgx hgb _ h; omega); have y := bx5 BG2; (obtain ⟨z0, z1, z2, z3, z4⟩ := y); (obtain ⟨s0, hs0⟩ : ∃ s : FlS, s = blankS ((ChS.new NX NA).at_ n1) L := ⟨_, rfl⟩); have HON : s0.ch.on = true := (by rw [hs0]; rfl); have HCU : s0.ch.cuts = s0.cuts := (by rw [hs0]; rfl); have HDG : s0.degr = false := (by rw [hs0]; rfl); have HFI : Fine s0.ch 1020 := (by rw [hs0]; exact hg1.fine); have HWL : s0.wt.length = L := (by rw [hs0]; exact List.length_replicate ..); have HHF := Lib.hid (show ∀ k, k < L → hasF s0 k = false from fun k hk => by rw [hs0]; exact has_blank _ L k hk); rw [← hs0] at hF; clear hs0; have HFX := HFI; have HOX := HON)))
      | (go_at_call 18; go_loud (((with_reducible refine (logical_f F a b (cN : Int) d e [] L N _ _ hF).mono ?_); rintro e' w3 ⟨rfl, rfl⟩; skip)))
      | (go_at_call 33; go_loud (((with_reducible refine (lend_n bs n HN.out A cA _ (H1s.next H2) (by omega) HNIL.out).mono ?_); rintro e' w4 ⟨⟨gL, rfl, hLT, hLO, hgL⟩, b4⟩; have H4 := btr H2 H2.size b4; have hF4 := hF.below b4; have z4s := b4.size; have hnL : ∀ g, FlB F g → g ≠ gL := (fun g h e => by have := hF.blt h; omega); have BG4 := BG2.below b4 BG2.lt)))
      | (go_at_call 34; go_loud (((with_reducible refine (rdf_arg F a b (cN : Int) d e [] L N _ p _ hF4 HON HCU HP.out).mono ?_); rintro e' w5 ⟨rfl, b5⟩; have H5 := btr H4 H4.size b5; have hF5 := hF4.below b5; have BG5 := BG4.below b5 BG4.lt)))
      | (go_at_call 32; go_loud (((with_reducible refine (trim_arg F a b (cN : Int) d e [] L N _ p _ hF5 HON HCU HP.out).mono ?_); rintro e' w6 ⟨rfl, b6⟩; have H6 := btr H5 H5.size b6; have hF6 := hF5.below b6; have BG6 := BG5.below b6 BG5.lt; have hLT6 := (hLT.below b5 hLT.lt).below b6 (hLT.below b5 hLT.lt).lt; have hLO6 := own_tchS (own_tchS hLO (tch_bel (S := fun _ => False) b5) (fun _ _ h => h)) (tch_bel (S := fun _ => False) b6) (fun _ _ h => h))))
      | (go_at_call 16; go_loud (((with_reducible refine (write_arg F a b (cN : Int) d e [] L N _ (some ⟨gL, 0, none⟩) n (n + 3) p _ hF6 HON HCU (by unfold maxLen; omega) HARG.out).mono ?_); rintro e' w7 ⟨rfl, b7⟩; have H7 := btr H6 H6.size b7; have hF7 := hF6.below b7; have hLT7 := hLT6.below b7 hLT6.lt; have hLO7 := own_tchS hLO6 (tch_bel (S := fun _ => False) b7) (fun _ _ h => h); have BG7 := BG6.below b7 BG6.lt; have hF9 := nx_ne (gL := gL) (fun g h => by have := hF.blt h; omega) (FlNx.refl w4 F) hD hLT.lt)))
      | (go_at_call 35; go_loud (((with_reducible refine (kept_n bs n HN.out gL A cA _ hLT7 (H1s.next H7) (by omega)).mono ?_); rintro e' w8 ⟨rfl, b8⟩; have H8 := btr H7 H7.size b8; have hF8 := hF7.below b8; have hLO8 := own_tchS hLO7 (tch_bel (S := fun _ => False) b8) (fun _ _ h => h); have BG8 := BG7.below b8 BG7.lt)))
      | (go_at_call 36; go_loud (((with_reducible refine (over_ownT n gL (n + 3) _ w2.heap.size _ hLO8 (by have := b4.size; have := b5.size; have := b6.size; have := b7.size; have := b8.size; omega) (by omega)).mono ?_); rintro e' w9 ⟨⟨v9, rfl⟩, hgr9⟩; have T9 := grown_tch hgr9; have H9 := H8.trans (T9.below H8.size (fun g h => Nat.le_trans (Nat.le_trans H2.size hgL) (Nat.le_of_eq (Eq.symm h)))); have hFA := hF8.far T9 (fun g hg e => (hF9 g hg).elim (fun q => absurd e (Nat.ne_of_lt q)) (fun q => absurd e (Nat.ne_of_gt q))); have BG9 := T9.blk BG8 (fun h => by have := H2.size; have := BG2.lt; omega))))
      | (go_at_call 34; go_loud (((with_reducible refine (rdf_arg F a b (cN : Int) d e [] L N _ p _ hFA HON HCU HP.out).mono ?_); rintro e' w10 ⟨rfl, b10⟩; have H10 := btr H9 H9.size b10; have hFB := hFA.below b10; have BG10 := BG9.below b10 BG9.lt)))
      | (go_at_call 36; go_loud (((with_reducible refine (over_nil 0 _).mono ?_); rintro e' w12 ⟨⟨v12, rfl⟩, b12⟩; have Hx := btr H10 H10.size b12; have hFx := hFB.below b12; have BGx := BG10.below b12 BG10.lt)))
      | (go_at_call 38; go_loud (((with_reducible refine (arm1 F a b (cN : Int) d e [] L N _ 1020 _ hFx HFX (by omega) HOX).mono ?_); rintro e' w15 ⟨rfl, hF15, hT15⟩; have H15 := Hx.trans (hT15.below Hx.size hFO1); have BG15 := hT15.blk BGx (fun h => by have := hFO _ h; omega))))
      | (go_at_call 39; go_loud (((with_reducible refine (cread1 F a b (cN : Int) d e [] L N _ 1020 _ hF15 (arm_fine HFX) (by omega)).mono ?_); rintro e' w16 ⟨⟨v16, x16, rfl⟩, hF16, hT16⟩; have H16 := H15.trans (hT16.below H15.size hFO1); have BG16 := hT16.blk BG15 (fun h => by have := hFO _ h; omega); have hof := cut_off (a := a) (b := b) HOX HAB.out.1 HAB.out.2)))
      | (go_at_call 34; go_loud (((with_reducible refine (rdf_off F a b (cN : Int) d e [] L N _ 0 _ hF16 hof).mono ?_); rintro e' w17 ⟨rfl, b17⟩; have H17 := btr H16 H16.size b17; have hF17 := hF16.below b17; have BG17 := BG16.below b17 BG16.lt; have y := bx5 BG17; (obtain ⟨o0, o1, o2, o3, o4⟩ := y))))
      | (go_at_call 23; go_loud (((with_reducible refine (mount_off F.m F.gx F.gb F.Af F.nf F.cf a b (cN : Int) d e [] _ _ hF17.chip hof).mono ?_); rintro e' w18 ⟨rfl, rfl⟩; skip)))
      | (go_at_call 19; go_loud (((with_reducible refine (data_1 cN _ (by omega)).mono ?_); rintro e' w19 ⟨⟨gZ, rfl, hRZ, hgZ⟩, b19⟩; have H19 := btr H17 H17.size b19; have hF19 := hF17.below b19)))
      | (go_at_call 16; go_loud (((with_reducible refine (write_off F a b (cN : Int) d e [] L N _ _ _ _ 0 _ hF19 hof).mono ?_); rintro e' w20 ⟨rfl, b20⟩; have H20 := btr H19 H19.size b20; have hF20 := hF19.below b20)))
      | (go_at_call 32; go_loud (((with_reducible refine (trim_off F a b (cN : Int) d e [] L N _ 0 _ hF20 hof).mono ?_); rintro e' w21 ⟨rfl, b21⟩; have H21 := btr H20 H20.size b21; have hF21 := hF20.below b21)))
      | (go_at_call 20; go_loud (((with_reducible refine (flush_off F a b (cN : Int) d e [] L N _ _ hF21 hof).mono ?_); rintro e' w22 ⟨rfl, b22⟩; have H22 := btr H21 H21.size b22)))
      | (go_at_call 12; go_loud (((with_reducible refine (awake14 _).mono ?_); rintro e' w99 ⟨rfl, b99⟩; have H99 := btr H22 H22.size b99))))
    go_ret
    exact ⟨rfl, H99⟩
end Go.Proofs.YtkpcohfdcilfcaaGreat
namespace Go.Proofs.YtkpcohfdcilfcaaGreat
open Go.ChangeShapes Go.WideShapes Go.ChangeAt Go.RowKit
attribute [local go_sem ↓] Go.wp_at_zero Go.wp_at_succ
theorem asks_walk (a b c d e : Int) (p : Int) (A : Option Addr) (n cA : Nat) (bs : List Nat) (w : World) (_ : i64in a ∧ i64in b ∧ i64in c ∧ i64in d ∧ i64in e) (_ : i64in p) (r : SlA w A n cA (bs.map byteV)) (_ : Bytes8 bs) :
    Calls Tryz.prog 6 #[.agg #[.int .i64 a, .int .i64 b, .int .i64 c, .int .i64 d, .int .i64 e], .int .i64 p, .slice A n cA] w fun e' w' => e' = .returned (.bool true) ∧ Below w.heap.size w w' := by
  obtain ⟨e1, h1, k1, k1p, hnil⟩ := r
  rw [List.length_map] at e1
  by_cases hx : 200 < n
  · exact asks_great a b c d e p A n cA bs w hx (by omega)
  · cases hm : mayB a b c d e with
    | false => exact asks_none a b c d e p A n cA bs w (by omega) hm
    | true =>
      obtain ⟨ha1, ha2, hb1, hb2, hc1, hc2, hd1, hd2, -⟩ := may_bd hm
      have h9 := (may_bd hm).2.2.2.2.2.2.2.2.2.2
      obtain ⟨cN, rfl⟩ : ∃ k : Nat, c = (k : Int) := ⟨c.toNat, by omega⟩
      obtain ⟨NA, hA⟩ : ∃ k : Nat, (k : Int) = a := ⟨a.toNat, by omega⟩
      obtain ⟨NB, hB⟩ : ∃ k : Nat, (k : Int) = b := ⟨b.toNat, by omega⟩
      have p1 : 0 ≤ a * b := Int.mul_nonneg (by omega) (by omega)
      have p2 : 0 ≤ a * b * ((cN : Int) + 16) := Int.mul_nonneg p1 (by omega)
      obtain ⟨NX, hX⟩ : ∃ k : Nat, (k : Int) = a * b * ((cN : Int) + 16) := ⟨_, Int.toNat_of_nonneg p2⟩
      obtain ⟨N, hN⟩ : ∃ k : Nat, (k : Int) = a * b := ⟨_, Int.toNat_of_nonneg p1⟩
      obtain ⟨L, hL⟩ : ∃ k : Nat, logicalI a b d = (k : Int) := ⟨(logicalI a b d).toNat, by
        have := prod_bd (x := a - d - 3) (b := b) (by omega) (by omega) hb1 hb2
        unfold logicalI at h9 ⊢
        omega⟩
      cases hP : mayP L p with
      | false => exact asks_c3 a b d e cN NA NB NX L N p A n cA bs w (by omega) hm hA hB hX hL hN e1.symm (by rw [← e1]; exact fun h => hnil h) h1 hP
      | true =>
        obtain ⟨k, rfl, hk⟩ := may_in hP
        by_cases hn2 : n = cN
        · exact asks_c1 a b d e cN NA NB NX L N A n cA bs w (by omega) hm hA hB hX hL hN e1.symm (by rw [← e1]; exact fun h => hnil h) h1 k hk hn2
        · exact asks_c2 a b d e cN NA NB NX L N A n cA bs w (by omega) hm hA hB hX hL hN e1.symm (by rw [← e1]; exact fun h => hnil h) h1 k hk hn2
end Go.Proofs.YtkpcohfdcilfcaaGreat
