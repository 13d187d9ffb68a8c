/- rank.All and rank.Live. -/
import Derived.Test.YtofeijlejljbdaaRkS
namespace Go.Proofs.Ytofeijlejljbdaa
open Go.ChangeShapes Go.WideShapes Go.ChangeAt Go.RowKit
set_option linter.unusedSimpArgs false
set_option linter.unusedVariables false

theorem own_sl {w : World} {base n : Nat} {e : TypeId} {v : Value} {zs : List Value} (h : w.ownsRow base e 1 v n zs) : ∃ A c, v = .slice A n c ∧ Sl w w.heap.size A zs ∧ n ≤ c ∧ c ≤ maxLen := by
  have h0 := h
  rcases h.2 with ⟨rfl, rfl⟩ | ⟨g, cap, cur, rfl, hb, hh, hnc, hcm, hsz, ht⟩
  · exact ⟨none, 0, rfl, Sl.of_own h0, Nat.le_refl _, by unfold maxLen; omega⟩
  · exact ⟨_, cap, rfl, Sl.of_own h0, hnc, hcm⟩
def liveOf (M : Int → Option Fd) (p : Int) : Option Fd := match M p with
  | some y => if y.k = 1 then some y else none
  | none => none
def allK (M : Int → Option Fd) (ks : List Int) : List Fd := ks.filterMap (liveOf M)
theorem allK_len (M : Int → Option Fd) (ks : List Int) : (allK M ks).length ≤ ks.length := List.length_filterMap_le _ _
theorem allK_take {M : Int → Option Fd} {ks : List Int} {k : Nat} {p : Int} (h : ks[k]? = some p) : allK M (ks.take (k + 1)) = allK M (ks.take k) ++ (liveOf M p).toList := by
  rw [take_next h]
  unfold allK
  rw [List.filterMap_append]
  congr 1
theorem liveOf_some {M : Int → Option Fd} {p : Int} {y : Fd} : liveOf M p = some y ↔ M p = some y ∧ y.k = 1 := by
  unfold liveOf
  cases hq : M p with
  | none => simp
  | some z =>
    dsimp only
    by_cases hk : z.k = 1
    · rw [if_pos hk]
      constructor
      · intro h
        cases h
        exact ⟨rfl, hk⟩
      · exact fun h => h.1
    · rw [if_neg hk]
      constructor
      · intro h
        cases h
      · rintro ⟨h, h2⟩
        cases h
        exact absurd h2 hk
theorem allK_isAll {fs : List Fd} {ks : List Int} (hk : ks.Pairwise (· < ·)) (hm : ∀ p, p ∈ ks ↔ (newestZ (lastZ fs) fs p).isSome = true) : IsAll fs (allK (newestZ (lastZ fs) fs) ks) := by
  constructor
  · unfold allK
    rw [List.pairwise_filterMap]
    refine hk.imp fun {a b} hab y hy z hz => ?_
    obtain ⟨h1, _⟩ := liveOf_some.1 hy
    obtain ⟨h2, _⟩ := liveOf_some.1 hz
    have := (newestZ_some h1).2.2.1
    have := (newestZ_some h2).2.2.1
    omega
  · intro x
    unfold allK
    rw [List.mem_filterMap]
    constructor
    · rintro ⟨p, _, h⟩
      obtain ⟨h1, h2⟩ := liveOf_some.1 h
      obtain rfl := (newestZ_some h1).2.2.1
      exact ⟨h1, h2⟩
    · rintro ⟨h1, h2⟩
      exact ⟨x.p, (hm _).2 (by rw [h1]; rfl), liveOf_some.2 ⟨h1, h2⟩⟩
set_option maxRecDepth 100000 in
set_option maxHeartbeats 4000000 in
theorem all_any (fs : List Fd) (A : Option Addr) (c : Nat) (w : World) (h : SlFd w w.heap.size A fs) (n1 : fs.length ≤ 1000000) (hok : ∀ x ∈ fs, FdOk x) : Calls Try.prog 11 #[.slice A fs.length c] w fun e' w' => (∃ v L, e' = .returned v ∧ RowFd w' w.heap.size v L ∧ Hid (IsAll fs L ∧ L.length ≤ fs.length)) ∧ Below w.heap.size w w' := by
  obtain ⟨M, hM⟩ : ∃ M, newestZ (lastZ fs) fs = M := ⟨_, rfl⟩
  have HM := Lib.hid hM
  go_enter Try.func11, Try.ntmps11
  go_wp2_with (first
    | (go_at_call 20; go_loud (((with_reducible refine (newest_any fs A c _ h n1 hok).mono ?_); rw [hM]; rintro e' w1 ⟨⟨g, rfl, hO, hgw⟩, hb1⟩)))
    | (go_at_call 22; go_loud (((with_reducible refine (keys_any g _).mono ?_); rintro e' wk ⟨rfl, rfl⟩)))
    | (go_at_call 21; go_loud (((with_reducible refine (sorted_any g fs.length _ _ hO (by omega)).mono ?_); rintro e' w2 ⟨vk, ks, rfl, HK, hrow, hb2⟩; obtain ⟨Ak, ck, rfl, hsl, hck, hcm⟩ := own_sl hrow))))
  have hz1 := hb1.size
  have hz2 := hb2.size
  have hB12 : Below w1.heap.size w1 w2 := ((Below.refl _ _).alloc (Nat.le_refl _) _).trans (hb2.mono (by simp))
  have HO2 := hO.below hB12
  have hBw2 := btr hb1 hz1 hB12
  have hkl := HK.out.2.2.1
  have hzz := hB12.size
  clear hrow hb2 hO hb1 hB12 hM
  go_loopw [3, 14] (fun s3 s14 wr => ∃ (k : Nat) (v : Value) (L : List Fd), k ≤ ks.length ∧ s14 = .int .i64 (k : Int) ∧ s3 = v ∧ Hid (allK M (ks.take k) = L) ∧ RowFd wr w2.heap.size v L ∧ L.length ≤ k ∧ Below w2.heap.size w2 wr) (fun _ s14 _ => ks.length - (iOf s14).toNat)
  case atStart => exact ⟨0, _, [], Nat.zero_le _, rfl, rfl, Lib.hid rfl, RowFd.nil_ _ _, Nat.le_refl _, Below.refl _ _⟩
  case round =>
    obtain ⟨k, v, L, hk, rfl, e3, HL, ho, hLk, hB⟩ := hrel
    have e3' := e3.symm
    subst e3'
    obtain ⟨A3, c3, hv3, -, -, -⟩ := ho.sl
    subst hv3
    by_cases hlt : k < ks.length
    · obtain ⟨p, hp⟩ : ∃ p, ks[k]? = some p := ⟨_, List.getElem?_eq_getElem hlt⟩
      obtain ⟨b1, o1, rfl, l1, q1⟩ := (hsl.below hB).at_ (by simpa using (by omega : 0 < ks.length))
      have x0 : wr.cell? ⟨b1, o1 + k, none⟩ = some (.int .i64 p) := q1 k _ (by simp [hp])
      have hpm : p ∈ ks := List.mem_of_getElem? hp
      have hpi := HK.out.2.2.2 p hpm
      obtain ⟨y, hy⟩ := Option.isSome_iff_exists.1 ((HK.out.2.1 p).1 hpm)
      have hst := allK_take (M := M) hp
      rw [HL.out] at hst
      have HOr := HO2.below hB
      have hsz := hB.size
      have l1' : b1 < wr.heap.size := by omega
      have i0 : (0 : Int) ≤ (k : Int) := by omega
      have i1 : (k : Int) < (ks.length : Int) := by omega
      have hBn : Below w2.heap.size w2 (wr.alloc (.cells #[.int .i64 y.b, .int .i64 y.g, .int .i64 y.k, .int .i64 y.p, .int .i64 y.s, .int .i64 y.e] 30)) := hB.alloc hB.size _
      have hon : RowFd (wr.alloc (.cells #[.int .i64 y.b, .int .i64 y.g, .int .i64 y.k, .int .i64 y.p, .int .i64 y.s, .int .i64 y.e] 30)) w2.heap.size (.slice A3 L.length c3) L := ho.below ((Below.refl _ _).alloc (Nat.le_refl _) _)
      have HY : Hid ((M p).getD zFd = y) := Lib.hid (by rw [hy]; rfl)
      clear q1 hp hpm
      by_cases k1 : y.k = 1
      · rw [liveOf_some.2 ⟨hy, k1⟩] at hst
        have HST : Hid (allK M (ks.take (k + 1)) = L ++ [y]) := Lib.hid hst
        have k1b : (y.k == 1) = true := by simpa using k1
        clear hst hy k1
        go_wp2_with (first
          | (at_lookup; go_loud (refine wpList_look _ rfl _ _ rfl g fs.length _ rfl HOr p rfl hpi y HY.out ?_))
          | (at_builtin; go_loud (obtain ⟨ti0, hi, hz0, hz1, hz2⟩ := info_parts infoFd; refine wpList_app _ rfl (.tmp 25) (.tmp 27) _ rfl w2.heap.size 30 ti0 _ 6 48 Try.underlying22 hi hz0 hz1 hz2 rfl (by decide) _ L.length (L.flatMap fCs) rfl (hon.below ((Below.refl _ _).alloc (Nat.le_refl _) _)) _ 1 _ (fCs y) rfl (rd_new _ y (by simp)) (flat_one1 y) (by unfold maxLen; omega) (by omega) (by simp; omega) ?_; intro v' w' ho' hg' hv'; clear hi hz0 hz1 hz2)))
        have hlt' := ho.lt
        go_roundw
        case rel => exact ⟨k + 1, v', L ++ [y], by omega, by go_num, rfl, HST, RowFd.snoc ho', by rw [List.length_append]; simp; omega, (hBn.alloc (by simp; omega) _).grown hg' (by simp; omega) (fun g hg => (hlt' g hg).1)⟩
        case measure => simp [iOf]; omega
      · have hln : liveOf M p = none := by
          cases hq : liveOf M p with
          | none => rfl
          | some z =>
            obtain ⟨h1, h2⟩ := liveOf_some.1 hq
            rw [hy] at h1
            cases h1
            exact absurd h2 k1
        rw [hln] at hst
        have HST : Hid (allK M (ks.take (k + 1)) = L) := Lib.hid (by simpa using hst)
        have k1b : (y.k == 1) = false := by simpa using k1
        clear hst hy k1 hln
        go_wp2_with (at_lookup; go_loud (refine wpList_look _ rfl _ _ rfl g fs.length _ rfl HOr p rfl hpi y HY.out ?_))
        go_roundw
        case rel => exact ⟨k + 1, _, L, by omega, by go_num, rfl, HST, hon, by omega, hBn⟩
        case measure => simp [iOf]; omega
    · obtain rfl : k = ks.length := by omega
      have HA : Hid (IsAll fs L ∧ L.length ≤ fs.length) := Lib.hid (by
        have e := HL.out
        rw [List.take_length] at e
        subst e
        obtain rfl := HM.out
        exact ⟨allK_isAll HK.out.1 HK.out.2.1, by have := allK_len (newestZ (lastZ fs) fs) ks; omega⟩)
      clear HL
      go_wp2
      go_ret
      exact ⟨⟨_, L, rfl, ho.base (by omega), HA⟩, btr hBw2 (by omega) hB⟩
def st6 (w : World) (g : Nat) (u0 u1 u2 u3 u4 u5 : Value) : World := (((((w.setCell ⟨g, 0, none⟩ u0).setCell ⟨g, 1, none⟩ u1).setCell ⟨g, 2, none⟩ u2).setCell ⟨g, 3, none⟩ u3).setCell ⟨g, 4, none⟩ u4).setCell ⟨g, 5, none⟩ u5
theorem st6_blk {wx : World} {g : Nat} {T : TypeId} {a b c d e f : Value} (h : Blk wx g T #[a, b, c, d, e, f]) (u0 u1 u2 u3 u4 u5 : Value) : Blk (st6 wx g u0 u1 u2 u3 u4 u5) g T #[u0, u1, u2, u3, u4, u5] := by
  have := (((((h.set_ 0 u0).set_ 1 u1).set_ 2 u2).set_ 3 u3).set_ 4 u4).set_ 5 u5
  simpa [st6] using this
theorem st6_below {B g : Nat} {w wx : World} (h : Below B w wx) (hg : B ≤ g) (u0 u1 u2 u3 u4 u5 : Value) : Below B w (st6 wx g u0 u1 u2 u3 u4 u5) :=
  (((((h.setCell (p := ⟨g, 0, none⟩) hg u0).setCell (p := ⟨g, 1, none⟩) hg u1).setCell (p := ⟨g, 2, none⟩) hg u2).setCell (p := ⟨g, 3, none⟩) hg u3).setCell (p := ⟨g, 4, none⟩) hg u4).setCell (p := ⟨g, 5, none⟩) hg u5
theorem st6_size (w : World) (g : Nat) (u0 u1 u2 u3 u4 u5 : Value) : (st6 w g u0 u1 u2 u3 u4 u5).heap.size = w.heap.size := by simp [st6]
set_option maxRecDepth 100000 in
set_option maxHeartbeats 4000000 in
theorem live_yes (fs : List Fd) (A : Option Addr) (c : Nat) (p : Int) (w : World) (h : SlFd w w.heap.size A fs) (n1 : fs.length ≤ 1000000) (hok : ∀ x ∈ fs, FdOk x) (hp : i64in p) (y : Fd) (hq : Hid (newestZ (lastZ fs) fs p = some y)) (hk : (y.k == 1) = true) : Calls Try.prog 17 #[.slice A fs.length c, .int .i64 p] w fun e' w' => e' = .returned (.tuple #[(.agg #[.int .i64 y.b, .int .i64 y.g, .int .i64 y.k, .int .i64 y.p, .int .i64 y.s, .int .i64 y.e]), .bool true]) ∧ Below w.heap.size w w' := by
  have H0 := h.next ((Below.refl _ _).alloc (Nat.le_refl _) (.cells #[.int .i64 0, .int .i64 0, .int .i64 0, .int .i64 0, .int .i64 0, .int .i64 0] 30))
  have HB0 : Below w.heap.size w (w.alloc (.cells #[.int .i64 0, .int .i64 0, .int .i64 0, .int .i64 0, .int .i64 0, .int .i64 0] 30)) := (Below.refl _ _).alloc (Nat.le_refl _) _
  have hZ : Blk (w.alloc (.cells #[.int .i64 0, .int .i64 0, .int .i64 0, .int .i64 0, .int .i64 0, .int .i64 0] 30)) w.heap.size 30 #[.int .i64 0, .int .i64 0, .int .i64 0, .int .i64 0, .int .i64 0, .int .i64 0] := Blk.new_ _ _ _
  go_enter Try.func17, Try.ntmps17
  go_wp2_with (first
    | (go_at_call 20; go_loud (((with_reducible refine (newest_any fs A c _ H0 n1 hok).mono ?_); rintro e' w1 ⟨⟨g, rfl, hO, hgw⟩, hb1⟩; have hz1 := hb1.size; have hl1 : w.heap.size < w1.heap.size := (by simp at hz1; omega); have hZ1 := hZ.below hb1 (by simp); have f0 := hZ1.free; have z0 : w1.cell? ⟨w.heap.size, 0, none⟩ = some (.int .i64 0) := hZ1.cell_ 0; have z1 : w1.cell? ⟨w.heap.size, 1, none⟩ = some (.int .i64 0) := hZ1.cell_ 1; have z2 : w1.cell? ⟨w.heap.size, 2, none⟩ = some (.int .i64 0) := hZ1.cell_ 2; have z3 : w1.cell? ⟨w.heap.size, 3, none⟩ = some (.int .i64 0) := hZ1.cell_ 3; have z4 : w1.cell? ⟨w.heap.size, 4, none⟩ = some (.int .i64 0) := hZ1.cell_ 4; have z5 : w1.cell? ⟨w.heap.size, 5, none⟩ = some (.int .i64 0) := hZ1.cell_ 5)))
    | (at_lookup; go_loud (refine wpList_look_ok _ rfl _ _ rfl g fs.length _ rfl hO p rfl hp y true (by rw [hq.out]; exact ⟨rfl, rfl⟩) ?_)))
  have HB1 : Below w.heap.size w w1 := HB0.trans (hb1.mono (by simp))
  change bodyPost _ _ _ _ _ ((st6 w1 w.heap.size (.int .i64 y.b) (.int .i64 y.g) (.int .i64 y.k) (.int .i64 y.p) (.int .i64 y.s) (.int .i64 y.e)).alloc _)
  have HW := (st6_blk hZ1 (.int .i64 y.b) (.int .i64 y.g) (.int .i64 y.k) (.int .i64 y.p) (.int .i64 y.s) (.int .i64 y.e)).alloc_ (.cells #[.int .i64 y.b, .int .i64 y.g, .int .i64 y.k, .int .i64 y.p, .int .i64 y.s, .int .i64 y.e] 30)
  have HBW := (st6_below HB1 (Nat.le_refl _) (.int .i64 y.b) (.int .i64 y.g) (.int .i64 y.k) (.int .i64 y.p) (.int .i64 y.s) (.int .i64 y.e)).alloc (by rw [st6_size]; omega) (.cells #[.int .i64 y.b, .int .i64 y.g, .int .i64 y.k, .int .i64 y.p, .int .i64 y.s, .int .i64 y.e] 30)
  generalize (st6 w1 w.heap.size (.int .i64 y.b) (.int .i64 y.g) (.int .i64 y.k) (.int .i64 y.p) (.int .i64 y.s) (.int .i64 y.e)).alloc (.cells #[.int .i64 y.b, .int .i64 y.g, .int .i64 y.k, .int .i64 y.p, .int .i64 y.s, .int .i64 y.e] 30) = wf at HW HBW ⊢
  have e0 := HW.cell_ 0
  have e1 := HW.cell_ 1
  have e2 := HW.cell_ 2
  have e3 := HW.cell_ 3
  have e4 := HW.cell_ 4
  have e5 := HW.cell_ 5
  simp at e0 e1 e2 e3 e4 e5
  exact bodyPost_ret (v := .tuple #[(.agg #[.int .i64 y.b, .int .i64 y.g, .int .i64 y.k, .int .i64 y.p, .int .i64 y.s, .int .i64 y.e]), .bool true]) (by simp [results, Try.results17, go_sem, e0, e1, e2, e3, e4, e5]) rfl ⟨rfl, HBW⟩
set_option maxRecDepth 100000 in
set_option maxHeartbeats 4000000 in
theorem live_no (fs : List Fd) (A : Option Addr) (c : Nat) (p : Int) (w : World) (h : SlFd w w.heap.size A fs) (n1 : fs.length ≤ 1000000) (hok : ∀ x ∈ fs, FdOk x) (hp : i64in p) (hq : Hid (newestZ (lastZ fs) fs p = none)) : Calls Try.prog 17 #[.slice A fs.length c, .int .i64 p] w fun e' w' => e' = .returned (.tuple #[.agg #[.int .i64 0, .int .i64 0, .int .i64 0, .int .i64 0, .int .i64 0, .int .i64 0], .bool false]) ∧ Below w.heap.size w w' := by
  have H0 := h.next ((Below.refl _ _).alloc (Nat.le_refl _) (.cells #[.int .i64 0, .int .i64 0, .int .i64 0, .int .i64 0, .int .i64 0, .int .i64 0] 30))
  have HB0 : Below w.heap.size w (w.alloc (.cells #[.int .i64 0, .int .i64 0, .int .i64 0, .int .i64 0, .int .i64 0, .int .i64 0] 30)) := (Below.refl _ _).alloc (Nat.le_refl _) _
  have hZ : Blk (w.alloc (.cells #[.int .i64 0, .int .i64 0, .int .i64 0, .int .i64 0, .int .i64 0, .int .i64 0] 30)) w.heap.size 30 #[.int .i64 0, .int .i64 0, .int .i64 0, .int .i64 0, .int .i64 0, .int .i64 0] := Blk.new_ _ _ _
  go_enter Try.func17, Try.ntmps17
  go_wp2_with (first
    | (go_at_call 20; go_loud (((with_reducible refine (newest_any fs A c _ H0 n1 hok).mono ?_); rintro e' w1 ⟨⟨g, rfl, hO, hgw⟩, hb1⟩; have hz1 := hb1.size; have hl1 : w.heap.size < w1.heap.size := (by simp at hz1; omega); have hZ1 := hZ.below hb1 (by simp); have f0 := hZ1.free; have z0 : w1.cell? ⟨w.heap.size, 0, none⟩ = some (.int .i64 0) := hZ1.cell_ 0; have z1 : w1.cell? ⟨w.heap.size, 1, none⟩ = some (.int .i64 0) := hZ1.cell_ 1; have z2 : w1.cell? ⟨w.heap.size, 2, none⟩ = some (.int .i64 0) := hZ1.cell_ 2; have z3 : w1.cell? ⟨w.heap.size, 3, none⟩ = some (.int .i64 0) := hZ1.cell_ 3; have z4 : w1.cell? ⟨w.heap.size, 4, none⟩ = some (.int .i64 0) := hZ1.cell_ 4; have z5 : w1.cell? ⟨w.heap.size, 5, none⟩ = some (.int .i64 0) := hZ1.cell_ 5)))
    | (at_lookup; go_loud (refine wpList_look_ok _ rfl _ _ rfl g fs.length _ rfl hO p rfl hp zFd false (by rw [hq.out]; exact ⟨rfl, rfl⟩) ?_)))
  have HB1 : Below w.heap.size w w1 := HB0.trans (hb1.mono (by simp))
  change bodyPost _ _ _ _ _ ((st6 w1 w.heap.size (.int .i64 0) (.int .i64 0) (.int .i64 0) (.int .i64 0) (.int .i64 0) (.int .i64 0)).alloc _)
  have HW := (st6_blk hZ1 (.int .i64 0) (.int .i64 0) (.int .i64 0) (.int .i64 0) (.int .i64 0) (.int .i64 0)).alloc_ (.cells #[.int .i64 zFd.b, .int .i64 zFd.g, .int .i64 zFd.k, .int .i64 zFd.p, .int .i64 zFd.s, .int .i64 zFd.e] 30)
  have HBW := (st6_below HB1 (Nat.le_refl _) (.int .i64 0) (.int .i64 0) (.int .i64 0) (.int .i64 0) (.int .i64 0) (.int .i64 0)).alloc (by rw [st6_size]; omega) (.cells #[.int .i64 zFd.b, .int .i64 zFd.g, .int .i64 zFd.k, .int .i64 zFd.p, .int .i64 zFd.s, .int .i64 zFd.e] 30)
  generalize (st6 w1 w.heap.size (.int .i64 0) (.int .i64 0) (.int .i64 0) (.int .i64 0) (.int .i64 0) (.int .i64 0)).alloc (.cells #[.int .i64 zFd.b, .int .i64 zFd.g, .int .i64 zFd.k, .int .i64 zFd.p, .int .i64 zFd.s, .int .i64 zFd.e] 30) = wf at HW HBW ⊢
  have e0 := HW.cell_ 0
  have e1 := HW.cell_ 1
  have e2 := HW.cell_ 2
  have e3 := HW.cell_ 3
  have e4 := HW.cell_ 4
  have e5 := HW.cell_ 5
  simp at e0 e1 e2 e3 e4 e5
  exact bodyPost_ret (v := .tuple #[.agg #[.int .i64 0, .int .i64 0, .int .i64 0, .int .i64 0, .int .i64 0, .int .i64 0], .bool false]) (by simp [results, Try.results17, go_sem, e0, e1, e2, e3, e4, e5]) rfl ⟨rfl, HBW⟩
end Go.Proofs.Ytofeijlejljbdaa
