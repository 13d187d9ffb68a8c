/- Which names may be. -/
import Derived.Test.YtllnfociddodcaaDoorCr1
import Derived.Test.YtllnfociddodcaaDoorCr2
set_option linter.unusedSimpArgs false
set_option linter.unusedVariables false
set_option maxRecDepth 100000
set_option maxHeartbeats 16000000
namespace Go.Proofs.YtllnfociddodcaaDoor
open Go.ChangeShapes Go.WideShapes Go.ChangeAt Go.RowKit
theorem rmay_any3 (s : ByteArray) (B : Bool) (w : World) (hs : s.size ≤ 100000) (hB : nameB s.data.toList = B) :
    Calls Tryd.prog 51 #[.string s] w fun e w' => e = .returned (.bool B) ∧ w = w' := by
  have hsz := size_L s
  have HS : Hid (s.size ≤ 100000) := Lib.hid hs
  by_cases h1 : s.size < 1
  · rw [name_short (by omega)] at hB
    subst hB
    have q1 : (s.size : Int) < 1 := by omega
    clear hs hsz h1
    go_enter Tryd.func51, Tryd.ntmps51
    go_wp2
    go_ret
    exact ⟨rfl, rfl⟩
  have q1 : ¬ (s.size : Int) < 1 := by omega
  by_cases h2 : 20 < s.size
  · rw [name_short (by omega)] at hB
    subst hB
    have q2 : (20 : Int) < (s.size : Int) := by omega
    clear hs hsz h1 h2
    go_enter Tryd.func51, Tryd.ntmps51
    go_wp2
    go_ret
    exact ⟨rfl, rfl⟩
  have q2 : ¬ (20 : Int) < (s.size : Int) := by omega
  have a0 : 0 < s.size := by omega
  have a1 : s.size - 1 < s.size := by omega
  obtain ⟨V, hV⟩ : ∃ V, validL s.data.toList = V := ⟨_, rfl⟩
  obtain ⟨P, hP⟩ : ∃ V, (btL s.data.toList 0 == 32) = V := ⟨_, rfl⟩
  obtain ⟨F, hF⟩ : ∃ V, (btL s.data.toList (s.data.toList.length - 1) == 32) = V := ⟨_, rfl⟩
  obtain ⟨A, hA⟩ : ∃ V, mayFrom s.data.toList s.data.toList.length 0 = V := ⟨_, rfl⟩
  have hB2 : (!P && (!F && A)) = B := by
    have := name_parts (by omega) (by omega) hV hP hF rfl
    rw [← hB, this, ← hA, may_split, show okFrom s.data.toList s.data.toList.length 0 = V from hV]
  have at0 : (((s[0]'a0).toNat : Int) == 32) = P := by
    rw [at_L s 0 a0, ← hP, Bool.eq_iff_iff, beq_iff_eq, beq_iff_eq]
    omega
  have at1 : (((s[s.size - 1]'a1).toNat : Int) == 32) = F := by
    rw [at_L s _ a1, ← hF, hsz, Bool.eq_iff_iff, beq_iff_eq, beq_iff_eq]
    omega
  obtain ⟨L, hL⟩ : ∃ L, s.data.toList = L := ⟨_, rfl⟩
  rw [hL] at hA hsz
  have HLS := Lib.hid hL
  have AT0 := Lib.hid at0
  have AT1 := Lib.hid at1
  have HB2 := Lib.hid hB2
  have hA0 : mayFrom L L.length 0 = A := hA
  have HA := Lib.hid hA0
  have HSZ := Lib.hid hsz
  clear hV hP hF hL hs h1 hA hB hB2 at0 at1 hA0 hsz h2
  have z0 : (0 : Int) < (s.size : Int) := by omega
  have z1 : (0 : Int) ≤ (s.size : Int) - 1 := by omega
  go_enter Tryd.func51, Tryd.ntmps51
  go_upto_region 1 with fail
  go_cut [26] (fun v wx => v = .bool (P || F) ∧ wx = w)
  case first =>
    go_wp2
    all_goals (go_meet; refine ⟨?_, rfl⟩; (rw [← AT0.out, ← AT1.out] <;> first | rfl | simp [*]))
  case rest =>
  obtain ⟨rfl, rfl⟩ := hcut
  cases hD : (P || F)
  case true =>
    have hb : B = false := by
      rw [← HB2.out]
      cases P
      · simp only [Bool.false_or] at hD
        rw [hD]
        rfl
      · rfl
    subst hb
    clear hD
    go_wp2
    go_ret
    exact ⟨rfl, rfl⟩
  have hb : A = B := by
    rw [← HB2.out]
    cases P
    · simp only [Bool.false_or] at hD
      rw [hD]
      rfl
    · cases hD
  subst hb
  clear hD HB2
  go_wp2_with fail
  go_loop [3] (fun i => ∃ p b : Nat, i = .int .i64 p ∧ Hid (mayFrom L b p = A ∧ L.length ≤ p + b ∧ p ≤ L.length)) (fun i => s.size - (intOf i).toNat)
  case atStart => exact ⟨0, L.length, rfl, Lib.hid ⟨HA.out, by omega, by omega⟩⟩
  case round =>
    obtain ⟨p, b, rfl, HI⟩ := hrel
    obtain ⟨i2, i3, i5⟩ := HI.out
    have hsz := HSZ.out
    by_cases hlt : p < L.length
    · obtain ⟨b', rfl⟩ : ∃ b', b = b' + 1 := ⟨b - 1, by omega⟩
      have hp2 : p < s.size := by omega
      have j0 : (p : Int) < (s.size : Int) := by omega
      rw [mayFrom, if_pos hlt] at i2
      obtain ⟨R, N, hrn⟩ : ∃ R N, r1L L p = (R, N) := ⟨_, _, rfl⟩
      have HRN : Hid (r1L s.data.toList p = (R, N)) := Lib.hid (by rw [HLS.out]; exact hrn)
      unfold r1L at hrn
      by_cases hb : badL L p = true
      · rw [if_pos hb] at hrn i2
        simp only [Prod.mk.injEq] at hrn
        obtain ⟨rfl, rfl⟩ := hrn
        subst i2
        clear i3 i5 hb hlt hsz HA
        go_wp2_with (go_at_call 64; refine (rune1_any s p _ _ _ hp2 HS.out HRN.out).mono ?_; rintro e' w1 ⟨rfl, rfl⟩)
        go_ret
        exact ⟨rfl, rfl⟩
      · rw [if_neg hb] at hrn i2
        have hb' : badL L p = false := by simpa using hb
        have hw := runed_w (good_of hb') (by omega)
        rw [hrn] at hw i2
        simp only [] at hw i2
        have n0 : ((N : Int) == 0) = false := by simp; omega
        have k1 : p + N ≤ 100000 := by have := HS.out; omega
        have k3 : 1 ≤ N := hw.1
        have hle : p + N ≤ L.length := by omega
        clear i5 hb hb' hw hrn HA
        by_cases hm : mayR R = true
        · rw [if_pos hm] at i2
          have HK : Hid (mayFrom L b' (p + N) = A ∧ L.length ≤ p + N + b' ∧ p + N ≤ L.length) := Lib.hid ⟨i2, by omega, hle⟩
          have hr : (32 ≤ R ∧ R < 127 ∧ R ≠ 47) ∨ (32 ≤ R ∧ 160 ≤ R ∧ R ≠ 47) := by
            unfold mayR at hm
            simp only [Bool.and_eq_true, Bool.not_eq_true', Bool.or_eq_false_iff, Bool.and_eq_false_iff, decide_eq_false_iff_not, beq_eq_false_iff_ne] at hm
            omega
          clear i2 i3 hm hlt hsz hle
          rcases hr with ⟨r1, r2, r3⟩ | ⟨r1, r2, r3⟩
          · have t1 : ¬ (R : Int) < 32 := by omega
            have t2 : ¬ (127 : Int) ≤ (R : Int) := by omega
            have t3 : ((R : Int) == 47) = false := by simp; omega
            clear r1 r2 r3
            go_wp2_with (go_at_call 64; refine (rune1_any s p _ _ _ hp2 HS.out HRN.out).mono ?_; rintro e' w1 ⟨rfl, rfl⟩)
            go_round
            case rel => exact ⟨p + N, b', by go_num, HK⟩
            case measure => simp [intOf]; omega
          · have t1 : ¬ (R : Int) < 32 := by omega
            have t2 : (127 : Int) ≤ (R : Int) := by omega
            have t4 : ¬ (R : Int) < 160 := by omega
            have t3 : ((R : Int) == 47) = false := by simp; omega
            clear r1 r2 r3
            go_wp2_with (go_at_call 64; refine (rune1_any s p _ _ _ hp2 HS.out HRN.out).mono ?_; rintro e' w1 ⟨rfl, rfl⟩)
            go_round
            case rel => exact ⟨p + N, b', by go_num, HK⟩
            case measure => simp [intOf]; omega
        · rw [if_neg hm] at i2
          subst i2
          have hr : R < 32 ∨ (32 ≤ R ∧ R < 127 ∧ R = 47) ∨ (127 ≤ R ∧ R < 160) := by
            unfold mayR at hm
            simp only [Bool.and_eq_true, Bool.not_eq_true', Bool.or_eq_false_iff, Bool.and_eq_false_iff, decide_eq_false_iff_not, beq_eq_false_iff_ne] at hm
            omega
          clear i3 hm hlt hsz hle
          rcases hr with r1 | ⟨r1, r2, rfl⟩ | ⟨r1, r2⟩
          · have t1 : (R : Int) < 32 := by omega
            clear r1
            go_wp2_with (go_at_call 64; refine (rune1_any s p _ _ _ hp2 HS.out HRN.out).mono ?_; rintro e' w1 ⟨rfl, rfl⟩)
            go_ret
            exact ⟨rfl, rfl⟩
          · clear r1 r2
            go_wp2_with (go_at_call 64; refine (rune1_any s p _ _ _ hp2 HS.out HRN.out).mono ?_; rintro e' w1 ⟨rfl, rfl⟩)
            go_ret
            exact ⟨rfl, rfl⟩
          · have t1 : ¬ (R : Int) < 32 := by omega
            have t2 : (127 : Int) ≤ (R : Int) := by omega
            have t4 : (R : Int) < 160 := by omega
            clear r1 r2
            go_wp2_with (go_at_call 64; refine (rune1_any s p _ _ _ hp2 HS.out HRN.out).mono ?_; rintro e' w1 ⟨rfl, rfl⟩)
            go_ret
            exact ⟨rfl, rfl⟩
    · have j0 : ¬ (p : Int) < (s.size : Int) := by omega
      have hv : A = true := by
        rw [← i2]
        cases b with
        | zero => rfl
        | succ b => rw [mayFrom, if_neg hlt]
      subst hv
      clear i2 i3 i5 hlt hsz
      go_wp2
      go_ret
      exact ⟨rfl, rfl⟩
end Go.Proofs.YtllnfociddodcaaDoor
namespace Go.Proofs.YtllnfociddodcaaDoor
open Go.ChangeShapes Go.WideShapes Go.ChangeAt Go.RowKit
attribute [local go_sem ↓] Go.wp_at_zero Go.wp_at_succ
theorem rBook_any (s : Sf) (v : Value) (x : Int) (w : World) (hS : ShR w w.heap.size v s) (hsm : s.bs.length ≤ 100000 ∧ s.ts.length ≤ 100000) :
    Calls Tryd.prog 52 #[v, .int .i64 x] w fun e' w' => e' = .returned (.int .i64 (bookAt s x)) ∧ Below w.heap.size w w' := by
  have hS0 := hS
  obtain ⟨Ab, cb, An, cn, rfl, hB, hN, hcb, hmb, hcn, hmn⟩ := hS.ex
  clear hS
  have HB : Below w.heap.size w (w.alloc (.cells #[.int .i64 s.nb, .int .i64 s.nn, .int .i64 s.ns, .slice Ab s.bs.length cb, .slice An s.ts.length cn] 25)) := ((Below.refl w.heap.size w).alloc (by first | (simp; done) | (simp; omega)) _)
  have B1 : Blk (w.alloc (.cells #[.int .i64 s.nb, .int .i64 s.nn, .int .i64 s.ns, .slice Ab s.bs.length cb, .slice An s.ts.length cn] 25)) w.heap.size 25 #[.int .i64 s.nb, .int .i64 s.nn, .int .i64 s.ns, .slice Ab s.bs.length cb, .slice An s.ts.length cn] := Blk.new_ w 25 #[.int .i64 s.nb, .int .i64 s.nn, .int .i64 s.ns, .slice Ab s.bs.length cb, .slice An s.ts.length cn]
  obtain ⟨n, hn⟩ : ∃ n, s.bs.length = n := ⟨_, rfl⟩
  have hnm : n ≤ 100000 := by rw [← hn]; exact hsm.1
  have HN := Lib.hid hn
  rw [hn] at HB B1 ⊢
  have H0 : Hid ((s.bs.take 0).any (fun b : Bk => b.id == x) = false) := Lib.hid rfl
  clear hn hsm hS0
  go_enter Tryd.func52, Tryd.ntmps52
  go_wp2_with fail
  go_loop [5] (fun i => ∃ k : Nat, k ≤ n ∧ i = .int .i64 k ∧ Hid ((s.bs.take k).any (fun b : Bk => b.id == x) = false)) (fun i => n - (intOf i).toNat)
  case atStart => exact ⟨0, by omega, rfl, H0⟩
  case round =>
    obtain ⟨k, hk, rfl, HK⟩ := hrel
    clear H0
    by_cases hlt : k < n
    · have hlx : k < s.bs.length := by have := HN.out; omega
      have i0 : (0 : Int) ≤ (k : Int) := by omega
      have i1 : (k : Int) < (n : Int) := by omega
      obtain ⟨y, hx⟩ : ∃ y, s.bs[k]? = some y := ⟨_, List.getElem?_eq_getElem hlx⟩
      have he : (s.bs.map bkC)[k]? = some (bkC y) := by rw [List.getElem?_map, hx]; rfl
      obtain ⟨b1, o1, rfl, l1, q1⟩ := SlE.at_ hB (by rw [List.length_map]; omega)
      have y0 : World.cell? ((w.alloc (.cells #[.int .i64 s.nb, .int .i64 s.nn, .int .i64 s.ns, .slice (some ⟨b1, o1, none⟩) n cb, .slice An s.ts.length cn] 25))) ⟨b1, o1 + k * 2, none⟩ = some (.int .i64 y.id) := (HB.cell (p := ⟨b1, _, none⟩) l1).trans (q1 k _ he 0 _ rfl)
      have y1 : World.cell? ((w.alloc (.cells #[.int .i64 s.nb, .int .i64 s.nn, .int .i64 s.ns, .slice (some ⟨b1, o1, none⟩) n cb, .slice An s.ts.length cn] 25))) ⟨b1, o1 + k * 2 + 1, none⟩ = some (.string y.nm) := (HB.cell (p := ⟨b1, _, none⟩) l1).trans (q1 k _ he 1 _ rfl)
      have HX := Lib.hid hx
      clear hx q1 he hlx
      rcases (by cases hq : (y.id == x) <;> simp : (y.id == x) = true ∨ (y.id == x) = false) with hp | hp
      · have HP := Lib.hid hp
        go_wp2_with fail
        go_ret
        exact ⟨by rw [show bookAt s x = (k : Int) from idxP_at HK.out HX.out HP.out]; rfl, HB⟩
      · have HP := Lib.hid hp
        go_wp2_with fail
        go_round
        case rel => exact ⟨k + 1, by omega, by go_num, Lib.hid (any_next HK.out HX.out HP.out)⟩
        case measure => simp [intOf]; omega
    · have hjn : k = n := by omega
      subst hjn
      go_wp2_with fail
      go_ret
      refine ⟨?_, HB⟩
      have := HK.out
      rw [List.take_of_length_le (by rw [HN.out]; exact Nat.le_refl _)] at this
      rw [show bookAt s x = -1 from idxP_no this]
      rfl
end Go.Proofs.YtllnfociddodcaaDoor
namespace Go.Proofs.YtllnfociddodcaaDoor
open Go.ChangeShapes Go.WideShapes Go.ChangeAt Go.RowKit
attribute [local go_sem ↓] Go.wp_at_zero Go.wp_at_succ
theorem set_f4 (es : List (List Value)) (k : Nat) (p0 p1 p2 p3 p4 u : Value) (h : es[k]? = some [p0, p1, p2, p3, p4]) (hC : ∀ x ∈ es, x.length = 5) : es.flatten.set (k * 5 + 4) u = (es.set k [p0, p1, p2, p3, u]).flatten := by
  have hs : ∀ (l : List Value) (i : Nat) (u : Value), l[i]? = some u → l.set i u = l := by
    intro l i u hu
    obtain ⟨hlt, he⟩ := List.getElem?_eq_some_iff.1 hu
    rw [← he]
    exact List.set_getElem_self hlt
  have g : ∀ j, j < 5 → es.flatten[k * 5 + j]? = ([p0, p1, p2, p3, p4] : List Value)[j]? := fun j hj => flat_at es hC k _ h j hj
  have h1 := set_five es k p0 p1 p2 p3 p4 p0 p1 p2 p3 u h hC
  have n0 := hs es.flatten (k * 5 + 0) p0 (g 0 (by decide))
  rw [n0] at h1
  have n1 := hs es.flatten (k * 5 + 1) p1 (g 1 (by decide))
  rw [n1] at h1
  have n2 := hs es.flatten (k * 5 + 2) p2 (g 2 (by decide))
  rw [n2] at h1
  have n3 := hs es.flatten (k * 5 + 3) p3 (g 3 (by decide))
  rw [n3] at h1
  exact h1
structure HalfI (s : Sf) (vb : Value) (A : Option Addr) (cn : Nat) (w0 : World) (B0 : Nat) (k : Nat) (n : Nt) (As : Option Addr) (cs : Nat) (wr : World) : Prop where
  box : Blk wr B0 25 #[.int .i64 s.nb, .int .i64 s.nn, .int .i64 s.ns, vb, .slice A s.ts.length cn]
  res : Blk wr (B0 + 1) 25 #[.int .i64 0, .int .i64 0, .int .i64 0, .slice none 0 0, .slice none 0 0]
  ob : wr.ownsRow (B0 + 2) 48 2 vb s.bs.length (s.bs.map bkC).flatten
  sl : Sl wr B0 As (n.sh.map (Value.int .i64))
  es : ∃ (es : List (List Value)) (vt : Value), es.length = s.ts.length ∧ (∀ x ∈ es, x.length = 5) ∧ wr.ownsRow (B0 + 2) 52 5 (.slice A s.ts.length cn) s.ts.length es.flatten ∧ (∀ (j : Nat) (n : Nt) (e : List Value), j < k → s.ts[j]? = some n → es[j]? = some e → NtW wr (B0 + 2) n e) ∧ (es[k]? = some (ntC n vt (.slice As n.sh.length cs)) ∧ wr.ownsRow (B0 + 2) 9 1 vt n.tg.length (n.tg.map strV)) ∧ (∀ (j : Nat) (n : Nt) (e : List Value), k < j → s.ts[j]? = some n → es[j]? = some e → NtIn wr B0 n e)
  be : Below B0 w0 wr
  sz : B0 + 2 ≤ wr.heap.size
theorem HalfI.below {s : Sf} {vb : Value} {A : Option Addr} {cn : Nat} {w0 wr wr' : World} {B0 k : Nat} {n : Nt} {As : Option Addr} {cs : Nat} (h : HalfI s vb A cn w0 B0 k n As cs wr) (hb : Below wr.heap.size wr wr') : HalfI s vb A cn w0 B0 k n As cs wr' := by
  obtain ⟨es, vt, h1, h2, h3, h4, ⟨h5, h6⟩, h7⟩ := h.es
  have hB := hb.mono (show B0 ≤ wr.heap.size by have := h.sz; omega)
  exact ⟨h.box.below hb h.box.lt, h.res.below hb h.res.lt, own_belowW h.ob hb, h.sl.below hB, ⟨es, vt, h1, h2, own_belowW h3 hb, fun j n e a b c => (h4 j n e a b c).below hb, ⟨h5, own_belowW h6 hb⟩, fun j n e a b c => (h7 j n e a b c).below hB⟩, h.be.trans hB, by have := hb.size; have := h.sz; omega⟩
theorem HalfI.whole {s : Sf} {vb : Value} {gn cn : Nat} {w0 wr : World} {B0 k : Nat} {n : Nt} {As : Option Addr} {cs : Nat} (h : HalfI s vb (some ⟨gn, 0, none⟩) cn w0 B0 k n As cs wr) (hn : s.ts[k]? = some n) (hgn : B0 + 2 ≤ gn) : wr.cell? ⟨gn, k * 5 + 4, none⟩ = some (.slice As n.sh.length cs) ∧ ∀ (w5 : World) (v2 : Value), Below wr.heap.size wr w5 → w5.ownsRow wr.heap.size 3 1 v2 n.sh.length (n.sh.map (Value.int .i64)) → CloneI s vb (some ⟨gn, 0, none⟩) cn w0 B0 (k + 1) (w5.setCell ⟨gn, k * 5 + 4, none⟩ v2) := by
  obtain ⟨hbox, hres, hob, hAs, ⟨es, vt, hel, hC, hon, hnew, ⟨hk, hvt⟩, hold⟩, hbe, hsz⟩ := h
  have hkl : k < es.length := (List.getElem?_eq_some_iff.1 hk).1
  refine ⟨own_cellE hon hC hk (j := 4) rfl, fun w5 v2 hb h1 => ?_⟩
  have hB := hb.mono (show B0 ≤ wr.heap.size by omega)
  have hon5 := own_belowW hon hb
  have hvt5 := own_belowW hvt hb
  have q1 := (World.ownsRow.stored hon5 (k * 5 + 4) v2).1
  rw [set_f4 es k _ _ _ _ _ v2 hk hC] at q1
  have q2 := set1_grown w5 gn (k * 5 + 4) v2
  have hob5 := own_belowW hob hb
  have hbG : Below B0 w5 (w5.setCell ⟨gn, k * 5 + 4, none⟩ v2) := below_grown (Below.refl _ _) q2 (by omega) (by have := hb.size; omega)
  refine ⟨(hbox.below hb hbox.lt).grown q2 (by omega), (hres.below hb hres.lt).grown q2 (by omega), hob5.kept q2 (own_apart hob5 hon5 (by decide)), ⟨es.set k [.int .i64 n.id, .int .i64 n.bk, .string n.nm, vt, v2], by rw [List.length_set]; exact hel, ?_, q1, ?_, ?_⟩, (hbe.trans hB).trans hbG, by have := hb.size; have := q2.size; omega⟩
  · intro x hx
    rcases List.mem_or_eq_of_mem_set hx with h | rfl
    · exact hC x h
    · rfl
  · intro j m e hj hm hej
    rw [List.getElem?_set] at hej
    split at hej
    · rename_i hjk
      subst hjk
      rw [hn] at hm
      cases hm
      simp only [hkl, if_true, Option.some.injEq] at hej
      subst hej
      exact NtW.kept (w := w5) ⟨vt, v2, rfl, hvt5, own_base h1 hsz⟩ hon5 q2 (by decide) (by decide)
    · exact ((hnew j m e (by omega) hm hej).below hb).kept hon5 q2 (by decide) (by decide)
  · intro j m e hj hm hej
    rw [List.getElem?_set, if_neg (by omega)] at hej
    exact ((hold j m e (by omega) hm hej).below hB).below hbG
end Go.Proofs.YtllnfociddodcaaDoor
namespace Go.Proofs.YtllnfociddodcaaDoor
open Go.ChangeShapes Go.WideShapes Go.ChangeAt Go.RowKit
attribute [local go_sem ↓] Go.wp_at_zero Go.wp_at_succ
theorem rSheets_any (s : Sf) (v : Value) (w : World) (hS : ShR w w.heap.size v s) (hln : s.ts.length ≤ 100000) (hlL : (s.ts.flatMap Nt.sh).length ≤ 100000) :
    Calls Tryd.prog 54 #[v] w fun e' w' => ∃ A c, e' = .returned (.slice A (s.ts.flatMap Nt.sh).length c) ∧ Sl w' w'.heap.size A ((s.ts.flatMap Nt.sh).map (Value.int .i64)) ∧ (s.ts.flatMap Nt.sh).length ≤ c ∧ c ≤ maxLen ∧ Below w.heap.size w w' := by
  have hS0 := hS
  obtain ⟨Ab, cb, An, cn, rfl, hB, hN, hcb, hmb, hcn, hmn⟩ := hS.ex
  clear hS
  have HB : Below w.heap.size w (w.alloc (.cells #[.int .i64 s.nb, .int .i64 s.nn, .int .i64 s.ns, .slice Ab s.bs.length cb, .slice An s.ts.length cn] 25)) := ((Below.refl w.heap.size w).alloc (by first | (simp; done) | (simp; omega)) _)
  have B1 : Blk (w.alloc (.cells #[.int .i64 s.nb, .int .i64 s.nn, .int .i64 s.ns, .slice Ab s.bs.length cb, .slice An s.ts.length cn] 25)) w.heap.size 25 #[.int .i64 s.nb, .int .i64 s.nn, .int .i64 s.ns, .slice Ab s.bs.length cb, .slice An s.ts.length cn] := Blk.new_ w 25 #[.int .i64 s.nb, .int .i64 s.nn, .int .i64 s.ns, .slice Ab s.bs.length cb, .slice An s.ts.length cn]
  obtain ⟨es, hel, hse, hnt⟩ := hN.ex
  obtain ⟨n, hn⟩ : ∃ n, s.ts.length = n := ⟨_, rfl⟩
  have HN := Lib.hid hn
  clear hn
  obtain ⟨W, hW⟩ : ∃ V : World, V = (w.alloc (.cells #[.int .i64 s.nb, .int .i64 s.nn, .int .i64 s.ns, .slice Ab s.bs.length cb, .slice An s.ts.length cn] 25)) := ⟨_, rfl⟩
  have hlw : w.heap.size < W.heap.size := by rw [hW]; simp
  have HLL := Lib.hid hlL
  go_enter Tryd.func54, Tryd.ntmps54
  go_upto_region 1 with fail
  rw [← hW] at HB B1 ⊢
  clear hW hS0 hB
  have k4 := B1.cell_ 4
  simp at k4
  rw [HN.out] at k4 hln
  go_wp2_with fail
  go_loopw [3, 4] (fun sv iv wr => ∃ k : Nat, k ≤ n ∧ iv = .int .i64 k ∧ Hid (wr.ownsRow W.heap.size 3 1 sv ((s.ts.take k).flatMap Nt.sh).length (((s.ts.take k).flatMap Nt.sh).map (Value.int .i64))) ∧ Below w.heap.size w wr ∧ wr.cell? ⟨w.heap.size, 4, none⟩ = some (.slice An n cn) ∧ W.heap.size ≤ wr.heap.size) (fun _ iv _ => n - (intOf iv).toNat)
  case atStart => exact ⟨0, by omega, rfl, Lib.hid (World.ownsRow_nil _ _ _ _), HB, k4, Nat.le_refl _⟩
  case round =>
    clear k4 HB B1
    obtain ⟨k, hk, rfl, HR, HBr, k4, hsz⟩ := hrel
    by_cases hlt : k < n
    · have hlx : k < s.ts.length := by have := HN.out; omega
      have i0 : (0 : Int) ≤ (k : Int) := by omega
      have i1 : (k : Int) < (n : Int) := by omega
      obtain ⟨y, hx⟩ : ∃ y, s.ts[k]? = some y := ⟨_, List.getElem?_eq_getElem hlx⟩
      obtain ⟨e0, he⟩ : ∃ e, es[k]? = some e := ⟨_, List.getElem?_eq_getElem (by have := HN.out; omega)⟩
      obtain ⟨At, ct, As, cs, rfl, hAt, hAs, -⟩ := (hnt k y e0 hx he).ex
      obtain ⟨b1, o1, rfl, l1, q1⟩ := hse.at_ (by have := HN.out; omega)
      have y4 : wr.cell? ⟨b1, o1 + k * 5 + 4, none⟩ = some (.slice As y.sh.length cs) := (HBr.cell (p := ⟨b1, _, none⟩) l1).trans (q1 k _ he 4 _ rfl)
      obtain ⟨L, hL⟩ : ∃ L, (s.ts.take k).flatMap Nt.sh = L := ⟨_, rfl⟩
      have hLn : (s.ts.take (k + 1)).flatMap Nt.sh = L ++ y.sh := by rw [List.take_add_one, hx, List.flatMap_append, hL]; simp
      have hsub : (L ++ y.sh).length ≤ 100000 := by
        rw [← hLn]
        exact Nat.le_trans (flat_sub (List.take_sublist _ _)).length_le HLL.out
      rw [List.length_append] at hsub
      rw [hL] at HR
      have hon := HR.out
      have hAs2 := (hAs.below HBr).mono_ HBr.size
      have o2 : ∀ u ∈ y.sh.map (Value.int .i64), u.oneCell' = true := fun u hu => by obtain ⟨x, _, rfl⟩ := List.mem_map.1 hu; rfl
      have HLN := Lib.hid hLn
      have hrow := World.ownsRow.lt hon
      have HROW := Lib.hid hrow
      clear hx he q1 hL hLn hlx HR hrow hAs hAt
      go_wp2_with (at_builtin; obtain ⟨ti0, hi, hz0, hz1, hz2⟩ := info_parts info_clInt; refine wpList_app _ rfl (.tmp 12) (.tmp 18) _ rfl W.heap.size 3 ti0 _ 1 8 Tryd.underlying50 hi hz0 hz1 hz2 rfl (by decide) _ L.length (L.map (Value.int .i64)) rfl hon As y.sh.length cs (y.sh.map (Value.int .i64)) rfl (Rd.of_sl hAs2 (by rw [List.length_map])) o2 (by unfold maxLen; omega) (by omega) hsz ?_; intro v' w' ho' hg' hv'; clear hi hz0 hz1 hz2 hv')
      have hk4 := hg'.cell k4 (fun h => by have h2 : W.heap.size ≤ w.heap.size ∧ w.heap.size < wr.heap.size := HROW.out _ h.symm; omega)
      have HF : Below w.heap.size w w' := HBr.grown hg' HBr.size (fun g h => by have := HROW.out g h; omega)
      have hsz2 := Nat.le_trans hsz hg'.size
      have HR2 : Hid (w'.ownsRow W.heap.size 3 1 v' ((s.ts.take (k + 1)).flatMap Nt.sh).length (((s.ts.take (k + 1)).flatMap Nt.sh).map (Value.int .i64))) := Lib.hid (by rw [HLN.out, List.length_append, List.map_append]; exact ho')
      clear ho' hg' hon y4 HROW hAs2
      go_roundw
      case rel => exact ⟨k + 1, by omega, by go_num, HR2, HF, hk4, hsz2⟩
      case measure => simp [intOf]; omega
    · have hjn : k = n := by omega
      subst hjn
      have hfull : (s.ts.take k).flatMap Nt.sh = s.ts.flatMap Nt.sh := by rw [List.take_of_length_le (by rw [HN.out]; exact Nat.le_refl _)]
      rw [hfull] at HR
      obtain ⟨A9, c9, rfl, h9, h10⟩ := own_shape HR.out
      go_wp2_with fail
      go_ret
      exact ⟨A9, c9, rfl, Sl.of_own HR.out, h9, h10, HBr⟩
theorem leq_not {p c : ByteArray} (h : lessS p c = false) : (Op.bytesLess c.toList p.toList || c.toList == p.toList) = true := by
  cases h1 : Op.bytesLess c.toList p.toList
  · have h2 : ¬ Lib.compareBytes c.data.toList p.data.toList < 0 := by
      rw [cmp_less, ByteArray.toList_eq, ByteArray.toList_eq] at h1
      exact of_decide_eq_false h1
    have h3 : ¬ Lib.compareBytes p.data.toList c.data.toList < 0 := by
      unfold lessS at h
      rw [cmp_less, ByteArray.toList_eq, ByteArray.toList_eq] at h
      exact of_decide_eq_false h
    rw [ByteArray.toList_eq, ByteArray.toList_eq, cmp_tri _ _ h2 h3]
    simp
  · rfl
def tgOk (l : List ByteArray) (k : Nat) : Bool := match l[k]? with
  | some t => mayN t && (match k with
    | 0 => true
    | j + 1 => match l[j]? with
      | some p => lessS p t
      | none => true)
  | none => true
theorem lt_not {p c : ByteArray} (h : lessS p c = true) : Op.bytesLess c.toList p.toList = false ∧ (c.toList == p.toList) = false := by
  constructor
  · cases h2 : Op.bytesLess c.toList p.toList
    · rfl
    · unfold lessS at h
      rw [cmp_less] at h h2
      exact absurd (cmpB_trans _ _ _ (of_decide_eq_true h) (of_decide_eq_true h2)) (by rw [cmpB_refl]; decide)
  · rw [beq_eq_false_iff_ne]
    intro he
    unfold lessS at h
    rw [he, less_irr] at h
    cases h
theorem rtags_any (l : List ByteArray) (A : Option Addr) (cp : Nat) (w : World) (hS : Sl w w.heap.size A (l.map strV)) (hsz : ∀ t ∈ l, t.size ≤ 100000) (hl : l.length ≤ 100000) (T : Bool) (hB : mayTg l = T) :
    Calls Tryd.prog 53 #[.slice A l.length cp] w fun e' w' => e' = .returned (.bool T) ∧ Below w.heap.size w w' := by
  obtain ⟨n, hn⟩ : ∃ n, l.length = n := ⟨_, rfl⟩
  rw [hn] at hl ⊢
  unfold mayTg at hB
  rw [hn] at hB
  have HB0 : Below w.heap.size w w := Below.refl _ _
  have HN := Lib.hid hn
  have HSZ := Lib.hid hsz
  clear hn hsz
  by_cases h4 : n ≤ 4
  · rw [decide_eq_true h4, Bool.true_and] at hB
    have HTG : Hid (tagsFrom (prevT l 0) (l.drop 0) = T) := Lib.hid (by rw [List.drop_zero]; exact hB)
    have g4 : (n : Int) ≤ 4 := by omega
    clear hB
    go_enter Tryd.func53, Tryd.ntmps53
    go_wp2_with fail
    go_loopw [3] (fun i wr => ∃ k : Nat, k ≤ n ∧ i = .int .i64 k ∧ Hid (tagsFrom (prevT l k) (l.drop k) = T) ∧ Below w.heap.size w wr) (fun i _ => n - (intOf i).toNat)
    case atStart => exact ⟨0, by omega, rfl, HTG, HB0⟩
    case round =>
      clear HB0 HTG
      obtain ⟨k, hk, rfl, HK, HBr⟩ := hrel
      by_cases hlt : k < n
      · have hlx : k < l.length := by have := HN.out; omega
        obtain ⟨b1, o1, rfl, l1, q1⟩ := hS.at_ (by rw [List.length_map]; omega)
        obtain ⟨t, ht0⟩ : ∃ t, l[k]? = some t := ⟨_, List.getElem?_eq_getElem hlx⟩
        have cx : wr.cell? ⟨b1, o1 + k, none⟩ = some (.string t) := (HBr.cell (p := ⟨b1, o1 + k, none⟩) l1).trans (q1 k (.string t) (by rw [List.getElem?_map, ht0]; rfl))
        have ht := HSZ.out t (List.mem_of_getElem? ht0)
        have i0 : (0 : Int) ≤ (k : Int) := by omega
        have i1 : (k : Int) < (n : Int) := by omega
        have HT0 := Lib.hid ht0
        have HQ1 := Lib.hid q1
        obtain ⟨N, hN⟩ : ∃ N, mayN t = N := ⟨_, rfl⟩
        have HNM : Hid (nameB t.data.toList = N) := Lib.hid hN
        clear ht0 q1 hlx
        rcases (by omega : k = 0 ∨ 0 < k) with hk0 | hk0
        · have HST : Hid (T = (N && tagsFrom (prevT l (k + 1)) (l.drop (k + 1)))) := Lib.hid (by
            have h1 := HK.out
            have h2 := HT0.out
            subst hk0
            rw [tags_first h2, hN] at h1
            exact h1.symm)
          have hdk : decide (0 < k) = false := decide_eq_false (by omega)
          have QD : wr.drew.cell? ⟨b1, o1 + k, none⟩ = some (.string t) := drew_cell cx
          clear hk0 hN
          go_upto_region 4 with fail
          cases N
          · have HTT : Hid (T = false) := Lib.hid HST.out
            refine wp_region_noPanic ?_
            refine wp_region_held_drew (S := (fun w_ => w_.cell? ⟨b1, o1 + k, none⟩ = some (.string t))) (by kernel_rfl) ?_ (fun hHeld => ?_)
            · (first | with_reducible exact QD | with_reducible assumption)
            refine tk 0 ?_; try simp only [Act.put, pz1, pz2, pz3]
            refine tk 1 ?_; try simp only [Act.put, pz1, pz2, pz3]
            refine tk 2 ?_; try simp only [Act.put, pz1, pz2, pz3]
            refine tk 3 ?_; try simp only [Act.put, pz1, pz2, pz3]
            refine wpAnyH_ready (rs := [4]) (by kernel_rfl) (by simp) ?_
            refine AllReadyH.cons (o := ⟨some 19, .call { callee := .value (.func 51), args := #[.tmp 18], argTypes := #[9] }, 4, "ref.go:31", #[⟨3, .data⟩], none⟩) rfl (fun K hK => ?_) AllReadyH.nil
            go_simp
            (go_at_call 51; ((with_reducible refine (rmay_any3 t _ _ ht HNM.out).mono ?_); rintro e' wN ⟨rfl, rfl⟩))
            go_wp2_with fail
            refine hK.out _ _ ?_ (fun hNew => ?_)
            · (first | with_reducible exact QD | with_reducible assumption)
            clear hK K hHeld
            have hHeld := hNew
            clear hNew
            try simp only [Act.put, pz1, pz2, pz3]
            refine tk 5 ?_; try simp only [Act.put, pz1, pz2, pz3]
            refine tk 6 ?_; try simp only [Act.put, pz1, pz2, pz3]
            refine tu 7 ?_
            try simp only [Act.put, pz1, pz2, pz3]
            refine tu 8 ?_
            try simp only [Act.put, pz1, pz2, pz3]
            refine tu 9 ?_
            try simp only [Act.put, pz1, pz2, pz3]
            refine tu 10 ?_
            try simp only [Act.put, pz1, pz2, pz3]
            refine tu 11 ?_
            try simp only [Act.put, pz1, pz2, pz3]
            refine tu 12 ?_
            try simp only [Act.put, pz1, pz2, pz3]
            refine tu 13 ?_
            try simp only [Act.put, pz1, pz2, pz3]
            refine tu 14 ?_
            try simp only [Act.put, pz1, pz2, pz3]
            refine tu 15 ?_
            try simp only [Act.put, pz1, pz2, pz3]
            refine tu 16 ?_
            try simp only [Act.put, pz1, pz2, pz3]
            refine tu 17 ?_
            try simp only [Act.put, pz1, pz2, pz3]
            refine tu 18 ?_
            try simp only [Act.put, pz1, pz2, pz3]
            refine tu 19 ?_
            try simp only [Act.put, pz1, pz2, pz3]
            refine tu 20 ?_
            try simp only [Act.put, pz1, pz2, pz3]
            refine tk 21 ?_; try simp only [Act.put, pz1, pz2, pz3]
            refine wpAnyH_done (by kernel_rfl) ?_ _
            refine NoPanic.normal ?_
            go_wp2_with fail
            go_ret
            exact ⟨by rw [HTT.out]; rfl, (by first | exact HBr | exact drew_below HBr)⟩
          · have HNX : Hid (tagsFrom (prevT l (k + 1)) (l.drop (k + 1)) = T) := Lib.hid (by have := HST.out; rw [Bool.true_and] at this; exact this.symm)
            refine wp_region_noPanic ?_
            refine wp_region_held_drew (S := (fun w_ => w_.cell? ⟨b1, o1 + k, none⟩ = some (.string t))) (by kernel_rfl) ?_ (fun hHeld => ?_)
            · (first | with_reducible exact QD | with_reducible assumption)
            refine tk 0 ?_; try simp only [Act.put, pz1, pz2, pz3]
            refine tk 1 ?_; try simp only [Act.put, pz1, pz2, pz3]
            refine tk 2 ?_; try simp only [Act.put, pz1, pz2, pz3]
            refine tk 3 ?_; try simp only [Act.put, pz1, pz2, pz3]
            refine wpAnyH_ready (rs := [4]) (by kernel_rfl) (by simp) ?_
            refine AllReadyH.cons (o := ⟨some 19, .call { callee := .value (.func 51), args := #[.tmp 18], argTypes := #[9] }, 4, "ref.go:31", #[⟨3, .data⟩], none⟩) rfl (fun K hK => ?_) AllReadyH.nil
            go_simp
            (go_at_call 51; ((with_reducible refine (rmay_any3 t _ _ ht HNM.out).mono ?_); rintro e' wN ⟨rfl, rfl⟩))
            go_wp2_with fail
            refine hK.out _ _ ?_ (fun hNew => ?_)
            · (first | with_reducible exact QD | with_reducible assumption)
            clear hK K hHeld
            have hHeld := hNew
            clear hNew
            try simp only [Act.put, pz1, pz2, pz3]
            refine tk 5 ?_; try simp only [Act.put, pz1, pz2, pz3]
            refine tk 6 ?_; try simp only [Act.put, pz1, pz2, pz3]
            refine tk 7 ?_; try simp only [Act.put, pz1, pz2, pz3]
            refine tk 8 ?_; try simp only [Act.put, pz1, pz2, pz3]
            refine tk 9 ?_; try simp only [Act.put, pz1, pz2, pz3]
            refine tu 10 ?_
            try simp only [Act.put, pz1, pz2, pz3]
            refine tu 11 ?_
            try simp only [Act.put, pz1, pz2, pz3]
            refine tu 12 ?_
            try simp only [Act.put, pz1, pz2, pz3]
            refine tu 13 ?_
            try simp only [Act.put, pz1, pz2, pz3]
            refine tu 14 ?_
            try simp only [Act.put, pz1, pz2, pz3]
            refine tu 15 ?_
            try simp only [Act.put, pz1, pz2, pz3]
            refine tu 16 ?_
            try simp only [Act.put, pz1, pz2, pz3]
            refine tu 17 ?_
            try simp only [Act.put, pz1, pz2, pz3]
            refine tu 18 ?_
            try simp only [Act.put, pz1, pz2, pz3]
            refine tu 19 ?_
            try simp only [Act.put, pz1, pz2, pz3]
            refine tk 20 ?_; try simp only [Act.put, pz1, pz2, pz3]
            refine tk 21 ?_; try simp only [Act.put, pz1, pz2, pz3]
            refine wpAnyH_done (by kernel_rfl) ?_ _
            refine NoPanic.normal ?_
            go_wp2_with fail
            go_roundw
            case rel => exact ⟨k + 1, by omega, by go_num, HNX, (by first | exact HBr | exact drew_below HBr)⟩
            case measure => simp [intOf]; omega
        · obtain ⟨j, hj⟩ : ∃ j, k = j + 1 := ⟨k - 1, by omega⟩
          obtain ⟨p, hp0⟩ : ∃ p, l[j]? = some p := ⟨_, List.getElem?_eq_getElem (by have := HN.out; omega)⟩
          have cy : wr.cell? ⟨b1, o1 + j, none⟩ = some (.string p) := (HBr.cell (p := ⟨b1, o1 + j, none⟩) l1).trans (HQ1.out j (.string p) (by rw [List.getElem?_map, hp0]; rfl))
          obtain ⟨LS, hLS⟩ : ∃ b, lessS p t = b := ⟨_, rfl⟩
          have HST : Hid (T = (N && (LS && tagsFrom (prevT l (k + 1)) (l.drop (k + 1))))) := Lib.hid (by
            have h1 := HK.out
            have h2 := HT0.out
            subst hj
            rw [tags_next h2 hp0, hN, hLS] at h1
            exact h1.symm)
          have j00 : (0 : Int) ≤ (j : Int) := by omega
          have j01 : (j : Int) < (n : Int) := by omega
          have jsub : (k : Int) - 1 = (j : Int) := by omega
          have jwr : IntKind.i64.wrap (j : Int) = (j : Int) := wrapS _ (by omega) (by omega)
          have QD : wr.drew.cell? ⟨b1, o1 + k, none⟩ = some (.string t) ∧ wr.drew.cell? ⟨b1, o1 + j, none⟩ = some (.string p) := ⟨drew_cell cx, drew_cell cy⟩
          clear hj hp0 hN
          go_upto_region 4 with fail
          cases N
          · have HTT : Hid (T = false) := Lib.hid HST.out
            refine wp_region_noPanic ?_
            refine wp_region_held_drew (S := (fun w_ => w_.cell? ⟨b1, o1 + k, none⟩ = some (.string t) ∧ w_.cell? ⟨b1, o1 + j, none⟩ = some (.string p))) (by kernel_rfl) ?_ (fun hHeld => ?_)
            · (first | with_reducible exact QD | with_reducible assumption)
            refine tk 0 ?_; try simp only [Act.put, pz1, pz2, pz3]
            refine tk 1 ?_; try simp only [Act.put, pz1, pz2, pz3]
            refine tk 2 ?_; try simp only [Act.put, pz1, pz2, pz3]
            refine tk 3 ?_; try simp only [Act.put, pz1, pz2, pz3]
            refine wpAnyH_ready (rs := [4]) (by kernel_rfl) (by simp) ?_
            refine AllReadyH.cons (o := ⟨some 19, .call { callee := .value (.func 51), args := #[.tmp 18], argTypes := #[9] }, 4, "ref.go:31", #[⟨3, .data⟩], none⟩) rfl (fun K hK => ?_) AllReadyH.nil
            go_simp
            (go_at_call 51; ((with_reducible refine (rmay_any3 t _ _ ht HNM.out).mono ?_); rintro e' wN ⟨rfl, rfl⟩))
            go_wp2_with fail
            refine hK.out _ _ ?_ (fun hNew => ?_)
            · (first | with_reducible exact QD | with_reducible assumption)
            clear hK K hHeld
            have hHeld := hNew
            clear hNew
            try simp only [Act.put, pz1, pz2, pz3]
            refine tk 5 ?_; try simp only [Act.put, pz1, pz2, pz3]
            refine tk 6 ?_; try simp only [Act.put, pz1, pz2, pz3]
            refine tu 7 ?_
            try simp only [Act.put, pz1, pz2, pz3]
            refine tu 8 ?_
            try simp only [Act.put, pz1, pz2, pz3]
            refine tu 9 ?_
            try simp only [Act.put, pz1, pz2, pz3]
            refine tu 10 ?_
            try simp only [Act.put, pz1, pz2, pz3]
            refine tu 11 ?_
            try simp only [Act.put, pz1, pz2, pz3]
            refine tu 12 ?_
            try simp only [Act.put, pz1, pz2, pz3]
            refine tu 13 ?_
            try simp only [Act.put, pz1, pz2, pz3]
            refine tu 14 ?_
            try simp only [Act.put, pz1, pz2, pz3]
            refine tu 15 ?_
            try simp only [Act.put, pz1, pz2, pz3]
            refine tu 16 ?_
            try simp only [Act.put, pz1, pz2, pz3]
            refine tu 17 ?_
            try simp only [Act.put, pz1, pz2, pz3]
            refine tu 18 ?_
            try simp only [Act.put, pz1, pz2, pz3]
            refine tu 19 ?_
            try simp only [Act.put, pz1, pz2, pz3]
            refine tu 20 ?_
            try simp only [Act.put, pz1, pz2, pz3]
            refine tk 21 ?_; try simp only [Act.put, pz1, pz2, pz3]
            refine wpAnyH_done (by kernel_rfl) ?_ _
            refine NoPanic.normal ?_
            go_wp2_with fail
            go_ret
            exact ⟨by rw [HTT.out]; rfl, (by first | exact HBr | exact drew_below HBr)⟩
          · cases LS
            · have HTT : Hid (T = false) := Lib.hid HST.out
              have hle := leq_not hLS
              clear hLS
              refine wp_region_noPanic ?_
              refine wp_region_held_drew (S := (fun w_ => w_.cell? ⟨b1, o1 + k, none⟩ = some (.string t) ∧ w_.cell? ⟨b1, o1 + j, none⟩ = some (.string p))) (by kernel_rfl) ?_ (fun hHeld => ?_)
              · (first | with_reducible exact QD | with_reducible assumption)
              refine tk 0 ?_; try simp only [Act.put, pz1, pz2, pz3]
              refine tk 1 ?_; try simp only [Act.put, pz1, pz2, pz3]
              refine tk 2 ?_; try simp only [Act.put, pz1, pz2, pz3]
              refine tk 3 ?_; try simp only [Act.put, pz1, pz2, pz3]
              refine wpAnyH_ready (rs := [4]) (by kernel_rfl) (by simp) ?_
              refine AllReadyH.cons (o := ⟨some 19, .call { callee := .value (.func 51), args := #[.tmp 18], argTypes := #[9] }, 4, "ref.go:31", #[⟨3, .data⟩], none⟩) rfl (fun K hK => ?_) AllReadyH.nil
              go_simp
              (go_at_call 51; ((with_reducible refine (rmay_any3 t _ _ ht HNM.out).mono ?_); rintro e' wN ⟨rfl, rfl⟩))
              go_wp2_with fail
              refine hK.out _ _ ?_ (fun hNew => ?_)
              · (first | with_reducible exact QD | with_reducible assumption)
              clear hK K hHeld
              have hHeld := hNew
              clear hNew
              try simp only [Act.put, pz1, pz2, pz3]
              refine tk 5 ?_; try simp only [Act.put, pz1, pz2, pz3]
              refine tk 6 ?_; try simp only [Act.put, pz1, pz2, pz3]
              refine tk 7 ?_; try simp only [Act.put, pz1, pz2, pz3]
              refine tk 8 ?_; try simp only [Act.put, pz1, pz2, pz3]
              refine tk 9 ?_; try simp only [Act.put, pz1, pz2, pz3]
              refine tk 10 ?_; try simp only [Act.put, pz1, pz2, pz3]
              refine tk 11 ?_; try simp only [Act.put, pz1, pz2, pz3]
              refine tk 12 ?_; try simp only [Act.put, pz1, pz2, pz3]
              refine tk 13 ?_; try simp only [Act.put, pz1, pz2, pz3]
              refine tk 14 ?_; try simp only [Act.put, pz1, pz2, pz3]
              refine tk 15 ?_; try simp only [Act.put, pz1, pz2, pz3]
              refine tk 16 ?_; try simp only [Act.put, pz1, pz2, pz3]
              refine tk 17 ?_; try simp only [Act.put, pz1, pz2, pz3]
              refine tk 18 ?_; try simp only [Act.put, pz1, pz2, pz3]
              refine tk 19 ?_; try simp only [Act.put, pz1, pz2, pz3]
              refine tk 20 ?_; try simp only [Act.put, pz1, pz2, pz3]
              refine tk 21 ?_; try simp only [Act.put, pz1, pz2, pz3]
              refine wpAnyH_done (by kernel_rfl) ?_ _
              refine NoPanic.normal ?_
              go_wp2_with fail
              go_ret
              exact ⟨by rw [HTT.out]; rfl, (by first | exact HBr | exact drew_below HBr)⟩
            · have hle := lt_not hLS
              have hA := hle.1
              have hE := hle.2
              clear hLS hle
              have HNX : Hid (tagsFrom (prevT l (k + 1)) (l.drop (k + 1)) = T) := Lib.hid (by have := HST.out; rw [Bool.true_and, Bool.true_and] at this; exact this.symm)
              refine wp_region_noPanic ?_
              refine wp_region_held_drew (S := (fun w_ => w_.cell? ⟨b1, o1 + k, none⟩ = some (.string t) ∧ w_.cell? ⟨b1, o1 + j, none⟩ = some (.string p))) (by kernel_rfl) ?_ (fun hHeld => ?_)
              · (first | with_reducible exact QD | with_reducible assumption)
              refine tk 0 ?_; try simp only [Act.put, pz1, pz2, pz3]
              refine tk 1 ?_; try simp only [Act.put, pz1, pz2, pz3]
              refine tk 2 ?_; try simp only [Act.put, pz1, pz2, pz3]
              refine tk 3 ?_; try simp only [Act.put, pz1, pz2, pz3]
              refine wpAnyH_ready (rs := [4]) (by kernel_rfl) (by simp) ?_
              refine AllReadyH.cons (o := ⟨some 19, .call { callee := .value (.func 51), args := #[.tmp 18], argTypes := #[9] }, 4, "ref.go:31", #[⟨3, .data⟩], none⟩) rfl (fun K hK => ?_) AllReadyH.nil
              go_simp
              (go_at_call 51; ((with_reducible refine (rmay_any3 t _ _ ht HNM.out).mono ?_); rintro e' wN ⟨rfl, rfl⟩))
              go_wp2_with fail
              refine hK.out _ _ ?_ (fun hNew => ?_)
              · (first | with_reducible exact QD | with_reducible assumption)
              clear hK K hHeld
              have hHeld := hNew
              clear hNew
              try simp only [Act.put, pz1, pz2, pz3]
              refine tk 5 ?_; try simp only [Act.put, pz1, pz2, pz3]
              refine tk 6 ?_; try simp only [Act.put, pz1, pz2, pz3]
              refine tk 7 ?_; try simp only [Act.put, pz1, pz2, pz3]
              refine tk 8 ?_; try simp only [Act.put, pz1, pz2, pz3]
              refine tk 9 ?_; try simp only [Act.put, pz1, pz2, pz3]
              refine tk 10 ?_; try simp only [Act.put, pz1, pz2, pz3]
              refine tk 11 ?_; try simp only [Act.put, pz1, pz2, pz3]
              refine tk 12 ?_; try simp only [Act.put, pz1, pz2, pz3]
              refine tk 13 ?_; try simp only [Act.put, pz1, pz2, pz3]
              refine tk 14 ?_; try simp only [Act.put, pz1, pz2, pz3]
              refine tk 15 ?_; try simp only [Act.put, pz1, pz2, pz3]
              refine tk 16 ?_; try simp only [Act.put, pz1, pz2, pz3]
              refine tk 17 ?_; try simp only [Act.put, pz1, pz2, pz3]
              refine tk 18 ?_; try simp only [Act.put, pz1, pz2, pz3]
              refine tk 19 ?_; try simp only [Act.put, pz1, pz2, pz3]
              refine tk 20 ?_; try simp only [Act.put, pz1, pz2, pz3]
              refine tk 21 ?_; try simp only [Act.put, pz1, pz2, pz3]
              refine wpAnyH_done (by kernel_rfl) ?_ _
              refine NoPanic.normal ?_
              go_wp2_with fail
              go_roundw
              case rel => exact ⟨k + 1, by omega, by go_num, HNX, (by first | exact HBr | exact drew_below HBr)⟩
              case measure => simp [intOf]; omega
      · have hjn : k = n := by omega
        subst hjn
        have HTT : Hid (T = true) := Lib.hid (by have := HK.out; rw [← HN.out, tags_end] at this; exact this.symm)
        go_wp2_with fail
        go_ret
        exact ⟨by rw [HTT.out]; rfl, HBr⟩
  · have g4 : ¬ (n : Int) ≤ 4 := by omega
    have HTT : Hid (T = false) := Lib.hid (by rw [← hB, decide_eq_false h4]; rfl)
    clear hB h4
    go_enter Tryd.func53, Tryd.ntmps53
    go_wp2_with fail
    go_loop [3] (fun i => i = .int .i64 0) (fun i => 0)
    case atStart => rfl
    case round =>
      obtain rfl := hrel
      rcases Nat.eq_zero_or_pos n with h0 | h0
      · omega
      · have g0 : (0 : Int) < (n : Int) := by omega
        go_wp2_with fail
        go_ret
        exact ⟨by rw [HTT.out]; show Ending.returned (.bool (decide ((n : Int) ≤ 4))) = _; rw [decide_eq_false (by omega)], HB0⟩
end Go.Proofs.YtllnfociddodcaaDoor
namespace Go.Proofs.YtllnfociddodcaaDoor
open Go.ChangeShapes Go.WideShapes Go.ChangeAt Go.RowKit
attribute [local go_sem ↓] Go.wp_at_zero Go.wp_at_succ
theorem shIn_step {ns : Int} {L : List Int} {i : Nat} {x : Int} (h : L[i]? = some x) : sheetsIn ns (L.take i).reverse (L.drop i) = (inI x 1 (ns - 1) && (!(L.take i).any (fun y => y == x) && sheetsIn ns (L.take (i + 1)).reverse (L.drop (i + 1)))) := by
  have h1 : (L.take (i + 1)).reverse = x :: (L.take i).reverse := by rw [List.take_add_one, h]; simp
  have h2 : (L.take i).reverse.contains x = (L.take i).any (fun y => y == x) := by
    rw [Bool.eq_iff_iff, List.contains_iff_mem, List.mem_reverse, List.any_eq_true]
    constructor
    · intro hx
      exact ⟨x, hx, by simp⟩
    · rintro ⟨y, hy, he⟩
      have : y = x := by simpa using he
      exact this ▸ hy
  rw [drop_next h, h1, ← h2]
  rfl
theorem shIn_end {ns : Int} {L : List Int} {q : List Int} : sheetsIn ns q (L.drop L.length) = true := by
  rw [List.drop_length]
  rfl
def rshB (s : Sf) : Bool := inI s.ns 1 4096 && sheetsIn s.ns [] (s.ts.flatMap Nt.sh)
theorem rsheets_any (s : Sf) (v : Value) (w : World) (hS : ShR w w.heap.size v s) (hln : s.ts.length ≤ 100000) (hlL : (s.ts.flatMap Nt.sh).length ≤ 100000) (T : Bool) (hB0 : rshB s = T) :
    Calls Tryd.prog 43 #[v] w fun e' w' => e' = .returned (.bool T) ∧ Below w.heap.size w w' := by
  have hS0 := hS
  obtain ⟨Ab, cb, An, cn, rfl, hB, hN, hcb, hmb, hcn, hmn⟩ := hS.ex
  clear hS
  have HB : Below w.heap.size w (w.alloc (.cells #[.int .i64 s.nb, .int .i64 s.nn, .int .i64 s.ns, .slice Ab s.bs.length cb, .slice An s.ts.length cn] 25)) := ((Below.refl w.heap.size w).alloc (by first | (simp; done) | (simp; omega)) _)
  have B1 : Blk (w.alloc (.cells #[.int .i64 s.nb, .int .i64 s.nn, .int .i64 s.ns, .slice Ab s.bs.length cb, .slice An s.ts.length cn] 25)) w.heap.size 25 #[.int .i64 s.nb, .int .i64 s.nn, .int .i64 s.ns, .slice Ab s.bs.length cb, .slice An s.ts.length cn] := Blk.new_ w 25 #[.int .i64 s.nb, .int .i64 s.nn, .int .i64 s.ns, .slice Ab s.bs.length cb, .slice An s.ts.length cn]
  have S1 : ShR (w.alloc (.cells #[.int .i64 s.nb, .int .i64 s.nn, .int .i64 s.ns, .slice Ab s.bs.length cb, .slice An s.ts.length cn] 25)) ((w.alloc (.cells #[.int .i64 s.nb, .int .i64 s.nn, .int .i64 s.ns, .slice Ab s.bs.length cb, .slice An s.ts.length cn] 25))).heap.size (.agg #[.int .i64 s.nb, .int .i64 s.nn, .int .i64 s.ns, .slice Ab s.bs.length cb, .slice An s.ts.length cn]) s := hS0.next HB
  have HTB := Lib.hid hB0
  clear hB hN hcb hmb hcn hmn hS0 hB0
  by_cases c1 : s.ns < 1
  · have HTT : Hid (T = false) := Lib.hid (by rw [← HTB.out]; unfold rshB inI; rw [decide_eq_false (by omega : ¬ 1 ≤ s.ns)]; rfl)
    go_enter Tryd.func43, Tryd.ntmps43
    go_wp2_with fail
    go_ret
    exact ⟨by rw [HTT.out]; rfl, HB⟩
  · by_cases c2 : 4096 < s.ns
    · have HTT : Hid (T = false) := Lib.hid (by rw [← HTB.out]; unfold rshB inI; rw [decide_eq_false (by omega : ¬ s.ns ≤ 4096)]; simp)
      go_enter Tryd.func43, Tryd.ntmps43
      go_wp2_with fail
      go_ret
      exact ⟨by rw [HTT.out]; rfl, HB⟩
    · obtain ⟨L, hL⟩ : ∃ L, s.ts.flatMap Nt.sh = L := ⟨_, rfl⟩
      have HT0 : Hid (sheetsIn s.ns (L.take 0).reverse (L.drop 0) = T) := Lib.hid (by rw [← HTB.out, ← hL]; unfold rshB inI; rw [decide_eq_true (by omega : 1 ≤ s.ns), decide_eq_true (by omega : s.ns ≤ 4096)]; simp)
      have hcall := rSheets_any s _ _ S1 hln hlL
      rw [hL] at hcall hlL
      obtain ⟨n, hn⟩ : ∃ n, L.length = n := ⟨_, rfl⟩
      rw [hn] at hcall hlL
      have HN := Lib.hid hn
      have HC := Lib.hid hcall
      clear hL hn hcall S1 HTB
      go_enter Tryd.func43, Tryd.ntmps43
      go_upto_region 4 with (go_at_call 54; ((with_reducible refine HC.out.mono ?_); rintro e' w3 ⟨A, c, rfl, hrow, hlc, hcm, b3⟩; have B1 := B1.below b3 B1.lt; have HB := btr HB HB.size b3; clear b3))
      clear HC hlc hcm
      go_wp2_with fail
      go_loopw [4] (fun iv wr => ∃ i : Nat, i ≤ n ∧ iv = .int .i64 i ∧ Hid (sheetsIn s.ns (L.take i).reverse (L.drop i) = T) ∧ Below w3.heap.size w3 wr) (fun iv _ => n - (intOf iv).toNat)
      case atStart => exact ⟨0, by omega, rfl, HT0, Below.refl _ _⟩
      case round =>
        clear HT0
        obtain ⟨i, hi, rfl, HI, hbr⟩ := hrel
        obtain ⟨wo, hwo⟩ : ∃ V : World, V = wr := ⟨_, rfl⟩
        subst hwo
        have HBr := btr HB HB.size hbr
        have C1 := B1.below hbr B1.lt
        have ROW := hrow.next hbr
        clear HB B1
        have k2 := C1.cell_ 2
        simp at k2
        by_cases hlt : i < n
        · have hlx : i < L.length := by have := HN.out; omega
          obtain ⟨x, hx⟩ : ∃ x, L[i]? = some x := ⟨_, List.getElem?_eq_getElem hlx⟩
          obtain ⟨b1, o1, rfl, l3, q3⟩ := hrow.at_ (by rw [List.length_map]; omega)
          have HQ3 := Lib.hid q3
          have HX3 : Hid ((L.map (Value.int .i64))[i]? = some (.int .i64 x)) := Lib.hid (by rw [List.getElem?_map, hx]; rfl)
          have q1 : ∀ q u, (L.map (Value.int .i64))[q]? = some u → wo.cell? ⟨b1, o1 + q, none⟩ = some u := fun q u hu => (hbr.cell (p := ⟨b1, o1 + q, none⟩) l3).trans (q3 q u hu)
          clear q3
          have cx : wo.cell? ⟨b1, o1 + i, none⟩ = some (.int .i64 x) := q1 i (.int .i64 x) (by rw [List.getElem?_map, hx]; rfl)
          have i0 : (0 : Int) ≤ (i : Int) := by omega
          have i1 : (i : Int) < (n : Int) := by omega
          have HST := Lib.hid (shIn_step (ns := s.ns) hx)
          have HQ1 := Lib.hid q1
          have HX := Lib.hid hx
          have QD : wo.drew.cell? ⟨b1, o1 + i, none⟩ = some (.int .i64 x) ∧ wo.drew.cell? ⟨w.heap.size, 2, none⟩ = some (.int .i64 s.ns) := ⟨drew_cell cx, drew_cell k2⟩
          clear hx q1 hlx
          go_upto_region 7 with fail
          by_cases d1 : x < 1
          · have HTT : Hid (T = false) := Lib.hid (by rw [← HI.out, HST.out]; unfold inI; rw [decide_eq_false (by omega : ¬ 1 ≤ x)]; rfl)
            refine wp_region_noPanic ?_
            refine wp_region_held_drew (S := (fun w_ => w_.cell? ⟨b1, o1 + i, none⟩ = some (.int .i64 x) ∧ w_.cell? ⟨w.heap.size, 2, none⟩ = some (.int .i64 s.ns))) (by kernel_rfl) ?_ (fun hHeld => ?_)
            · (first | with_reducible exact QD | with_reducible assumption)
            refine tk 0 ?_; try simp only [Act.put, pz1, pz2, pz3]
            refine tk 1 ?_; try simp only [Act.put, pz1, pz2, pz3]
            refine tk 2 ?_; try simp only [Act.put, pz1, pz2, pz3]
            refine tk 3 ?_; try simp only [Act.put, pz1, pz2, pz3]
            refine tk 4 ?_; try simp only [Act.put, pz1, pz2, pz3]
            refine tk 5 ?_; try simp only [Act.put, pz1, pz2, pz3]
            refine tu 6 ?_
            try simp only [Act.put, pz1, pz2, pz3]
            refine tu 7 ?_
            try simp only [Act.put, pz1, pz2, pz3]
            refine tu 8 ?_
            try simp only [Act.put, pz1, pz2, pz3]
            refine tu 9 ?_
            try simp only [Act.put, pz1, pz2, pz3]
            refine tu 10 ?_
            try simp only [Act.put, pz1, pz2, pz3]
            refine tu 11 ?_
            try simp only [Act.put, pz1, pz2, pz3]
            refine tu 12 ?_
            try simp only [Act.put, pz1, pz2, pz3]
            refine tk 13 ?_; try simp only [Act.put, pz1, pz2, pz3]
            refine wpAnyH_done (by kernel_rfl) ?_ _
            refine NoPanic.normal ?_
            go_wp2_with fail
            go_ret
            exact ⟨by rw [HTT.out]; rfl, (by first | exact HBr | exact drew_below HBr)⟩
          · by_cases d2 : s.ns ≤ x
            · have HTT : Hid (T = false) := Lib.hid (by rw [← HI.out, HST.out]; unfold inI; rw [decide_eq_false (by omega : ¬ x ≤ s.ns - 1)]; simp)
              refine wp_region_noPanic ?_
              refine wp_region_held_drew (S := (fun w_ => w_.cell? ⟨b1, o1 + i, none⟩ = some (.int .i64 x) ∧ w_.cell? ⟨w.heap.size, 2, none⟩ = some (.int .i64 s.ns))) (by kernel_rfl) ?_ (fun hHeld => ?_)
              · (first | with_reducible exact QD | with_reducible assumption)
              refine tk 0 ?_; try simp only [Act.put, pz1, pz2, pz3]
              refine tk 1 ?_; try simp only [Act.put, pz1, pz2, pz3]
              refine tk 2 ?_; try simp only [Act.put, pz1, pz2, pz3]
              refine tk 3 ?_; try simp only [Act.put, pz1, pz2, pz3]
              refine tk 4 ?_; try simp only [Act.put, pz1, pz2, pz3]
              refine tk 5 ?_; try simp only [Act.put, pz1, pz2, pz3]
              refine tk 6 ?_; try simp only [Act.put, pz1, pz2, pz3]
              refine tk 7 ?_; try simp only [Act.put, pz1, pz2, pz3]
              refine tk 8 ?_; try simp only [Act.put, pz1, pz2, pz3]
              refine tk 9 ?_; try simp only [Act.put, pz1, pz2, pz3]
              refine tk 10 ?_; try simp only [Act.put, pz1, pz2, pz3]
              refine tk 11 ?_; try simp only [Act.put, pz1, pz2, pz3]
              refine tk 12 ?_; try simp only [Act.put, pz1, pz2, pz3]
              refine tk 13 ?_; try simp only [Act.put, pz1, pz2, pz3]
              refine wpAnyH_done (by kernel_rfl) ?_ _
              refine NoPanic.normal ?_
              go_wp2_with fail
              go_ret
              exact ⟨by rw [HTT.out]; rfl, (by first | exact HBr | exact drew_below HBr)⟩
            · have HIN : Hid (inI x 1 (s.ns - 1) = true) := Lib.hid (inI_of (by omega) (by omega))
              refine wp_region_noPanic ?_
              refine wp_region_held_drew (S := (fun w_ => w_.cell? ⟨b1, o1 + i, none⟩ = some (.int .i64 x) ∧ w_.cell? ⟨w.heap.size, 2, none⟩ = some (.int .i64 s.ns))) (by kernel_rfl) ?_ (fun hHeld => ?_)
              · (first | with_reducible exact QD | with_reducible assumption)
              refine tk 0 ?_; try simp only [Act.put, pz1, pz2, pz3]
              refine tk 1 ?_; try simp only [Act.put, pz1, pz2, pz3]
              refine tk 2 ?_; try simp only [Act.put, pz1, pz2, pz3]
              refine tk 3 ?_; try simp only [Act.put, pz1, pz2, pz3]
              refine tk 4 ?_; try simp only [Act.put, pz1, pz2, pz3]
              refine tk 5 ?_; try simp only [Act.put, pz1, pz2, pz3]
              refine tk 6 ?_; try simp only [Act.put, pz1, pz2, pz3]
              refine tk 7 ?_; try simp only [Act.put, pz1, pz2, pz3]
              refine tk 8 ?_; try simp only [Act.put, pz1, pz2, pz3]
              refine tk 9 ?_; try simp only [Act.put, pz1, pz2, pz3]
              refine tk 10 ?_; try simp only [Act.put, pz1, pz2, pz3]
              refine tk 11 ?_; try simp only [Act.put, pz1, pz2, pz3]
              refine tk 12 ?_; try simp only [Act.put, pz1, pz2, pz3]
              refine tk 13 ?_; try simp only [Act.put, pz1, pz2, pz3]
              refine wpAnyH_done (by kernel_rfl) ?_ _
              refine NoPanic.normal ?_
              go_wp2_with fail
              obtain ⟨wn, hwn⟩ : ∃ V : World, V = wo.drew := ⟨_, rfl⟩
              have hDn := below_dr wo
              rw [← hwn] at hDn ⊢
              have HBn := btr HBr HBr.size hDn
              have hbn := btr hbr hbr.size hDn
              clear hwn hDn QD cx k2 HBr hbr C1 ROW HX
              have H0 : Hid ((L.take 0).any (fun y => y == x) = false) := Lib.hid rfl
              go_loopw [5] (fun kv wr => ∃ k : Nat, k ≤ i ∧ kv = .int .i64 k ∧ Hid ((L.take k).any (fun y => y == x) = false) ∧ Below w.heap.size w wr ∧ Below w3.heap.size w3 wr) (fun kv _ => i - (intOf kv).toNat)
              case atStart => exact ⟨0, by omega, rfl, H0, HBn, hbn⟩
              case round =>
                clear H0 HBn hbn
                obtain ⟨k, hk, rfl, HZ, HBq, hbq⟩ := hrel
                by_cases hlk : k < i
                · obtain ⟨z, hz⟩ : ∃ z, L[k]? = some z := ⟨_, List.getElem?_eq_getElem (by have := HN.out; omega)⟩
                  have cz0 := HQ3.out k (.int .i64 z) (by rw [List.getElem?_map, hz]; rfl)
                  have cx0 := HQ3.out i (.int .i64 x) HX3.out
                  have cz : wr.cell? ⟨b1, o1 + k, none⟩ = some (.int .i64 z) := (hbq.cell (p := ⟨b1, _, none⟩) l3).trans cz0
                  have cx : wr.cell? ⟨b1, o1 + i, none⟩ = some (.int .i64 x) := (hbq.cell (p := ⟨b1, _, none⟩) l3).trans cx0
                  have HZK := Lib.hid hz
                  have k0 : (0 : Int) ≤ (k : Int) := by omega
                  have k1 : (k : Int) < (i : Int) := by omega
                  have k3 : (k : Int) < (n : Int) := by omega
                  have QE : wr.drew.cell? ⟨b1, o1 + k, none⟩ = some (.int .i64 z) ∧ wr.drew.cell? ⟨b1, o1 + i, none⟩ = some (.int .i64 x) := ⟨drew_cell cz, drew_cell cx⟩
                  clear hz cz0 cx0
                  go_upto_region 12 with fail
                  rcases (by cases hq : (z == x) <;> simp : (z == x) = true ∨ (z == x) = false) with hp | hp
                  · have HTT : Hid (T = false) := Lib.hid (by rw [← HI.out, HST.out, List.any_eq_true.2 ⟨z, List.mem_take_iff_getElem.2 ⟨k, by have := HN.out; omega, (List.getElem?_eq_some_iff.1 HZK.out).2⟩, hp⟩]; simp)
                    refine wp_region_noPanic ?_
                    refine wp_region_held_drew (S := (fun w_ => w_.cell? ⟨b1, o1 + k, none⟩ = some (.int .i64 z) ∧ w_.cell? ⟨b1, o1 + i, none⟩ = some (.int .i64 x))) (by kernel_rfl) ?_ (fun hHeld => ?_)
                    · (first | with_reducible exact QE | with_reducible assumption)
                    refine tk 0 ?_; try simp only [Act.put, pz1, pz2, pz3]
                    refine tk 1 ?_; try simp only [Act.put, pz1, pz2, pz3]
                    refine tk 2 ?_; try simp only [Act.put, pz1, pz2, pz3]
                    refine tk 3 ?_; try simp only [Act.put, pz1, pz2, pz3]
                    refine tk 4 ?_; try simp only [Act.put, pz1, pz2, pz3]
                    refine tk 5 ?_; try simp only [Act.put, pz1, pz2, pz3]
                    refine tk 6 ?_; try simp only [Act.put, pz1, pz2, pz3]
                    refine tk 7 ?_; try simp only [Act.put, pz1, pz2, pz3]
                    refine tk 8 ?_; try simp only [Act.put, pz1, pz2, pz3]
                    refine wpAnyH_done (by kernel_rfl) ?_ _
                    refine NoPanic.normal ?_
                    go_wp2_with fail
                    go_ret
                    exact ⟨by rw [HTT.out]; rfl, (by first | exact HBq | exact drew_below HBq)⟩
                  · have HZX : Hid ((fun y => y == x) z = false) := Lib.hid hp
                    refine wp_region_noPanic ?_
                    refine wp_region_held_drew (S := (fun w_ => w_.cell? ⟨b1, o1 + k, none⟩ = some (.int .i64 z) ∧ w_.cell? ⟨b1, o1 + i, none⟩ = some (.int .i64 x))) (by kernel_rfl) ?_ (fun hHeld => ?_)
                    · (first | with_reducible exact QE | with_reducible assumption)
                    refine tk 0 ?_; try simp only [Act.put, pz1, pz2, pz3]
                    refine tk 1 ?_; try simp only [Act.put, pz1, pz2, pz3]
                    refine tk 2 ?_; try simp only [Act.put, pz1, pz2, pz3]
                    refine tk 3 ?_; try simp only [Act.put, pz1, pz2, pz3]
                    refine tk 4 ?_; try simp only [Act.put, pz1, pz2, pz3]
                    refine tk 5 ?_; try simp only [Act.put, pz1, pz2, pz3]
                    refine tk 6 ?_; try simp only [Act.put, pz1, pz2, pz3]
                    refine tk 7 ?_; try simp only [Act.put, pz1, pz2, pz3]
                    refine tk 8 ?_; try simp only [Act.put, pz1, pz2, pz3]
                    refine wpAnyH_done (by kernel_rfl) ?_ _
                    refine NoPanic.normal ?_
                    go_wp2_with fail
                    go_roundw
                    case rel => exact ⟨k + 1, by omega, by go_num, Lib.hid (any_next HZ.out HZK.out HZX.out), (by first | exact HBq | exact drew_below HBq), (by first | exact hbq | exact drew_below hbq)⟩
                    case measure => simp [intOf]; omega
                · have hki : k = i := by omega
                  subst hki
                  have HNX : Hid (sheetsIn s.ns (L.take (k + 1)).reverse (L.drop (k + 1)) = T) := Lib.hid (by rw [← HI.out, HST.out, HIN.out, HZ.out]; rfl)
                  go_wp2_with fail
                  go_roundw
                  case rel => exact ⟨k + 1, by omega, by go_num, HNX, hbq⟩
                  case measure => simp [intOf]; omega
        · have hjn : i = n := by omega
          subst hjn
          have HTT : Hid (T = true) := Lib.hid (by have := HI.out; rw [← HN.out, shIn_end] at this; exact this.symm)
          go_wp2_with fail
          go_ret
          exact ⟨by rw [HTT.out]; rfl, HBr⟩
end Go.Proofs.YtllnfociddodcaaDoor
