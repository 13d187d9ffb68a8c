/- TagLengths: the walk. -/
import Derived.Test.YtjmochkhdapmiaaTagOver
namespace Go.Proofs.Ytjmochkhdapmiaa
open Go.ChangeShapes Go.WideShapes Go.ChangeAt Go.RowKit
attribute [local go_sem ↓] Go.wp_at_zero Go.wp_at_succ
set_option linter.unusedSimpArgs false
set_option linter.unusedVariables false

theorem raw_short {d : List Nat} {k p s e : Nat} (h : LayOk d k p s e) : readSt ((rawB d k p s e).take (d.length + 15)) ≠ 1 := by
  obtain ⟨h1, h2, h3, h4, _⟩ := h
  have hl := rawB_len d k p s e
  have hm := raw_mark d k p s e
  have hlen : ((rawB d k p s e).take (d.length + 15)).length = d.length + 15 := by simp; omega
  unfold readSt
  split
  · split
    · omega
    · rw [if_neg]
      · omega
      · rintro ⟨ht, _⟩
        have htk : tK (((rawB d k p s e).take (d.length + 15)).drop (((rawB d k p s e).take (d.length + 15)).length - 16)) = 74 := by
          unfold tK
          rw [hlen]
          simp only [List.getD_eq_getElem?_getD, List.getElem?_drop, List.getElem?_take] at hm ⊢
          rw [show d.length + 15 - 16 + 1 = d.length by omega, if_pos (by omega)]
          exact hm
        rw [htk] at ht
        have := tagB_iff.1 ht
        omega
  · omega
theorem raw_long {d : List Nat} {k p s e : Nat} (h : LayOk d k p s e) : readSt (rawB d k p s e ++ [0]) ≠ 1 := by
  obtain ⟨h1, h2, h3, h4, _⟩ := h
  have hl := rawB_len d k p s e
  have hk := raw_kind d k p s e
  refine st_not1 (n := d.length + 1) (by simp; omega) ?_
  unfold soundB
  have : (rawB d k p s e ++ [0]).getD (d.length + 1) 0 = k := by
    simp only [List.getD_eq_getElem?_getD] at hk ⊢
    rw [List.getElem?_append_left (by omega)]
    exact hk
  rw [this, show (k == 74) = false by simp; omega]
  rfl
theorem app8 {bs cs : List Nat} (h : Bytes8 bs) (h' : Bytes8 cs) : Bytes8 (bs ++ cs) := fun b hb => by
  rcases List.mem_append.1 hb with hb | hb
  · exact h b hb
  · exact h' b hb

set_option maxRecDepth 100000 in
set_option maxHeartbeats 8000000 in
theorem lengths_walk (A1 : Option Addr) (n1 c1 : Nat) (a : List Nat) (tk tp ts te : Int) (w : World)
    (r1 : SlA w A1 n1 c1 (a.map byteV)) (h81 : Bytes8 a) (_ : i64in tk ∧ i64in tp ∧ i64in ts ∧ i64in te) :
    Calls Try.prog 8 #[.slice A1 n1 c1, .agg #[.int .i64 tk, .int .i64 tp, .int .i64 ts, .int .i64 te]] w fun e' w' => e' = .returned (.bool true) ∧ Below w.heap.size w w' := by
  obtain ⟨e1, h1, _⟩ := r1
  rw [List.length_map] at e1
  subst e1
  have HB0 : Below w.heap.size w (w.alloc (.cells #[.int .i64 tk, .int .i64 tp, .int .i64 ts, .int .i64 te] 24)) := (Below.refl _ _).alloc (Nat.le_refl _) _
  by_cases hx : 100 < a.length
  · have g1 : (100 : Int) < (a.length : Int) := by omega
    go_enter Try.func8, Try.ntmps8
    go_wp2_with (go_at_call 9; refine (awake_any _).mono ?_; rintro e' w2 ⟨rfl, hb2⟩)
    go_ret
    exact ⟨rfl, btr HB0 HB0.size hb2⟩
  have g1 : ¬ (100 : Int) < (a.length : Int) := by omega
  have m1 : a.length ≤ 1000000 := by omega
  have H1 := h1.next HB0
  have G1 : Blk (w.alloc (.cells #[.int .i64 tk, .int .i64 tp, .int .i64 ts, .int .i64 te] 24)) w.heap.size 24 #[.int .i64 tk, .int .i64 tp, .int .i64 ts, .int .i64 te] := Blk.new_ _ _ _
  rcases lay_cases a h81 tk tp ts te with hn1 | ⟨K, P, S, E, rfl, rfl, rfl, rfl, ok1⟩
  · have HN := Lib.hid hn1
    rcases (by cases hq : tagB tk tp ts te <;> simp : tagB tk tp ts te = false ∨ tagB tk tp ts te = true) with ht | ht
    · have HT := Lib.hid ht
      clear ht hn1
      go_enter Try.func8, Try.ntmps8
      go_wp2_with (first
        | (go_at_call 11; refine (lay_no a A1 c1 tk tp ts te _ HN.out (by omega)).mono ?_; rintro e' wL ⟨rfl, hb⟩; have HB0 := btr HB0 HB0.size hb; have H1 := H1.next hb; have G1 := G1.below hb G1.lt; (try clear y0 y1 y2 y3); have y0 := G1.cell_ 0; have y1 := G1.cell_ 1; have y2 := G1.cell_ 2; have y3 := G1.cell_ 3; simp at y0 y1 y2 y3; clear hb)
        | (go_at_call 15; refine (tmay_any _ _ _ _ _).mono ?_; rw [HT.out]; rintro e' wM ⟨rfl, hb⟩; have HB0 := btr HB0 HB0.size hb; have H1 := H1.next hb; have G1 := G1.below hb G1.lt; (try clear y0 y1 y2 y3); have y0 := G1.cell_ 0; have y1 := G1.cell_ 1; have y2 := G1.cell_ 2; have y3 := G1.cell_ 3; simp at y0 y1 y2 y3; clear hb)
        | (go_at_call 9; refine (awake_any _).mono ?_; rintro e' w2 ⟨rfl, hb2⟩))
      go_ret
      exact ⟨rfl, btr HB0 HB0.size hb2⟩
    · have hm : ¬ 24 ≤ a.length ∨ ¬ a.length ≤ 64 := by
        rcases hn1 with h | h
        · unfold mayDataB at h
          rw [Bool.and_eq_false_iff, decide_eq_false_iff_not, decide_eq_false_iff_not] at h
          omega
        · rw [ht] at h
          cases h
      have HT := Lib.hid ht
      clear ht hn1
      by_cases h24 : 24 ≤ a.length
      · have q1 : decide ((24 : Int) ≤ (a.length : Int)) = true := decide_eq_true (by omega)
        have q2 : decide ((a.length : Int) ≤ 64) = false := decide_eq_false (by omega)
        clear hm h24
        go_enter Try.func8, Try.ntmps8
        go_wp2_with (first
        | (go_at_call 11; refine (lay_no a A1 c1 tk tp ts te _ HN.out (by omega)).mono ?_; rintro e' wL ⟨rfl, hb⟩; have HB0 := btr HB0 HB0.size hb; have H1 := H1.next hb; have G1 := G1.below hb G1.lt; (try clear y0 y1 y2 y3); have y0 := G1.cell_ 0; have y1 := G1.cell_ 1; have y2 := G1.cell_ 2; have y3 := G1.cell_ 3; simp at y0 y1 y2 y3; clear hb)
        | (go_at_call 15; refine (tmay_any _ _ _ _ _).mono ?_; rw [HT.out]; rintro e' wM ⟨rfl, hb⟩; have HB0 := btr HB0 HB0.size hb; have H1 := H1.next hb; have G1 := G1.below hb G1.lt; (try clear y0 y1 y2 y3); have y0 := G1.cell_ 0; have y1 := G1.cell_ 1; have y2 := G1.cell_ 2; have y3 := G1.cell_ 3; simp at y0 y1 y2 y3; clear hb)
        | (go_at_call 9; refine (awake_any _).mono ?_; rintro e' w2 ⟨rfl, hb2⟩))
        go_ret
        exact ⟨rfl, btr HB0 HB0.size hb2⟩
      · have q1 : decide ((24 : Int) ≤ (a.length : Int)) = false := decide_eq_false (by omega)
        clear hm h24
        go_enter Try.func8, Try.ntmps8
        go_wp2_with (first
        | (go_at_call 11; refine (lay_no a A1 c1 tk tp ts te _ HN.out (by omega)).mono ?_; rintro e' wL ⟨rfl, hb⟩; have HB0 := btr HB0 HB0.size hb; have H1 := H1.next hb; have G1 := G1.below hb G1.lt; (try clear y0 y1 y2 y3); have y0 := G1.cell_ 0; have y1 := G1.cell_ 1; have y2 := G1.cell_ 2; have y3 := G1.cell_ 3; simp at y0 y1 y2 y3; clear hb)
        | (go_at_call 15; refine (tmay_any _ _ _ _ _).mono ?_; rw [HT.out]; rintro e' wM ⟨rfl, hb⟩; have HB0 := btr HB0 HB0.size hb; have H1 := H1.next hb; have G1 := G1.below hb G1.lt; (try clear y0 y1 y2 y3); have y0 := G1.cell_ 0; have y1 := G1.cell_ 1; have y2 := G1.cell_ 2; have y3 := G1.cell_ 3; simp at y0 y1 y2 y3; clear hb)
        | (go_at_call 9; refine (awake_any _).mono ?_; rintro e' w2 ⟨rfl, hb2⟩))
        go_ret
        exact ⟨rfl, btr HB0 HB0.size hb2⟩
  · have OK1 := Lib.hid ok1
    obtain ⟨L, hL⟩ : ∃ L, a.length + 15 = L := ⟨_, rfl⟩
    have hL1 : a.length + 16 = L + 1 := by omega
    have hr := rawB_len a K P S E
    have hs := raw_short ok1
    have hg := raw_long ok1
    have h8r : Bytes8 (rawB a K P S E) := rawB_8 ok1.2.2.2.2.2.2.2.2 (by have := ok1.2.2.2.1; omega)
    have hal : 24 ≤ a.length := ok1.1
    have h8t : Bytes8 ((rawB a K P S E).take L) := fun b hb => h8r b (List.mem_of_mem_take hb)
    have h8a : Bytes8 (rawB a K P S E ++ [0]) := app8 h8r (by intro b hb; simp at hb; omega)
    rw [hL] at hs
    obtain ⟨R, hR⟩ : ∃ R, rawB a K P S E = R := ⟨_, rfl⟩
    rw [hR] at hs hg hr h8r h8t h8a
    obtain ⟨s1, hs1⟩ : ∃ x, readSt (R.take L) = x := ⟨_, rfl⟩
    obtain ⟨s2, hs2⟩ : ∃ x, readSt (R ++ [0]) = x := ⟨_, rfl⟩
    rw [hs1] at hs
    rw [hs2] at hg
    have HR := Lib.hid hR
    have HS1 := Lib.hid hs1
    have HS2 := Lib.hid hs2
    have HL := Lib.hid hL
    have HL1 := Lib.hid hL1
    have HRL := Lib.hid hr
    have b1 : ((s1 : Int) != 1) = true := by simp; omega
    have b2 : ((s2 : Int) != 1) = true := by simp; omega
    have e6 : (((L : Int) + 1) != ((a.length : Int) + 16)) = false := by simp; omega
    have l1 : (L : Int) ≤ 1000 := by omega
    have hRt : (R.take L).length = L := by simp; omega
    have hRa : (R ++ [0]).length = L + 1 + 1 := by simp; omega
    have HRT := Lib.hid hRt
    have HRA := Lib.hid hRa
    have NS := Lib.hid hs
    have NG := Lib.hid hg
    obtain ⟨i0, hi, hz0, hz1, hz2⟩ := info_parts infoByte
    have hL2 : L ≤ 1000 := by omega
    clear ok1 hR hs1 hs2 hL hL1 hr hRt hRa hs hg
    go_enter Try.func8, Try.ntmps8
    go_wp2_with (first
      | (go_at_call 11; refine (lay_yes' a _ rfl A1 c1 K P S E _ H1 OK1.out).mono ?_; rintro e' wL ⟨sv, rfl, ho, hb⟩; have HB0 := btr HB0 HB0.size hb; have H1 := H1.next hb; have G1 := G1.below hb G1.lt; (try clear y0 y1 y2 y3); have y0 := G1.cell_ 0; have y1 := G1.cell_ 1; have y2 := G1.cell_ 2; have y3 := G1.cell_ 3; simp at y0 y1 y2 y3; rw [HR.out] at ho; replace ho := own_len HL1.out ho; obtain ⟨A5, c5, rfl, hl5, hc5, hc6, hA5, O5⟩ := own_slice ho; have HC6 := Lib.hid hc6; have l2 : (L : Int) ≤ (c5 : Int) := (by omega); have n5 : ¬ A5 = none := (fun h => by have := (hA5 h).1; omega); clear hl5 hc6 hA5 ho hb)
      | (go_at_call 19; ((with_reducible refine (read_bad (R.take L) L HRT.out A5 c5 _ (by rw [List.map_take]; exact sl_take O5 L) h8t (by omega) HC6.out (by omega) s1 HS1.out NS.out).mono ?_); rintro e' wR ⟨rfl, hb⟩; have HB0 := btr HB0 HB0.size hb; have H1 := H1.next hb; have G1 := G1.below hb G1.lt; (try clear y0 y1 y2 y3); have y0 := G1.cell_ 0; have y1 := G1.cell_ 1; have y2 := G1.cell_ 2; have y3 := G1.cell_ 3; simp at y0 y1 y2 y3; have O5 := O5.next hb; clear hb))
      | (at_builtin; refine wpList_app _ rfl (.const (.slice none 0 0)) (.tmp 62) _ rfl wR.heap.size 5 i0 _ 1 1 Try.underlying22 hi hz0 hz1 hz2 rfl (by decide) (.slice none 0 0) 0 [] rfl (World.ownsRow_nil _ _ _ _) _ (L + 1) _ (R.map byteV) rfl (Rd.of_sl (O5.alloc_ (.cells #[.int .i64 0, .int .i64 0, .int .i64 0, .int .i64 0] 24)) (by simp; have := HRL.out; have := HL1.out; omega)) (oneB R) (by unfold maxLen; omega) (by omega) (by simp) ?_; intro v8 w8 ho8 hg8 _)
      | (at_builtin; refine wpList_app _ rfl (.tmp 63) (.tmp 64) _ rfl wR.heap.size 5 i0 _ 1 1 Try.underlying22 hi hz0 hz1 hz2 rfl (by decide) v8 _ _ rfl (ho8.alloc _) _ 1 _ [byteV 0] rfl (Rd.one (by simp [byteV])) (by simp [byteV, Value.oneCell']) (by unfold maxLen; omega) (by omega) (by simp; have := hg8.size; simp at this; omega) ?_; intro v9 w9 ho9 hg9 _)
      | (go_at_call 9; refine (awake_any _).mono ?_; rintro e' w2 ⟨rfl, hb2⟩))
    have h8b : Below wR.heap.size (wR.alloc (.cells #[.int .i64 0, .int .i64 0, .int .i64 0, .int .i64 0] 24)) w8 := below_app (Nat.le_refl _) (by simp) (World.ownsRow_nil _ wR.heap.size 5 1) hg8
    have h8s : wR.heap.size ≤ w8.heap.size := by have := h8b.size; simp at this; omega
    have h9b := below_app (B := wR.heap.size) (Nat.le_refl _) (by simp; omega) (ho8.alloc _) hg9
    have hb : Below wR.heap.size wR w9 := ((Below.refl _ _).alloc (Nat.le_refl _) _).trans (h8b.trans (((Below.refl _ _).alloc h8s _).trans h9b))
    have HB0 := btr HB0 HB0.size hb; have H1 := H1.next hb; have G1 := G1.below hb G1.lt; (try clear y0 y1 y2 y3); have y0 := G1.cell_ 0; have y1 := G1.cell_ 1; have y2 := G1.cell_ 2; have y3 := G1.cell_ 3; simp at y0 y1 y2 y3; have O5 := O5.next hb
    clear hb h8b h9b hg8 hg9
    obtain ⟨A9, c9, rfl, hl9, hc9, hc9', _, O9⟩ := own_slice (bs := R ++ [0]) (own_len (n := 0 + (L + 1) + 1) (m := L + 1 + 1) (by omega) (by simpa using ho9))
    refine (read_bad (R ++ [0]) (L + 1 + 1) HRA.out A9 c9 _ O9 h8a (by omega) hc9' (by omega) s2 HS2.out NG.out).mono ?_
    rintro e' wS ⟨rfl, hb⟩
    have HB0 := btr HB0 HB0.size hb; have H1 := H1.next hb; have G1 := G1.below hb G1.lt; (try clear y0 y1 y2 y3); have y0 := G1.cell_ 0; have y1 := G1.cell_ 1; have y2 := G1.cell_ 2; have y3 := G1.cell_ 3; simp at y0 y1 y2 y3; have O5 := O5.next hb
    clear hb hl9 hc9' ho8 ho9 O9
    go_wp2_with fail
    have HB0 := HB0.alloc HB0.size (.cells #[.int .i64 0, .int .i64 0, .int .i64 0, .int .i64 0] 24)
    have H1 := H1.alloc_ (.cells #[.int .i64 0, .int .i64 0, .int .i64 0, .int .i64 0] 24)
    have G1 := G1.alloc_ (.cells #[.int .i64 0, .int .i64 0, .int .i64 0, .int .i64 0] 24)
    have O5 := O5.alloc_ (.cells #[.int .i64 0, .int .i64 0, .int .i64 0, .int .i64 0] 24)
    clear y0 y1 y2 y3
    obtain ⟨wl, hwl⟩ : ∃ wl : World, wl = wS.alloc (.cells #[.int .i64 0, .int .i64 0, .int .i64 0, .int .i64 0] 24) := ⟨_, rfl⟩
    rw [← hwl] at HB0 H1 G1 O5 ⊢
    clear hwl
    have hgl := G1.lt
    go_loopw [13, 14, 15, 16] (fun i _ _ _ wr => ∃ k : Nat, k ≤ 3 ∧ i = .int .i64 k ∧ Below wl.heap.size wl wr) (fun i _ _ _ _ => 3 - (intOf i).toNat)
    case atStart => exact ⟨0, by omega, rfl, Below.refl _ _⟩
    case round =>
      obtain ⟨k, hk, rfl, hBr⟩ := hrel
      by_cases hlt : k < 3
      · have H1r := H1.next hBr
        have O5r := O5.next hBr
        have G1r := G1.below hBr hgl
        have i1 : (k : Int) < 3 := by omega
        have i2 : (0 : Int) ≤ (k : Int) := by omega
        go_wp2_with (first
          | (go_at_call 19; ((with_reducible refine (read_raw OK1.out (L + 1) HL1.out A5 c5 _ (by rw [HR.out]; exact O5r) hc5 HC6.out).mono ?_); rintro e' wV ⟨sd, rfl, hoV, hbV⟩; obtain ⟨g7, c7, rfl, -, -⟩ := hoV.form (by omega); have G1v := (G1r.below hbV G1r.lt).alloc_ (.cells #[.int .i64 (K : Nat), .int .i64 (P : Nat), .int .i64 (S : Nat), .int .i64 (E : Nat)] 24); have H1v := (H1r.next hbV).alloc_ (.cells #[.int .i64 (K : Nat), .int .i64 (P : Nat), .int .i64 (S : Nat), .int .i64 (E : Nat)] 24); have hoW := hoV.alloc (.cells #[.int .i64 (K : Nat), .int .i64 (P : Nat), .int .i64 (S : Nat), .int .i64 (E : Nat)] 24); have DV := (Sl.of_own hoV).alloc_ (.cells #[.int .i64 (K : Nat), .int .i64 (P : Nat), .int .i64 (S : Nat), .int .i64 (E : Nat)] 24); have HBv := (hBr.trans (hbV.mono hBr.size)).alloc (by have := hBr.size; have := hbV.size; omega) (.cells #[.int .i64 (K : Nat), .int .i64 (P : Nat), .int .i64 (S : Nat), .int .i64 (E : Nat)] 24); have y0 := G1v.cell_ 0; have y1 := G1v.cell_ 1; have y2 := G1v.cell_ 2; have y3 := G1v.cell_ 3; simp at y0 y1 y2 y3))
          | (go_at_call 13; ((with_reducible refine (sameB_b true a a _ _ rfl rfl (decide_eq_true rfl) _ A1 _ _ _ DV H1v (by omega) (by omega)).mono ?_); rintro e' wW ⟨rfl, hbW⟩; have hoW := own_below hoW hbW; have HBv := btr HBv HBv.size hbW))
          | (go_at_call 18; ((with_reducible refine (over_any a.length g7 c7 _ (wr.heap.size + 1) _ hoW (by have := hbV.size; have := hbW.size; simp at this; omega) (by omega)).mono ?_); rintro e' wX ⟨⟨vX, rfl⟩, hbX⟩)))
        go_roundw
        case rel => exact ⟨k + 1, by omega, by go_num, HBv.trans (hbX.mono (by have := hBr.size; omega))⟩
        case measure => simp [intOf]; omega
      · have i1 : ¬ (k : Int) < 3 := by omega
        go_wp2_with (go_at_call 9; refine (awake_any _).mono ?_; rintro e' w2 ⟨rfl, hb2⟩)
        go_ret
        exact ⟨rfl, btr HB0 HB0.size (btr hBr hBr.size hb2)⟩
end Go.Proofs.Ytjmochkhdapmiaa
