/- RankTrims: the walk. -/
import Derived.Test.YtofeijlejljbdaaRankNone
namespace Go.Proofs.Ytofeijlejljbdaa
open Go.ChangeShapes Go.WideShapes Go.ChangeAt Go.RowKit
set_option linter.unusedSimpArgs false
set_option linter.unusedVariables false

def TopOk (S : List Fd) (top : Int) : Prop := 0 ≤ top ∧ top ≤ 4294967295 ∧ ∀ x ∈ S, 0 ≤ x.s ∧ x.s ≤ top
theorem TopOk.nil_ : TopOk [] 0 := ⟨by omega, by omega, by simp⟩
theorem TopOk.snoc {S : List Fd} {top t2 : Int} {x : Fd} (h : TopOk S top) (h1 : 0 ≤ x.s) (h2 : x.s ≤ t2) (h3 : top ≤ t2) (h4 : t2 ≤ 4294967295) : TopOk (S ++ [x]) t2 := by
  refine ⟨by have := h.1; omega, h4, fun y hy => ?_⟩
  rcases List.mem_append.1 hy with hy | hy
  · have := h.2.2 y hy
    omega
  · obtain rfl : y = x := by simpa using hy
    omega

def trF (page last top : Int) : Fd := ⟨top + 1, 0, 2, page, top + 1, last⟩
theorem TopOk.lt {S : List Fd} {top page last : Int} (h : TopOk S top) : ∀ y ∈ S, y.s < (trF page last top).s := by
  intro y hy
  have := (h.2.2 y hy).2
  show y.s < top + 1
  omega
theorem TopOk.ok {S : List Fd} {top page last : Int} (h : TopOk S top) (hok : ∀ x ∈ S, FdOk x) (hp : i64in page) (hl : i64in last) : ∀ x ∈ S ++ [trF page last top], FdOk x := ok_snoc hok (by
  have := h.1
  have := h.2.1
  exact ⟨by show i64in (top + 1); unfold i64in; omega, by show i64in 0; unfold i64in; omega, by show i64in 2; unfold i64in; omega, hp, by show i64in (top + 1); unfold i64in; omega, hl⟩)
set_option maxRecDepth 100000 in
set_option maxHeartbeats 4000000 in
theorem rankTrims_walk (A : Option Addr) (n c : Nat) (es : List (List Value)) (page : Int) (wc : World) (h : n = es.length ∧ n ≤ c ∧ c ≤ maxLen ∧ SlE 6 wc wc.heap.size A es ∧ ∀ x ∈ es, Flat [some .i64, some .i64, some .i64, some .i64, some .i64, some .i64] x) (hpg : i64in page) : Calls Try.prog 7 #[.slice A n c, .int .i64 page] wc fun e' w' => e' = .returned (.bool true) ∧ Below wc.heap.size wc w' := by
  obtain ⟨hn, hnc, hcm, hs, hf⟩ := h
  obtain ⟨fs, rfl, hok⟩ := fds_of_flats es hf
  rw [List.length_map] at hn
  subst hn
  have hF : SlFd wc wc.heap.size A fs := hs
  clear hs hf
  have hB : Below wc.heap.size wc wc := Below.refl _ _
  by_cases hg : 40 < fs.length
  · have hd : decide ((40 : Int) < (fs.length : Int)) = true := decide_eq_true (by omega)
    have HD := Lib.hid hd
    clear hd hg
    go_enter Try.func7, Try.ntmps7
    go_wp2_with (first
      | (go_at_call 8; ((with_reducible refine (great_any _ _ _ _ _).mono ?_); rw [HD.out]; rintro e' w1 ⟨rfl, rfl⟩))
      | (go_at_call 9; ((with_reducible refine (awake_any _).mono ?_); rintro e' wc ⟨rfl, hb⟩)))
    go_ret
    exact ⟨rfl, hb⟩
  have hd : decide ((40 : Int) < (fs.length : Int)) = false := decide_eq_false (by omega)
  have HD := Lib.hid hd
  have n1 : fs.length ≤ 40 := by omega
  clear hd hg
  obtain ⟨last, hlast⟩ : ∃ l, lastZ fs = l := ⟨_, rfl⟩
  have hl0 : ¬ last < 0 := by have := lastZ_nonneg fs; omega
  have hli : i64in last := by rw [← hlast]; exact lastZ_in64 hok
  have HL := Lib.hid hlast
  clear hlast
  go_enter Try.func7, Try.ntmps7
  go_wp2_with (first
    | (go_at_call 8; ((with_reducible refine (great_any _ _ _ _ _).mono ?_); rw [HD.out]; rintro e' w1 ⟨rfl, rfl⟩))
    | (go_at_call 12; ((with_reducible refine (last_n fs _ A c last _ rfl hF (by omega) HL.out).mono ?_); rintro e' wc ⟨rfl, hb⟩; replace hF := hF.next hb; (try replace hW := hW.next hb); (try replace hN := hN.next hb); (try replace hR := hR.next hb); replace hB := btr hB hB.size hb; clear hb)))
  go_loopw [5, 6] (fun st si wr => ∃ (k : Nat) (top : Int), k ≤ fs.length ∧ si = .int .i64 (k : Int) ∧ st = .int .i64 top ∧ Hid (TopOk (fs.take k) top) ∧ Below wc.heap.size wc wr) (fun _ si _ => fs.length - (iOf si).toNat)
  case atStart => exact ⟨0, 0, Nat.zero_le _, rfl, rfl, Lib.hid TopOk.nil_, Below.refl _ _⟩
  case round =>
    obtain ⟨k, top, hk, rfl, rfl, HT, hBr⟩ := hrel
    replace hF := hF.next hBr
    have hBo := hB
    replace hB := btr hB hB.size hBr
    by_cases hlt : k < fs.length
    · obtain ⟨b1, o1, rfl, l1, q1⟩ := hF.at_ (by omega)
      obtain ⟨x, hx⟩ : ∃ x, fs[k]? = some x := ⟨_, List.getElem?_eq_getElem hlt⟩
      obtain ⟨x0, x1, x2, x3, x4, x5⟩ := q1 k x hx
      have hsz := hB.size
      have l1' : b1 < wr.heap.size := by omega
      have i0 : (0 : Int) ≤ (k : Int) := by omega
      have i1 : (k : Int) < (fs.length : Int) := by omega
      have hst := take_next hx
      have ht1 := HT.out.1
      have ht2 := HT.out.2.1
      clear q1 hx
      by_cases s1 : x.s < 0
      · clear hst HT
        go_wp2_with (go_at_call 9; ((with_reducible refine (awake_any _).mono ?_); rintro e' wc ⟨rfl, hb⟩))
        go_ret
        exact ⟨rfl, btr hB hB.size hb⟩
      · by_cases s2 : 4294967295 < x.s
        · clear hst HT
          go_wp2_with (go_at_call 9; ((with_reducible refine (awake_any _).mono ?_); rintro e' wc ⟨rfl, hb⟩))
          go_ret
          exact ⟨rfl, btr hB hB.size hb⟩
        · rcases (by omega : top < x.s ∨ x.s ≤ top) with hm | hm
          · have HT2 : Hid (TopOk (fs.take (k + 1)) x.s) := Lib.hid (by rw [hst]; exact HT.out.snoc (by omega) (Int.le_refl _) (by omega) (by omega))
            clear hst HT
            go_wp2
            all_goals
              go_roundw
              case rel => exact ⟨k + 1, x.s, by omega, by go_num, (by first | rfl | (simp; omega)), HT2, hBr⟩
              case measure => simp [iOf]; omega
          · have HT2 : Hid (TopOk (fs.take (k + 1)) top) := Lib.hid (by rw [hst]; exact HT.out.snoc (by omega) hm (Int.le_refl _) ht2)
            clear hst HT
            go_wp2
            all_goals
              go_roundw
              case rel => exact ⟨k + 1, top, by omega, by go_num, (by first | rfl | (simp; omega)), HT2, hBr⟩
              case measure => simp [iOf]; omega
    · have HTF : Hid (TopOk fs top) := Lib.hid (by have := HT.out; rwa [List.take_of_length_le (by omega)] at this)
      clear HT
      have ht1 := HTF.out.1
      have ht2 := HTF.out.2.1
      have HAL := Lib.hid hok
      clear HD
      go_wp2_with (first
        | (go_at_call 11; ((with_reducible refine (all_n fs _ A c _ rfl hF (by omega) HAL.out).mono ?_); rintro e' wc ⟨⟨Aw, cw, Lw, rfl, HLw, hW, -⟩, hb⟩; replace hF := hF.next hb; (try replace hW := hW.next hb); (try replace hN := hN.next hb); (try replace hR := hR.next hb); replace hB := btr hB hB.size hb; clear hb))
        | (at_builtin; obtain ⟨ti0, hi, hz0, hz1, hz2⟩ := info_parts infoFd; refine wpList_app _ rfl (.const (.slice none 0 0)) (.tmp 52) _ rfl wc.heap.size 30 ti0 _ 6 48 Try.underlying22 hi hz0 hz1 hz2 rfl (by decide) (.slice none 0 0) 0 [] rfl (World.ownsRow_nil _ _ _ _) _ fs.length _ (fs.flatMap fCs) rfl (rd_sl hF rfl) (flat_one fs) (by unfold maxLen; omega) (by omega) (Nat.le_refl _) ?_; intro v1 wk ho1 hg1 hv1; clear hi hz0 hz1 hz2 hv1; have hch := below_grown hg1; have hro := row_first rfl ho1; clear ho1 hg1)
        | (go_at_call 12; ((with_reducible refine (last_n fs _ A c last _ rfl (hF.next hch) (by omega) HL.out).mono ?_); rintro e' wk ⟨rfl, hb⟩; replace hch := btr hch hch.size hb; replace hro := hro.below hb; clear hb))
        | (go_at_call 15; ((with_reducible refine (found_any 2 page last (top + 1) _).mono ?_); rintro e' wk ⟨rfl, hb⟩; replace hch := btr hch hch.size hb; replace hro := hro.below hb; clear hb))
        | (at_builtin; obtain ⟨ti0, hi, hz0, hz1, hz2⟩ := info_parts infoFd; refine wpList_app _ rfl (.tmp 53) (.tmp 60) _ rfl _ 30 ti0 _ 6 48 Try.underlying22 hi hz0 hz1 hz2 rfl (by decide) v1 fs.length (fs.flatMap fCs) rfl (row_n rfl (hro.below ((Below.refl _ _).alloc (Nat.le_refl _) _))) _ 1 _ (fCs (trF page last top)) rfl (rd_new _ (trF page last top) (by simp)) (flat_one1 (trF page last top)) (by unfold maxLen; omega) (by omega) (by have := hch.size; simp; omega) ?_; intro v2 wc ho2 hg2 hv2; clear hi hz0 hz1 hz2 hv2; obtain ⟨hb, A2, c2, rfl, HA2, hc2, hm2⟩ := chain_app rfl hch hro ho2 hg2; clear ho2 hg2 hro hch; replace hF := hF.next hb; (try replace hW := hW.next hb); (try replace hN := hN.next hb); (try replace hR := hR.next hb); replace hB := btr hB hB.size hb; clear hb)
        | (go_at_call 11; ((with_reducible refine (all_n (fs ++ [trF page last top]) (fs.length + 1) A2 c2 _ (snoc_len rfl) HA2 (by omega) (HTF.out.ok HAL.out hpg hli)).mono ?_); rintro e' wc ⟨⟨An, cn, Ln, rfl, HLn, hN, -⟩, hb⟩; clear HA2; replace hF := hF.next hb; (try replace hW := hW.next hb); (try replace hN := hN.next hb); (try replace hR := hR.next hb); replace hB := btr hB hB.size hb; clear hb)))
      have HE : Hid (Ln = Lw.filter (fun y => decide (y.p ≠ page))) := Lib.hid (trims_all HLw.out.1 HLn.out.1 (x := trF page last top) rfl HL.out.symm HTF.out.lt)
      have hlw := HLw.out.2.1
      have hcw := HLw.out.2.2.1
      have hln : Ln.length ≤ 41 := by have := HLn.out.2.1; omega
      go_loopw [9, 10] (fun s9 s10 wq => ∃ (j : Nat) (v : Value) (S : List Fd), j ≤ Lw.length ∧ s10 = .int .i64 (j : Int) ∧ s9 = v ∧ Hid ((Lw.take j).filter (fun y => decide (y.p ≠ page)) = S) ∧ RowFd wq wc.heap.size v S ∧ S.length ≤ j ∧ Below wc.heap.size wc wq) (fun _ s10 _ => Lw.length - (iOf s10).toNat)
      case atStart => exact ⟨0, _, [], Nat.zero_le _, rfl, rfl, Lib.hid rfl, RowFd.nil_ _ _, Nat.le_refl _, Below.refl _ _⟩
      case round =>
        obtain ⟨j, v, S, hj, rfl, e9, HS, ho, hSj, hBq⟩ := hrel
        have e9' := e9.symm
        subst e9'
        obtain ⟨A3, c3, hv3, hR, hc3, hm3⟩ := ho.sl
        subst hv3
        by_cases hjl : j < Lw.length
        · clear hR
          obtain ⟨b2, o2, rfl, l2, q2⟩ := (hW.below hBq).at_ (by omega)
          obtain ⟨y, hy⟩ : ∃ y, Lw[j]? = some y := ⟨_, List.getElem?_eq_getElem hjl⟩
          obtain ⟨y0, y1, y2, y3, y4, y5⟩ := q2 j y hy
          have hqs := hBq.size
          have l2' : b2 < wr.heap.size := by omega
          have j0 : (0 : Int) ≤ (j : Int) := by omega
          have j1 : (j : Int) < (Lw.length : Int) := by omega
          have hst := take_next hy
          clear q2 hy
          by_cases hp : y.p = page
          · have HS2 : Hid ((Lw.take (j + 1)).filter (fun y => decide (y.p ≠ page)) = S) := Lib.hid (by rw [hst, List.filter_append, HS.out]; simp [hp])
            have hpb : (y.p == page) = true := by simpa using hp
            clear hst hp
            go_wp2
            go_roundw
            case rel => exact ⟨j + 1, _, S, by omega, by go_num, rfl, HS2, ho, by omega, hBq⟩
            case measure => simp [iOf]; omega
          · have HS2 : Hid ((Lw.take (j + 1)).filter (fun y => decide (y.p ≠ page)) = S ++ [y]) := Lib.hid (by rw [hst, List.filter_append, HS.out]; simp [hp])
            have hpb : (y.p == page) = false := by simpa using hp
            clear hst hp
            go_wp2_with (at_builtin; obtain ⟨ti0, hi, hz0, hz1, hz2⟩ := info_parts infoFd; refine wpList_app _ rfl (.tmp 77) (.tmp 82) _ rfl wc.heap.size 30 ti0 _ 6 48 Try.underlying22 hi hz0 hz1 hz2 rfl (by decide) _ S.length (S.flatMap fCs) rfl (ho.below ((Below.refl _ _).alloc (Nat.le_refl _) _)) _ 1 _ (fCs y) rfl (rd_new _ y (by simp)) (flat_one1 y) (by unfold maxLen; omega) (by omega) (by simp; omega) ?_; intro v' w' ho' hg' hv'; clear hi hz0 hz1 hz2)
            have hlt' := ho.lt
            go_roundw
            case rel => exact ⟨j + 1, v', S ++ [y], by omega, by go_num, rfl, HS2, RowFd.snoc ho', by rw [List.length_append]; simp; omega, (hBq.alloc hBq.size _).grown hg' (by simp; omega) (fun g hg => (hlt' g hg).1)⟩
            case measure => simp [iOf]; omega
        · have hSL : S = Ln := by have := HS.out; rw [List.take_of_length_le (by omega)] at this; rw [← this, HE.out]
          subst hSL
          replace hF := hF.next hBq
          replace hW := hW.next hBq
          replace hN := hN.next hBq
          replace hB := btr hB hB.size hBq
          clear hBq ho HS
          go_wp2_with (first
            | (go_at_call 13; ((with_reducible refine (same_yes S _ _ _ _ _ _ rfl (by omega) hN hR).mono ?_); rintro e' wc ⟨rfl, hb⟩; clear hN; replace hF := hF.next hb; (try replace hW := hW.next hb); (try replace hN := hN.next hb); (try replace hR := hR.next hb); replace hB := btr hB hB.size hb; clear hb))
            | (go_at_call 11; ((with_reducible refine (all_n fs _ _ c _ rfl hF (by omega) HAL.out).mono ?_); rintro e' wc ⟨⟨Az, cz, Lz, rfl, HLz, hZ, -⟩, hb⟩; obtain rfl := HLz.out.1.unique HLw.out.1; replace hF := hF.next hb; (try replace hW := hW.next hb); (try replace hN := hN.next hb); (try replace hR := hR.next hb); replace hB := btr hB hB.size hb; clear hb))
            | (go_at_call 13; ((with_reducible refine (same_yes Lz _ _ _ _ _ _ rfl (by omega) hZ hW).mono ?_); rintro e' wc ⟨rfl, hb⟩; clear hZ; replace hF := hF.next hb; (try replace hW := hW.next hb); (try replace hN := hN.next hb); (try replace hR := hR.next hb); replace hB := btr hB hB.size hb; clear hb))
            | (go_at_call 9; ((with_reducible refine (awake_any _).mono ?_); rintro e' wc ⟨rfl, hb⟩)))
          go_ret
          exact ⟨rfl, btr hB hB.size hb⟩
end Go.Proofs.Ytofeijlejljbdaa
