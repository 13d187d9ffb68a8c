/- RankNone: the walk. -/
import Derived.Test.YtofeijlejljbdaaRkG
namespace Go.Proofs.Ytofeijlejljbdaa
open Go.ChangeShapes Go.WideShapes Go.ChangeAt Go.RowKit
set_option linter.unusedSimpArgs false
set_option linter.unusedVariables false

def SomeOk (S : List Fd) (top : Int) : Prop := 0 ≤ top ∧ top ≤ 16777215 ∧ ∀ x ∈ S, ¬ x.k = 3 ∧ 1 ≤ x.e ∧ x.e ≤ top ∧ FdOk x
theorem SomeOk.snoc {S : List Fd} {top t2 : Int} {x : Fd} (h : SomeOk S top) (h1 : ¬ x.k = 3) (h2 : 1 ≤ x.e) (h3 : x.e ≤ t2) (h4 : top ≤ t2) (h5 : t2 ≤ 16777215) (hx : FdOk x) : SomeOk (S ++ [x]) t2 := by
  refine ⟨by have := h.1; omega, h5, fun y hy => ?_⟩
  rcases List.mem_append.1 hy with hy | hy
  · obtain ⟨a, b, c, d⟩ := h.2.2 y hy
    exact ⟨a, b, by omega, d⟩
  · obtain rfl : y = x := by simpa using hy
    exact ⟨h1, h2, h3, hx⟩
theorem SomeOk.last {S : List Fd} {top : Int} (h : SomeOk S top) : lastZ S = 0 := lastZ_none (fun x hx => (h.2.2 x hx).1)
theorem SomeOk.all {S L : List Fd} {top : Int} (h : SomeOk S top) (hL : IsAll S L) : L = [] := none_all hL (fun x hx => by rw [h.last]; have := (h.2.2 x hx).2.1; omega)
theorem SomeOk.stale {S : List Fd} {top : Int} (h : SomeOk S top) : staleZ S = S := by
  unfold staleZ
  rw [List.filter_eq_self]
  intro x hx
  rw [h.last]
  have := (h.2.2 x hx).2.1
  exact decide_eq_true (by omega)
def comF (top : Int) : Fd := ⟨0, 0, 3, 0, 0, top⟩
theorem SomeOk.last2 {S : List Fd} {top : Int} (h : SomeOk S top) : lastZ (S ++ [comF top]) = top := by
  rw [lastZ_snoc, h.last, if_pos (show (comF top).k = 3 from rfl)]
  show max 0 top = top
  have := h.1
  omega
theorem SomeOk.stale2 {S : List Fd} {top : Int} (h : SomeOk S top) : staleZ (S ++ [comF top]) = [] := by
  unfold staleZ
  rw [h.last2, List.filter_eq_nil_iff]
  intro x hx
  have : x.e ≤ top := by
    rcases List.mem_append.1 hx with hx | hx
    · exact (h.2.2 x hx).2.2.1
    · obtain rfl : x = comF top := by simpa using hx
      exact Int.le_refl _
  simp
  omega
theorem SomeOk.ok {S : List Fd} {top : Int} (h : SomeOk S top) : ∀ x ∈ S, FdOk x := fun x hx => (h.2.2 x hx).2.2.2
theorem SomeOk.ok2 {S : List Fd} {top : Int} (h : SomeOk S top) : ∀ x ∈ S ++ [comF top], FdOk x := ok_snoc h.ok (by
  have := h.1
  have := h.2.1
  exact ⟨by show i64in 0; unfold i64in; omega, by show i64in 0; unfold i64in; omega, by show i64in 3; unfold i64in; omega, by show i64in 0; unfold i64in; omega, by show i64in 0; unfold i64in; omega, by show i64in top; unfold i64in; omega⟩)
set_option maxRecDepth 100000 in
set_option maxHeartbeats 4000000 in
theorem rankNone_walk (A : Option Addr) (n c : Nat) (es : List (List Value)) (wc : World) (h : n = es.length ∧ n ≤ c ∧ c ≤ maxLen ∧ SlE 6 wc wc.heap.size A es ∧ ∀ x ∈ es, Flat [some .i64, some .i64, some .i64, some .i64, some .i64, some .i64] x) : Calls Try.prog 6 #[.slice A n c] wc fun e' w' => e' = .returned (.bool true) ∧ Below wc.heap.size wc w' := by
  obtain ⟨hn, hnc, hcm, hs, hf⟩ := h
  obtain ⟨fs, rfl, hok⟩ := fds_of_flats es hf
  rw [List.length_map] at hn
  subst hn
  have HS0 : SlFd wc wc.heap.size A fs := hs
  clear hs hf
  have hbase : Below wc.heap.size wc wc := Below.refl _ _
  by_cases hg : 40 < fs.length
  · have hd : decide ((40 : Int) < (fs.length : Int)) = true := decide_eq_true (by omega)
    have HD := Lib.hid hd
    clear hd hg
    go_enter Try.func6, Try.ntmps6
    go_wp2_with (first
      | (go_at_call 8; go_loud (((with_reducible refine (great_any _ _ _ _ _).mono ?_); rw [HD.out]; rintro e' w1 ⟨rfl, rfl⟩)))
      | (go_at_call 9; go_loud (((with_reducible refine (awake_any _).mono ?_); rintro e' wc ⟨rfl, hb⟩))))
    go_ret
    exact ⟨rfl, hb⟩
  have hd : decide ((40 : Int) < (fs.length : Int)) = false := decide_eq_false (by omega)
  have HD := Lib.hid hd
  have n1 : fs.length ≤ 40 := by omega
  clear hd hg
  go_enter Try.func6, Try.ntmps6
  go_wp2_with (go_at_call 8; go_loud (((with_reducible refine (great_any _ _ _ _ _).mono ?_); rw [HD.out]; rintro e' w1 ⟨rfl, rfl⟩)))
  go_loopw [3, 4, 5] (fun s3 s4 s5 wr => ∃ (k : Nat) (v : Value) (S : List Fd) (top : Int), k ≤ fs.length ∧ s5 = .int .i64 (k : Int) ∧ s4 = .int .i64 top ∧ s3 = v ∧ Hid (SomeOk S top) ∧ RowFd wr wc.heap.size v S ∧ S.length ≤ k ∧ Below wc.heap.size wc wr) (fun _ _ s5 _ => fs.length - (iOf s5).toNat)
  case atStart => exact ⟨0, _, [], 0, Nat.zero_le _, rfl, rfl, rfl, Lib.hid ⟨by omega, by omega, by simp⟩, RowFd.nil_ _ _, Nat.le_refl _, Below.refl _ _⟩
  case round =>
    obtain ⟨k, v, S, top, hk, rfl, rfl, e3, HS, ho, hSk, hB⟩ := hrel
    have e3' := e3.symm
    subst e3'
    obtain ⟨A3, c3, hv3, hS, hc3, hm3⟩ := ho.sl
    subst hv3
    by_cases hlt : k < fs.length
    · clear hS
      obtain ⟨b1, o1, rfl, l1, q1⟩ := (HS0.below hB).at_ (by omega)
      obtain ⟨bb, oo, ebo, _, Q1⟩ := HS0.at_ (by omega)
      obtain ⟨rfl, rfl⟩ : b1 = bb ∧ o1 = oo := by simpa using ebo
      obtain ⟨x, hx⟩ : ∃ x, fs[k]? = some x := ⟨_, List.getElem?_eq_getElem hlt⟩
      obtain ⟨x0, x1, x2, x3, x4, x5⟩ := q1 k x hx
      have X5 := (Q1 k x hx).2.2.2.2.2
      clear Q1 ebo
      have hsz := hB.size
      have l1' : b1 < wr.heap.size := by omega
      have i0 : (0 : Int) ≤ (k : Int) := by omega
      have i1 : (k : Int) < (fs.length : Int) := by omega
      have hxo := hok x (List.mem_of_getElem? hx)
      have HXO := Lib.hid hxo
      clear q1 hx hxo
      have ht1 := HS.out.1
      have ht2 := HS.out.2.1
      by_cases k3 : x.k = 3
      · go_wp2
        go_roundw
        case rel => exact ⟨k + 1, _, S, top, by omega, by go_num, rfl, rfl, HS, ho, by omega, hB⟩
        case measure => simp [iOf]; omega
      · by_cases e1 : 1 ≤ x.e
        · by_cases e2 : x.e ≤ 16777215
          · rcases (by omega : top < x.e ∨ x.e ≤ top) with hm | hm
            · have HS2 : Hid (SomeOk (S ++ [x]) x.e) := Lib.hid (HS.out.snoc k3 e1 (Int.le_refl _) (by omega) e2 HXO.out)
              have hne : max top x.e = x.e := by omega
              go_wp2_with (at_builtin; go_loud (obtain ⟨ti0, hi, hz0, hz1, hz2⟩ := info_parts infoFd; refine wpList_app _ rfl (.tmp 41) (.tmp 46) _ rfl wc.heap.size 30 ti0 _ 6 48 Try.underlying22 hi hz0 hz1 hz2 rfl (by decide) _ S.length (S.flatMap fCs) rfl (ho.below ((Below.refl _ _).alloc (Nat.le_refl _) _)) _ 1 _ (fCs x) rfl (rd_new _ x (by simp)) (flat_one1 x) (by unfold maxLen; omega) (by omega) (by simp; omega) ?_; intro v' w' ho' hg' hv'; clear hi hz0 hz1 hz2; have hB2 := (hB.alloc hB.size _).grown hg' (by simp; omega) (fun g hg => (ho.lt g hg).1); have x5n := (hB2.cell (p := ⟨b1, _, none⟩) l1).trans X5))
              all_goals
                have hlt' := ho.lt
                go_roundw
                case rel => exact ⟨k + 1, v', S ++ [x], x.e, by omega, by go_num, (by first | rfl | (simp; omega)), rfl, HS2, RowFd.snoc ho', by rw [List.length_append]; simp; omega, (hB.alloc hB.size _).grown hg' (by simp; omega) (fun g hg => (hlt' g hg).1)⟩
                case measure => simp [iOf]; omega
            · have HS2 : Hid (SomeOk (S ++ [x]) top) := Lib.hid (HS.out.snoc k3 e1 hm (Int.le_refl _) ht2 HXO.out)
              have hne : max top x.e = top := by omega
              go_wp2_with (at_builtin; go_loud (obtain ⟨ti0, hi, hz0, hz1, hz2⟩ := info_parts infoFd; refine wpList_app _ rfl (.tmp 41) (.tmp 46) _ rfl wc.heap.size 30 ti0 _ 6 48 Try.underlying22 hi hz0 hz1 hz2 rfl (by decide) _ S.length (S.flatMap fCs) rfl (ho.below ((Below.refl _ _).alloc (Nat.le_refl _) _)) _ 1 _ (fCs x) rfl (rd_new _ x (by simp)) (flat_one1 x) (by unfold maxLen; omega) (by omega) (by simp; omega) ?_; intro v' w' ho' hg' hv'; clear hi hz0 hz1 hz2; have hB2 := (hB.alloc hB.size _).grown hg' (by simp; omega) (fun g hg => (ho.lt g hg).1); have x5n := (hB2.cell (p := ⟨b1, _, none⟩) l1).trans X5))
              all_goals
                have hlt' := ho.lt
                go_roundw
                case rel => exact ⟨k + 1, v', S ++ [x], top, by omega, by go_num, (by first | rfl | (simp; omega)), rfl, HS2, RowFd.snoc ho', by rw [List.length_append]; simp; omega, (hB.alloc hB.size _).grown hg' (by simp; omega) (fun g hg => (hlt' g hg).1)⟩
                case measure => simp [iOf]; omega
          · go_wp2
            go_roundw
            case rel => exact ⟨k + 1, _, S, top, by omega, by go_num, rfl, rfl, HS, ho, by omega, hB⟩
            case measure => simp [iOf]; omega
        · go_wp2
          go_roundw
          case rel => exact ⟨k + 1, _, S, top, by omega, by go_num, rfl, rfl, HS, ho, by omega, hB⟩
          case measure => simp [iOf]; omega
    · clear HS0 hbase ho HD
      have hSn : S.length ≤ 40 := by omega
      clear hSk
      obtain ⟨N, hN⟩ : ∃ N, S.length = N := ⟨_, rfl⟩
      have HN := Lib.hid hN
      rw [hN] at hc3 hSn ⊢
      clear hN
      have HC : Hid (c3 = c3) := Lib.hid rfl
      go_wp2_with (first
        | (at_builtin; go_loud (obtain ⟨ti0, hi, hz0, hz1, hz2⟩ := info_parts infoFd; refine wpList_app _ rfl (.const (.slice none 0 0)) (.tmp 56) _ rfl wr.heap.size 30 ti0 _ 6 48 Try.underlying22 hi hz0 hz1 hz2 rfl (by decide) (.slice none 0 0) 0 [] rfl (World.ownsRow_nil _ _ _ _) _ N _ (S.flatMap fCs) rfl (rd_sl hS HN.out) (flat_one S) (by unfold maxLen; omega) (by omega) (Nat.le_refl _) ?_; intro v1 wk ho1 hg1 hv1; clear hi hz0 hz1 hz2 hv1; have hch := below_grown hg1; have hro := row_first HN.out ho1; clear ho1 hg1))
        | (go_at_call 15; go_loud (((with_reducible refine (found_any 3 0 top 0 _).mono ?_); rintro e' wk ⟨rfl, hb⟩; replace hch := btr hch hch.size hb; replace hro := hro.below hb; clear hb)))
        | (at_builtin; go_loud (obtain ⟨ti0, hi, hz0, hz1, hz2⟩ := info_parts infoFd; refine wpList_app _ rfl (.tmp 57) (.tmp 60) _ rfl _ 30 ti0 _ 6 48 Try.underlying22 hi hz0 hz1 hz2 rfl (by decide) v1 N (S.flatMap fCs) rfl (row_n HN.out (hro.below ((Below.refl _ _).alloc (Nat.le_refl _) _))) _ 1 _ (fCs (comF top)) rfl (rd_new _ (comF top) (by simp)) (flat_one1 (comF top)) (by unfold maxLen; omega) (by omega) (by have := hch.size; simp; omega) ?_; intro v2 wc ho2 hg2 hv2; clear hi hz0 hz1 hz2 hv2; obtain ⟨hb, A2, c2, rfl, HA2, hc2, hm2⟩ := chain_app HN.out hch hro ho2 hg2; clear ho2 hg2 hro hch; replace hS := hS.next hb; replace hB := btr hB hB.size hb; clear hb))
        | (go_at_call 12; go_loud (((with_reducible refine (last_n S N A3 c3 0 _ HN.out hS (by omega) HS.out.last).mono ?_); rintro e' wc ⟨rfl, hb⟩; replace hS := hS.next hb; (try replace HA2 := HA2.next hb); replace hB := btr hB hB.size hb; clear hb)))
        | (go_at_call 12; go_loud (((with_reducible refine (last_n (S ++ [comF top]) (N + 1) A2 c2 top _ (snoc_len HN.out) HA2 (by omega) HS.out.last2).mono ?_); rintro e' wc ⟨rfl, hb⟩; replace hS := hS.next hb; (try replace HA2 := HA2.next hb); replace hB := btr hB hB.size hb; clear hb)))
        | (go_at_call 11; go_loud (((with_reducible refine (all_n S N A3 c3 _ HN.out hS (by omega) HS.out.ok).mono ?_); rintro e' wc ⟨⟨Aa, ca, La, rfl, HLa, hLa, hLo⟩, hb⟩; obtain rfl := HS.out.all HLa.out.1; clear hLa hLo HLa; replace hS := hS.next hb; (try replace HA2 := HA2.next hb); replace hB := btr hB hB.size hb; clear hb)))
        | (go_at_call 14; go_loud (((with_reducible refine (stale_is S N A3 c3 S N _ HN.out hS (by omega) HS.out.stale HN.out).mono ?_); rintro e' wc ⟨⟨As, cs, rfl, hLs⟩, hb⟩; replace hS := hS.next hb; (try replace HA2 := HA2.next hb); replace hB := btr hB hB.size hb; clear hb)))
        | (go_at_call 14; go_loud (((with_reducible refine (stale_is (S ++ [comF top]) (N + 1) A2 c2 [] 0 _ (snoc_len HN.out) HA2 (by omega) HS.out.stale2 rfl).mono ?_); rintro e' wc ⟨⟨Az, cz, rfl, hLz⟩, hb⟩; clear hLz; replace hS := hS.next hb; (try replace HA2 := HA2.next hb); replace hB := btr hB hB.size hb; clear hb)))
        | (go_at_call 13; go_loud (((with_reducible refine (same_yes S As A3 N cs c3 _ HN.out (by omega) hLs hS).mono ?_); rintro e' wc ⟨rfl, hb⟩; clear hLs; replace hS := hS.next hb; (try replace HA2 := HA2.next hb); replace hB := btr hB hB.size hb; clear hb)))
        | (go_at_call 9; go_loud (((with_reducible refine (awake_any _).mono ?_); rintro e' wc ⟨rfl, hb⟩; replace hS := hS.next hb; (try replace HA2 := HA2.next hb); replace hB := btr hB hB.size hb; clear hb))))
      go_ret
      exact ⟨rfl, hB⟩
end Go.Proofs.Ytofeijlejljbdaa
