/- RankCommits: the walk. -/
import Derived.Test.YtofeijlejljbdaaRkI
import Derived.Test.YtofeijlejljbdaaOpenS2
namespace Go.Proofs.Ytofeijlejljbdaa
open Go.ChangeShapes Go.WideShapes Go.ChangeAt Go.RowKit
set_option linter.unusedSimpArgs false
set_option linter.unusedVariables false

theorem and_1 (n : Int) : bits .and .i64 n 1 = n % 2 := by
  have h1 : (BitVec.ofInt 64 1).toNat = 2 ^ 1 - 1 := by decide
  have key : (BitVec.ofInt 64 n &&& BitVec.ofInt 64 1).toNat = (n % ((2 ^ 64 : Nat) : Int)).toNat % 2 ^ 1 := by
    rw [BitVec.toNat_and, BitVec.toNat_ofInt, h1, Nat.and_two_pow_sub_one_eq_mod]
  show IntKind.i64.wrap ((BitVec.ofInt 64 n &&& BitVec.ofInt 64 1).toNat : Nat) = n % 2
  rw [key, IntKind.wrap_i64]
  omega
theorem bit_yes {bt : Int} {i : Nat} (h : bitB bt i = true) : bits .and .i64 (bt / 2 ^ i) 1 = 1 := by
  rw [and_1]
  exact of_decide_eq_true h
theorem bit_no {bt : Int} {i : Nat} (h : bitB bt i = false) : bits .and .i64 (bt / 2 ^ i) 1 = 0 := by
  rw [and_1]
  have := of_decide_eq_false h
  omega
theorem RowFd.sl_ {w : World} {base n c : Nat} {A : Option Addr} {L : List Fd} (h : RowFd w base (.slice A n c) L) : SlFd w w.heap.size A L := by
  obtain ⟨A', c', e, hs, _, _⟩ := h.sl
  cases e
  exact hs
theorem own_apart {w : World} {B2 : Nat} {v1 v2 : Value} {S2 : List Fd} (hlt : ∀ k, v1.ownBlock = some k → k < B2) (h2 : RowFd w B2 v2 S2) : v2.ownBlock = none ∨ v2.ownBlock ≠ v1.ownBlock := by
  cases hv : v2.ownBlock with
  | none => exact Or.inl rfl
  | some g =>
    right
    intro e
    have := hlt g e.symm
    have := (h2.lt g hv).1
    omega
theorem chain_two {w0 wk w2 : World} {BA n m ca : Nat} {v1 v2 : Value} {Aa : Option Addr} {S La : List Fd} {x : Fd} {o : Obj} (hn : S.length = n) (hch : Below w0.heap.size w0 wk) (hro : RowFd wk w0.heap.size v1 S) (hlt : ∀ k, v1.ownBlock = some k → k < BA) (hAr : RowFd wk BA (.slice Aa m ca) La) (ho2 : w2.ownsRow w0.heap.size 30 6 v2 (n + 1) (S.flatMap fCs ++ fCs x)) (hg2 : (wk.alloc o).grownBy w2 v1.ownBlock) :
    Below w0.heap.size w0 w2 ∧ (∃ A c, v2 = .slice A (n + 1) c ∧ SlFd w2 w2.heap.size A (S ++ [x]) ∧ n + 1 ≤ c ∧ c ≤ maxLen) ∧ RowFd w2 BA (.slice Aa m ca) La := by
  obtain ⟨h1, h2⟩ := chain_app hn hch hro ho2 hg2
  have hA2 : RowFd (wk.alloc o) BA (.slice Aa m ca) La := hAr.below ((Below.refl _ _).alloc (Nat.le_refl _) _)
  exact ⟨h1, h2, World.ownsRow.kept hA2 hg2 (own_apart hlt hA2)⟩
theorem newF_is {zs : List Int} {bt e z : Int} {i : Nat} (hz : zs[i]? = some z) (k : Int) (hk : (if bitB bt i = true then (2 : Int) else 1) = k) : newF zs bt e i = ⟨(i : Int), 0, k, lowI z 20, (i : Int), e⟩ := by
  unfold newF
  rw [hk, List.getD_eq_getElem?_getD, hz]
  rfl
theorem lastI_next {zs : List Int} {p z : Int} {i : Nat} (hz : zs[i]? = some z) : lastI zs p (i + 1) = if lowI z 20 = p then (i : Int) else lastI zs p i := by
  show (if lowI (zs.getD i 0) 20 = p then (i : Int) else lastI zs p i) = _
  rw [List.getD_eq_getElem?_getD, hz]
  rfl
set_option maxRecDepth 100000 in
set_option maxHeartbeats 4000000 in
theorem rankCommits_walk (A : Option Addr) (n c : Nat) (es : List (List Value)) (P : Option Addr) (np cp : Nat) (zs : List Int) (bt : Int) (wc : World) (h : n = es.length ∧ n ≤ c ∧ c ≤ maxLen ∧ SlE 6 wc wc.heap.size A es ∧ ∀ x ∈ es, Flat [some .i64, some .i64, some .i64, some .i64, some .i64, some .i64] x) (hps : SlA wc P np cp (zs.map (Value.int .i64))) (hzi : ∀ z ∈ zs, i64in z) (hbi : i64in bt) : Calls Try.prog 5 #[.slice A n c, .slice P np cp, .int .i64 bt] wc fun e' w' => e' = .returned (.bool true) ∧ Below wc.heap.size wc w' := by
  obtain ⟨hn, hnc, hcm, hs, hf⟩ := h
  obtain ⟨fs, rfl, hok⟩ := fds_of_flats es hf
  rw [List.length_map] at hn
  subst hn
  obtain ⟨hpn, hP, hpc, hpm, -⟩ := hps
  rw [List.length_map] at hpn
  have HPN := Lib.hid hpn
  clear hpn
  have hF : SlFd wc wc.heap.size A fs := hs
  clear hs hf
  have hB : Below wc.heap.size wc wc := Below.refl _ _
  by_cases hg : 40 < fs.length
  · have hd : decide ((40 : Int) < (fs.length : Int)) = true := decide_eq_true (by omega)
    have HD := Lib.hid hd
    clear hd hg
    go_enter Try.func5, Try.ntmps5
    go_wp2_with (first
      | (go_at_call 8; ((with_reducible refine (great_any _ _ _ _ _).mono ?_); rw [HD.out]; rintro e' w1 ⟨rfl, rfl⟩))
      | (go_at_call 9; ((with_reducible refine (awake_any _).mono ?_); rintro e' wc ⟨rfl, hb⟩)))
    go_ret
    exact ⟨rfl, btr hB hB.size hb⟩

  have hd : decide ((40 : Int) < (fs.length : Int)) = false := decide_eq_false (by omega)
  have HD := Lib.hid hd
  have n1 : fs.length ≤ 40 := by omega
  clear hd hg
  by_cases h8 : 8 < np
  · have g8 : (8 : Int) < (np : Int) := by omega
    go_enter Try.func5, Try.ntmps5
    go_wp2_with (first
      | (go_at_call 8; ((with_reducible refine (great_any _ _ _ _ _).mono ?_); rw [HD.out]; rintro e' w1 ⟨rfl, rfl⟩))
      | (go_at_call 9; ((with_reducible refine (awake_any _).mono ?_); rintro e' wc ⟨rfl, hb⟩)))
    go_ret
    exact ⟨rfl, btr hB hB.size hb⟩

  have g8 : ¬ (8 : Int) < (np : Int) := by omega
  have n8 : np ≤ 8 := by omega
  clear h8
  obtain ⟨M, hM⟩ : ∃ M, (staleZ fs).length = M := ⟨_, rfl⟩
  have HM := Lib.hid hM
  by_cases hM0 : 0 < M
  · have gM : (0 : Int) < (M : Int) := by omega
    clear hM
    go_enter Try.func5, Try.ntmps5
    go_wp2_with (first
      | (go_at_call 8; ((with_reducible refine (great_any _ _ _ _ _).mono ?_); rw [HD.out]; rintro e' w1 ⟨rfl, rfl⟩))
      | (go_at_call 14; ((with_reducible refine (stale_is fs _ A c (staleZ fs) M _ rfl hF (by omega) rfl HM.out).mono ?_); rintro e' wc ⟨⟨As, cs, rfl, hS⟩, hb⟩; clear hS; (try replace hF := hF.next hb); (try replace hO := hO.next hb); (try replace hP := (hP.below hb).mono hb.size); replace hB := btr hB hB.size hb; clear hb))
      | (go_at_call 9; ((with_reducible refine (awake_any _).mono ?_); rintro e' wc ⟨rfl, hb⟩)))
    go_ret
    exact ⟨rfl, btr hB hB.size hb⟩

  obtain rfl : M = 0 := by omega
  have HST : Hid (staleZ fs = []) := Lib.hid (List.eq_nil_of_length_eq_zero hM)
  clear hM hM0
  obtain ⟨last, hlast⟩ : ∃ l, lastZ fs = l := ⟨_, rfl⟩
  have hl0 : ¬ last < 0 := by have := lastZ_nonneg fs; omega
  have HL := Lib.hid hlast
  clear hlast
  by_cases hl1 : 16777215 < last
  · have STA0 : True := trivial
    go_enter Try.func5, Try.ntmps5
    go_wp2_with (first
      | (go_at_call 8; ((with_reducible refine (great_any _ _ _ _ _).mono ?_); rw [HD.out]; rintro e' w1 ⟨rfl, rfl⟩))
      | (go_at_call 14; ((with_reducible refine (stale_is fs _ A c (staleZ fs) 0 _ rfl hF (by omega) rfl HM.out).mono ?_); rintro e' wc ⟨⟨As, cs, rfl, hS⟩, hb⟩; clear hS; (try replace hF := hF.next hb); (try replace hO := hO.next hb); (try replace hP := (hP.below hb).mono hb.size); replace hB := btr hB hB.size hb; clear hb))
      | (go_at_call 12; ((with_reducible refine (last_n fs _ A c last _ rfl hF (by omega) HL.out).mono ?_); rintro e' wc ⟨rfl, hb⟩; (try replace hF := hF.next hb); (try replace hO := hO.next hb); (try replace hP := (hP.below hb).mono hb.size); replace hB := btr hB hB.size hb; clear hb))
      | (go_at_call 9; ((with_reducible refine (awake_any _).mono ?_); rintro e' wc ⟨rfl, hb⟩)))
    go_ret
    exact ⟨rfl, btr hB hB.size hb⟩

  have HE : Hid (last + 1 = lastZ fs + 1) := Lib.hid (by rw [HL.out])
  have HAL := Lib.hid hok
  have d8 : decide ((8 : Int) < (np : Int)) = false := decide_eq_false g8
  have dl0 : decide (last < 0) = false := decide_eq_false hl0
  have dl1 : decide (16777215 < last) = false := decide_eq_false hl1
  have hl2 : 0 ≤ last := by omega
  have hl3 : last ≤ 16777215 := by omega
  go_enter Try.func5, Try.ntmps5
  go_upto_region 5 with (first
    | (go_at_call 8; ((with_reducible refine (great_any _ _ _ _ _).mono ?_); rw [HD.out]; rintro e' w1 ⟨rfl, rfl⟩))
    | (go_at_call 14; ((with_reducible refine (stale_is fs _ A c (staleZ fs) 0 _ rfl hF (by omega) rfl HM.out).mono ?_); rintro e' wc ⟨⟨As, cs, rfl, hS⟩, hb⟩; clear hS; (try replace hF := hF.next hb); (try replace hO := hO.next hb); (try replace hP := (hP.below hb).mono hb.size); replace hB := btr hB hB.size hb; clear hb))
    | (go_at_call 12; ((with_reducible refine (last_n fs _ A c last _ rfl hF (by omega) HL.out).mono ?_); rintro e' wc ⟨rfl, hb⟩; (try replace hF := hF.next hb); (try replace hO := hO.next hb); (try replace hP := (hP.below hb).mono hb.size); replace hB := btr hB hB.size hb; clear hb))
    | (go_at_call 11; ((with_reducible refine (all_n fs _ A c _ rfl hF (by omega) HAL.out).mono ?_); rintro e' wc ⟨⟨Ao, co, Lo, rfl, HLo, hO, -⟩, hb⟩; (try replace hF := hF.next hb); (try replace hO := hO.next hb); (try replace hP := (hP.below hb).mono hb.size); replace hB := btr hB hB.size hb; clear hb)))
  go_wp2_with (at_builtin; obtain ⟨ti0, hi, hz0, hz1, hz2⟩ := info_parts infoFd; refine wpList_app _ rfl (.const (.slice none 0 0)) (.tmp 50) _ rfl wc.heap.size 30 ti0 _ 6 48 Try.underlying22 hi hz0 hz1 hz2 rfl (by decide) (.slice none 0 0) 0 [] rfl (World.ownsRow_nil _ _ _ _) _ fs.length _ (fs.flatMap fCs) rfl (rd_sl hF rfl) (flat_one fs) (by unfold maxLen; omega) (by omega) (Nat.le_refl _) ?_; intro v1 wk ho1 hg1 hv1; clear hi hz0 hz1 hz2 hv1; have hch := below_grown hg1; have hro := row_first rfl ho1; clear ho1 hg1)
  go_loopw [9, 10] (fun s9 s10 wr => ∃ (i : Nat) (v : Value), i ≤ np ∧ s10 = .int .i64 (i : Int) ∧ s9 = v ∧ RowFd wr wc.heap.size v (fs ++ newsF zs bt (last + 1) i) ∧ Below wc.heap.size wc wr) (fun _ s10 _ => np - (iOf s10).toNat)
  case atStart => exact ⟨0, _, Nat.zero_le _, rfl, rfl, by simpa [newsF] using hro, hch⟩
  case round =>
    clear hro hch
    obtain ⟨i, v, hi, rfl, e9, ho, hBr⟩ := hrel
    have e9' := e9.symm
    subst e9'
    have HLN : Hid ((fs ++ newsF zs bt (last + 1) i).length = fs.length + i) := Lib.hid (by rw [List.length_append, newsF_len])
    by_cases hlt : i < np
    · have hln : (fs ++ newsF zs bt (last + 1) i).length ≤ 48 := by rw [HLN.out]; omega
      obtain ⟨bp, op, rfl, lp, qp⟩ := (hP.below hBr).at_ (by rw [List.length_map, ← HPN.out]; omega)
      obtain ⟨z, hz⟩ : ∃ z, zs[i]? = some z := ⟨_, List.getElem?_eq_getElem (by rw [← HPN.out]; omega)⟩
      have c0 : wr.cell? ⟨bp, op + i, none⟩ = some (.int .i64 z) := qp i _ (by rw [List.getElem?_map, hz]; rfl)
      have i0 : (0 : Int) ≤ (i : Int) := by omega
      have i1 : (i : Int) < (np : Int) := by omega
      have i64' : (i : Int) ≤ 64 := by omega
      have hsz := (hBr).size
      have lp' : bp < wr.heap.size := by omega
      have HZ := Lib.hid hz
      clear qp
      rcases (by cases hq : bitB bt i <;> simp : bitB bt i = true ∨ bitB bt i = false) with hbt | hbt
      · have HX : Hid (fs ++ newsF zs bt (last + 1) (i + 1) = (fs ++ newsF zs bt (last + 1) i) ++ [(⟨(i : Int), 0, 2, lowI z 20, (i : Int), last + 1⟩ : Fd)]) := Lib.hid (by rw [newsF_next, ← List.append_assoc, newF_is HZ.out 2 (by rw [hbt]; rfl)])
        have hbq := bit_yes hbt
        clear hbt hz
        go_wp2_with (first
          | (go_at_call 10; ((with_reducible refine (low_any z 20 _ (by decide) (by decide)).mono ?_); rintro e' wl ⟨rfl, rfl⟩))
          | (go_at_call 15; ((with_reducible refine (found_any 2 (lowI z 20) (last + 1) (i : Int) _).mono ?_); rintro e' wk ⟨rfl, hb⟩; replace ho := ho.below hb; replace hBr := btr hBr hBr.size hb; clear hb; have hcz := hBr.size))
          | (at_builtin; obtain ⟨ti0, hi, hz0, hz1, hz2⟩ := info_parts infoFd; refine wpList_app _ rfl (.tmp 63) (.tmp 73) _ rfl wc.heap.size 30 ti0 _ 6 48 Try.underlying22 hi hz0 hz1 hz2 rfl (by decide) _ (fs ++ newsF zs bt (last + 1) i).length ((fs ++ newsF zs bt (last + 1) i).flatMap fCs) rfl (ho.below ((Below.refl _ _).alloc (Nat.le_refl _) _)) _ 1 _ (fCs (⟨(i : Int), 0, 2, lowI z 20, (i : Int), last + 1⟩ : Fd)) rfl (rd_new _ (⟨(i : Int), 0, 2, lowI z 20, (i : Int), last + 1⟩ : Fd) (by simp)) (flat_one1 _) (by unfold maxLen; omega) (by omega) (by simp; omega) ?_; intro v' w' ho' hg' hv'; clear hi hz0 hz1 hz2))
        go_roundw
        case rel => exact ⟨i + 1, v', by omega, by go_num, rfl, by rw [HX.out]; exact RowFd.snoc ho', (hBr.alloc hBr.size _).grown hg' (by simp; omega) (fun g hg => (ho.lt g hg).1)⟩
        case measure => simp [iOf]; omega
      · have HX : Hid (fs ++ newsF zs bt (last + 1) (i + 1) = (fs ++ newsF zs bt (last + 1) i) ++ [(⟨(i : Int), 0, 1, lowI z 20, (i : Int), last + 1⟩ : Fd)]) := Lib.hid (by rw [newsF_next, ← List.append_assoc, newF_is HZ.out 1 (by rw [hbt]; rfl)])
        have hbq := bit_no hbt
        clear hbt hz
        go_wp2_with (first
          | (go_at_call 10; ((with_reducible refine (low_any z 20 _ (by decide) (by decide)).mono ?_); rintro e' wl ⟨rfl, rfl⟩))
          | (go_at_call 15; ((with_reducible refine (found_any 1 (lowI z 20) (last + 1) (i : Int) _).mono ?_); rintro e' wk ⟨rfl, hb⟩; replace ho := ho.below hb; replace hBr := btr hBr hBr.size hb; clear hb; have hcz := hBr.size))
          | (at_builtin; obtain ⟨ti0, hi, hz0, hz1, hz2⟩ := info_parts infoFd; refine wpList_app _ rfl (.tmp 63) (.tmp 73) _ rfl wc.heap.size 30 ti0 _ 6 48 Try.underlying22 hi hz0 hz1 hz2 rfl (by decide) _ (fs ++ newsF zs bt (last + 1) i).length ((fs ++ newsF zs bt (last + 1) i).flatMap fCs) rfl (ho.below ((Below.refl _ _).alloc (Nat.le_refl _) _)) _ 1 _ (fCs (⟨(i : Int), 0, 1, lowI z 20, (i : Int), last + 1⟩ : Fd)) rfl (rd_new _ (⟨(i : Int), 0, 1, lowI z 20, (i : Int), last + 1⟩ : Fd) (by simp)) (flat_one1 _) (by unfold maxLen; omega) (by omega) (by simp; omega) ?_; intro v' w' ho' hg' hv'; clear hi hz0 hz1 hz2))
        go_roundw
        case rel => exact ⟨i + 1, v', by omega, by go_num, rfl, by rw [HX.out]; exact RowFd.snoc ho', (hBr.alloc hBr.size _).grown hg' (by simp; omega) (fun g hg => (ho.lt g hg).1)⟩
        case measure => simp [iOf]; omega
    · obtain rfl : i = np := by omega
      obtain ⟨S0, hS0⟩ : ∃ S, fs ++ newsF zs bt (last + 1) i = S := ⟨_, rfl⟩
      obtain ⟨N, hN⟩ : ∃ N, fs.length + i = N := ⟨_, rfl⟩
      rw [hS0, hN] at HLN
      rw [hS0] at ho
      obtain ⟨A3, c3, hv3, hS3, hc3, hm3⟩ := ho.sl
      rw [HLN.out] at hv3 hc3
      have HN := HLN
      have hN48 : N ≤ 48 := by omega
      have HLT : Hid (∀ k, v.ownBlock = some k → k < wr.heap.size) := Lib.hid (fun k hk => (ho.lt k hk).2)
      subst hv3
      have HOK : Hid (∀ x ∈ S0, FdOk x) := Lib.hid (by
        rw [← hS0]
        intro x hx
        rcases List.mem_append.1 hx with hx | hx
        · exact HAL.out x hx
        · exact news_ok (by unfold i64in; omega) n8 x hx)
      have HOK2 : Hid (∀ x ∈ S0 ++ [comE i (last + 1)], FdOk x) := Lib.hid (ok_snoc HOK.out ⟨by show i64in (i : Int); unfold i64in; omega, by show i64in 0; unfold i64in; omega, by show i64in 3; unfold i64in; omega, by show i64in 0; unfold i64in; omega, by show i64in (i : Int); unfold i64in; omega, by show i64in (last + 1); unfold i64in; omega⟩)
      have HAH : Hid (∀ L', IsAll S0 L' → L' = Lo) := Lib.hid (fun L' hL' => ahead_all HE.out HLo.out.1 (by rw [hS0]; exact hL'))
      have HST2 : Hid (staleZ (S0 ++ [comE i (last + 1)]) = []) := Lib.hid (by rw [← hS0]; exact stale_com HE.out HST.out)
      have HS0 := Lib.hid hS0
      have hch := hBr
      have hco := HLo.out.2.2.1
      have hlo := HLo.out.2.1
      clear hS0 hN hBr HLN hi hlt
      go_wp2_with (first
        | (go_at_call 11; ((with_reducible refine (all_is S0 N A3 c3 Lo Lo.length _ HN.out hS3 (by omega) HOK.out HAH.out rfl).mono ?_); rintro e' wk ⟨⟨Aa, ca, rfl, HZa, -, hAr⟩, hb⟩; replace ho := ho.below hb; replace hch := btr hch hch.size hb; clear hb hS3))
        | (go_at_call 15; ((with_reducible refine (found_any 3 0 (last + 1) (i : Int) _).mono ?_); rintro e' wk ⟨rfl, hb⟩; (try replace hAr := hAr.below hb); (try replace ho := ho.below hb); (try replace hLb := hLb.next hb); (try replace hG := hG.next hb); replace hch := btr hch hch.size hb; clear hb))
        | (at_builtin; obtain ⟨ti0, hi, hz0, hz1, hz2⟩ := info_parts infoFd; refine wpList_app _ rfl (.tmp 77) (.tmp 82) _ rfl wc.heap.size 30 ti0 _ 6 48 Try.underlying22 hi hz0 hz1 hz2 rfl (by decide) (.slice A3 N c3) N (S0.flatMap fCs) rfl (row_n HN.out (ho.below ((Below.refl _ _).alloc (Nat.le_refl _) _))) _ 1 _ (fCs (comE i (last + 1))) rfl (rd_new _ (comE i (last + 1)) (by simp)) (flat_one1 _) (by unfold maxLen; omega) (by omega) (by have := hch.size; simp; omega) ?_; intro v2 wq ho2 hg2 hv2; clear hi hz0 hz1 hz2 hv2; obtain ⟨hch2, ⟨A4, c4, rfl, hG, hc4, hm4⟩, hAr2⟩ := chain_two HN.out hch ho HLT.out hAr ho2 hg2; replace hch := hch2; replace hAr := hAr2; clear hch2 hAr2 ho2 hg2 ho)
        | (go_at_call 11; ((with_reducible refine (all_n (S0 ++ [comE i (last + 1)]) (N + 1) A4 c4 _ (snoc_len HN.out) hG (by omega) HOK2.out).mono ?_); rintro e' wk ⟨⟨Ab, cb, Lb, rfl, HLb, hLb, -⟩, hb⟩; (try replace hAr := hAr.below hb); (try replace ho := ho.below hb); (try replace hLb := hLb.next hb); (try replace hG := hG.next hb); replace hch := btr hch hch.size hb; clear hb))
        | (go_at_call 13; ((with_reducible refine (same_yes Lo Aa Ao Lo.length ca co _ rfl (by omega) (RowFd.sl_ hAr) (hO.next hch)).mono ?_); rintro e' wk ⟨rfl, hb⟩; clear hAr; (try replace hAr := hAr.below hb); (try replace ho := ho.below hb); (try replace hLb := hLb.next hb); (try replace hG := hG.next hb); replace hch := btr hch hch.size hb; clear hb))
        | (go_at_call 14; ((with_reducible refine (stale_is (S0 ++ [comE i (last + 1)]) (N + 1) A4 c4 [] 0 _ (snoc_len HN.out) hG (by omega) HST2.out rfl).mono ?_); rintro e' wk ⟨⟨As, cs, rfl, hS⟩, hb⟩; clear hS hG; (try replace hAr := hAr.below hb); (try replace ho := ho.below hb); (try replace hLb := hLb.next hb); (try replace hG := hG.next hb); replace hch := btr hch hch.size hb; clear hb)))
      have hlb : Lb.length ≤ 49 := by have := HLb.out.2.1; omega
      have hO2 := hO.next hch
      have hP2 := (hP.below hch).mono hch.size
      have hB2 := btr hB hB.size hch
      have HAT : Hid (∀ p : Int, atZ Lb p = if lastI zs p i < 0 then atZ Lo p else if bitB bt (lastI zs p i).toNat = true then none else some (newF zs bt (last + 1) (lastI zs p i).toNat)) := Lib.hid (fun p => at_com HE.out HST.out HLo.out.1 (by rw [HS0.out]; exact HLb.out.1) p)
      clear hO hP hB hch hF
      go_loopw [14] (fun s14 wr => ∃ (p : Nat), p ≤ 20 ∧ s14 = .int .i64 (p : Int) ∧ Below wk.heap.size wk wr) (fun s14 _ => 20 - (iOf s14).toNat)
      case atStart => exact ⟨0, by omega, rfl, Below.refl _ _⟩
      case round =>
        obtain ⟨p, hp, rfl, hBp⟩ := hrel
        have hL2 := hLb.next hBp
        have hO3 := hO2.next hBp
        have hP3 := (hP2.below hBp).mono hBp.size
        have hB3 := btr hB2 hB2.size hBp
        by_cases hpl : p < 20
        · have p0 : (0 : Int) ≤ (p : Int) := by omega
          have p1 : (p : Int) < 20 := by omega
          obtain ⟨wo, hwo⟩ : ∃ W, W = wr := ⟨_, rfl⟩
          subst hwo
          go_wp2_with fail
          go_loopw [15, 16] (fun s15 s16 wr => ∃ (j : Nat) (li : Int), j ≤ i ∧ s16 = .int .i64 (j : Int) ∧ s15 = .int .i64 li ∧ Hid (lastI zs (p : Int) j = li) ∧ Below wo.heap.size wo wr) (fun _ s16 _ => i - (iOf s16).toNat)
          case atStart => exact ⟨0, -1, Nat.zero_le _, rfl, rfl, Lib.hid rfl, Below.refl _ _⟩
          case round =>
            obtain ⟨j, li, hj, rfl, rfl, HLI, hBj⟩ := hrel
            by_cases hjl : j < i
            · obtain ⟨bp, op, rfl, lp, qp⟩ := (hP3.below hBj).at_ (by rw [List.length_map, ← HPN.out]; omega)
              obtain ⟨z, hz⟩ : ∃ z, zs[j]? = some z := ⟨_, List.getElem?_eq_getElem (by rw [← HPN.out]; omega)⟩
              have c0 : wr.cell? ⟨bp, op + j, none⟩ = some (.int .i64 z) := qp j _ (by rw [List.getElem?_map, hz]; rfl)
              have i0 : (0 : Int) ≤ (j : Int) := by omega
              have i1 : (j : Int) < (i : Int) := by omega
              have hsz := hBj.size
              have lp' : bp < wr.heap.size := by omega
              clear qp
              by_cases hz2 : lowI z 20 = (p : Int)
              · have hzb : (lowI z 20 == (p : Int)) = true := by simpa using hz2
                have HL2 : Hid (lastI zs (p : Int) (j + 1) = (j : Int)) := Lib.hid (by rw [lastI_next hz, if_pos hz2])
                clear hz2 hz
                go_wp2_with (go_at_call 10; ((with_reducible refine (low_any z 20 _ (by decide) (by decide)).mono ?_); rintro e' wl ⟨rfl, rfl⟩))
                go_roundw
                case rel => exact ⟨j + 1, (j : Int), by omega, by go_num, rfl, HL2, hBj⟩
                case measure => simp [iOf]; omega
              · have hzb : (lowI z 20 == (p : Int)) = false := by simpa using hz2
                have HL2 : Hid (lastI zs (p : Int) (j + 1) = li) := Lib.hid (by rw [lastI_next hz, if_neg hz2]; exact HLI.out)
                clear hz2 hz
                go_wp2_with (go_at_call 10; ((with_reducible refine (low_any z 20 _ (by decide) (by decide)).mono ?_); rintro e' wl ⟨rfl, rfl⟩))
                go_roundw
                case rel => exact ⟨j + 1, li, by omega, by go_num, rfl, HL2, hBj⟩
                case measure => simp [iOf]; omega
            · obtain rfl : j = i := by omega
              have hL4 := hL2.next hBj
              have hO4 := hO3.next hBj
              have hBr0 := btr hBp hBp.size hBj
              have hbd := lastI_bd zs (p : Int) j
              rw [HLI.out] at hbd
              have hatp := HAT.out (p : Int)
              rw [HLI.out] at hatp
              clear hL2 hO3 hP3 hBj hBp
              by_cases hneg : li < 0
              · rw [if_pos hneg] at hatp
                have hnb : decide (li < 0) = true := decide_eq_true hneg
                have hng : ¬ 0 ≤ li := by omega
                have hngb : decide (0 ≤ li) = false := decide_eq_false hng
                cases hco2 : atZ Lo (p : Int) with
                | none =>
                  have H2 : Hid (atZ Lo (p : Int) = none) := Lib.hid hco2
                  have H1 : Hid (atZ Lb (p : Int) = none) := Lib.hid (hatp.trans hco2)
                  clear hco2 hatp
                  go_wp2_with (first
                    | (go_at_call 16; ((with_reducible refine (at_no Lb Lb.length Ab cb (p : Int) H1 _ rfl hL4 (by omega)).mono ?_); rintro e' wx ⟨rfl, hb1⟩))
                    | (go_at_call 16; ((with_reducible refine (at_no Lo Lo.length Ao co (p : Int) H2 _ rfl (hO4.next (hb1.alloc hb1.size _)) (by omega)).mono ?_); rintro e' wy ⟨rfl, hb2⟩; (have hd3 : Blk wy wx.heap.size 30 #[.int .i64 0, .int .i64 0, .int .i64 0, .int .i64 0, .int .i64 0, .int .i64 0] := by (refine Blk.below (Blk.new_ wx 30 #[.int .i64 0, .int .i64 0, .int .i64 0, .int .i64 0, .int .i64 0, .int .i64 0]) hb2 ?_; first | omega | (simp; done) | (simp; omega))); (have hlx : wx.heap.size < wy.heap.size := hd3.lt); have d0 : wy.cell? ⟨wx.heap.size, 0, none⟩ = some (.int .i64 0) := hd3.cell_ 0; have d1 : wy.cell? ⟨wx.heap.size, 1, none⟩ = some (.int .i64 0) := hd3.cell_ 1; have d2 : wy.cell? ⟨wx.heap.size, 2, none⟩ = some (.int .i64 0) := hd3.cell_ 2; have d3 : wy.cell? ⟨wx.heap.size, 3, none⟩ = some (.int .i64 0) := hd3.cell_ 3; have d4 : wy.cell? ⟨wx.heap.size, 4, none⟩ = some (.int .i64 0) := hd3.cell_ 4; have d5 : wy.cell? ⟨wx.heap.size, 5, none⟩ = some (.int .i64 0) := hd3.cell_ 5; clear hd3)))
                  go_roundw
                  case rel => exact ⟨p + 1, by omega, by go_num, (btr ((btr hBr0 hBr0.size hb1).alloc (btr hBr0 hBr0.size hb1).size _) ((btr hBr0 hBr0.size hb1).alloc (btr hBr0 hBr0.size hb1).size _).size hb2).alloc (btr ((btr hBr0 hBr0.size hb1).alloc (btr hBr0 hBr0.size hb1).size _) ((btr hBr0 hBr0.size hb1).alloc (btr hBr0 hBr0.size hb1).size _).size hb2).size _⟩
                  case measure => simp [iOf]; omega
                | some y2 =>
                  have H2 : Hid (atZ Lo (p : Int) = some y2) := Lib.hid hco2
                  have H1 : Hid (atZ Lb (p : Int) = some y2) := Lib.hid (hatp.trans hco2)
                  clear hco2 hatp
                  go_wp2_with (first
                    | (go_at_call 16; ((with_reducible refine (at_yes Lb Lb.length Ab cb (p : Int) y2 H1 _ rfl hL4 (by omega)).mono ?_); rintro e' wx ⟨rfl, hb1⟩))
                    | (go_at_call 16; ((with_reducible refine (at_yes Lo Lo.length Ao co (p : Int) y2 H2 _ rfl (hO4.next (hb1.alloc hb1.size _)) (by omega)).mono ?_); rintro e' wy ⟨rfl, hb2⟩; (have hd3 : Blk wy wx.heap.size 30 #[.int .i64 y2.b, .int .i64 y2.g, .int .i64 y2.k, .int .i64 y2.p, .int .i64 y2.s, .int .i64 y2.e] := by (refine Blk.below (Blk.new_ wx 30 #[.int .i64 y2.b, .int .i64 y2.g, .int .i64 y2.k, .int .i64 y2.p, .int .i64 y2.s, .int .i64 y2.e]) hb2 ?_; first | omega | (simp; done) | (simp; omega))); (have hlx : wx.heap.size < wy.heap.size := hd3.lt); have d0 : wy.cell? ⟨wx.heap.size, 0, none⟩ = some (.int .i64 y2.b) := hd3.cell_ 0; have d1 : wy.cell? ⟨wx.heap.size, 1, none⟩ = some (.int .i64 y2.g) := hd3.cell_ 1; have d2 : wy.cell? ⟨wx.heap.size, 2, none⟩ = some (.int .i64 y2.k) := hd3.cell_ 2; have d3 : wy.cell? ⟨wx.heap.size, 3, none⟩ = some (.int .i64 y2.p) := hd3.cell_ 3; have d4 : wy.cell? ⟨wx.heap.size, 4, none⟩ = some (.int .i64 y2.s) := hd3.cell_ 4; have d5 : wy.cell? ⟨wx.heap.size, 5, none⟩ = some (.int .i64 y2.e) := hd3.cell_ 5; clear hd3)))
                  go_roundw
                  case rel => exact ⟨p + 1, by omega, by go_num, (btr ((btr hBr0 hBr0.size hb1).alloc (btr hBr0 hBr0.size hb1).size _) ((btr hBr0 hBr0.size hb1).alloc (btr hBr0 hBr0.size hb1).size _).size hb2).alloc (btr ((btr hBr0 hBr0.size hb1).alloc (btr hBr0 hBr0.size hb1).size _) ((btr hBr0 hBr0.size hb1).alloc (btr hBr0 hBr0.size hb1).size _).size hb2).size _⟩
                  case measure => simp [iOf]; omega
              · rw [if_neg hneg] at hatp
                have hnb : decide (li < 0) = false := decide_eq_false hneg
                obtain ⟨q, hq⟩ : ∃ q : Nat, li = (q : Int) := ⟨li.toNat, by omega⟩
                subst hq
                rw [Int.toNat_natCast] at hatp
                have q0 : (0 : Int) ≤ (q : Int) := by omega
                have q64 : (q : Int) ≤ 64 := by omega
                have hngb : decide ((0 : Int) ≤ (q : Int)) = true := decide_eq_true q0
                rcases (by cases hq : bitB bt q <;> simp : bitB bt q = true ∨ bitB bt q = false) with hbt | hbt
                · rw [if_pos hbt] at hatp
                  have hbq := bit_yes hbt
                  have H1 : Hid (atZ Lb (p : Int) = none) := Lib.hid hatp
                  clear hatp hbt
                  cases hco2 : atZ Lo (p : Int) with
                  | none =>
                    have H2 : Hid (atZ Lo (p : Int) = none) := Lib.hid hco2
                    clear hco2
                    go_wp2_with (first
                      | (go_at_call 16; ((with_reducible refine (at_no Lb Lb.length Ab cb (p : Int) H1 _ rfl hL4 (by omega)).mono ?_); rintro e' wx ⟨rfl, hb1⟩))
                      | (go_at_call 16; ((with_reducible refine (at_no Lo Lo.length Ao co (p : Int) H2 _ rfl (hO4.next (hb1.alloc hb1.size _)) (by omega)).mono ?_); rintro e' wy ⟨rfl, hb2⟩; (have hd3 : Blk wy wx.heap.size 30 #[.int .i64 0, .int .i64 0, .int .i64 0, .int .i64 0, .int .i64 0, .int .i64 0] := by (refine Blk.below (Blk.new_ wx 30 #[.int .i64 0, .int .i64 0, .int .i64 0, .int .i64 0, .int .i64 0, .int .i64 0]) hb2 ?_; first | omega | (simp; done) | (simp; omega))); (have hlx : wx.heap.size < wy.heap.size := hd3.lt); have d0 : wy.cell? ⟨wx.heap.size, 0, none⟩ = some (.int .i64 0) := hd3.cell_ 0; have d1 : wy.cell? ⟨wx.heap.size, 1, none⟩ = some (.int .i64 0) := hd3.cell_ 1; have d2 : wy.cell? ⟨wx.heap.size, 2, none⟩ = some (.int .i64 0) := hd3.cell_ 2; have d3 : wy.cell? ⟨wx.heap.size, 3, none⟩ = some (.int .i64 0) := hd3.cell_ 3; have d4 : wy.cell? ⟨wx.heap.size, 4, none⟩ = some (.int .i64 0) := hd3.cell_ 4; have d5 : wy.cell? ⟨wx.heap.size, 5, none⟩ = some (.int .i64 0) := hd3.cell_ 5; clear hd3)))
                    go_roundw
                    case rel => exact ⟨p + 1, by omega, by go_num, (btr ((btr hBr0 hBr0.size hb1).alloc (btr hBr0 hBr0.size hb1).size _) ((btr hBr0 hBr0.size hb1).alloc (btr hBr0 hBr0.size hb1).size _).size hb2).alloc (btr ((btr hBr0 hBr0.size hb1).alloc (btr hBr0 hBr0.size hb1).size _) ((btr hBr0 hBr0.size hb1).alloc (btr hBr0 hBr0.size hb1).size _).size hb2).size _⟩
                    case measure => simp [iOf]; omega
                  | some y2 =>
                    have H2 : Hid (atZ Lo (p : Int) = some y2) := Lib.hid hco2
                    clear hco2
                    go_wp2_with (first
                      | (go_at_call 16; ((with_reducible refine (at_no Lb Lb.length Ab cb (p : Int) H1 _ rfl hL4 (by omega)).mono ?_); rintro e' wx ⟨rfl, hb1⟩))
                      | (go_at_call 16; ((with_reducible refine (at_yes Lo Lo.length Ao co (p : Int) y2 H2 _ rfl (hO4.next (hb1.alloc hb1.size _)) (by omega)).mono ?_); rintro e' wy ⟨rfl, hb2⟩; (have hd3 : Blk wy wx.heap.size 30 #[.int .i64 0, .int .i64 0, .int .i64 0, .int .i64 0, .int .i64 0, .int .i64 0] := by (refine Blk.below (Blk.new_ wx 30 #[.int .i64 0, .int .i64 0, .int .i64 0, .int .i64 0, .int .i64 0, .int .i64 0]) hb2 ?_; first | omega | (simp; done) | (simp; omega))); (have hlx : wx.heap.size < wy.heap.size := hd3.lt); have d0 : wy.cell? ⟨wx.heap.size, 0, none⟩ = some (.int .i64 0) := hd3.cell_ 0; have d1 : wy.cell? ⟨wx.heap.size, 1, none⟩ = some (.int .i64 0) := hd3.cell_ 1; have d2 : wy.cell? ⟨wx.heap.size, 2, none⟩ = some (.int .i64 0) := hd3.cell_ 2; have d3 : wy.cell? ⟨wx.heap.size, 3, none⟩ = some (.int .i64 0) := hd3.cell_ 3; have d4 : wy.cell? ⟨wx.heap.size, 4, none⟩ = some (.int .i64 0) := hd3.cell_ 4; have d5 : wy.cell? ⟨wx.heap.size, 5, none⟩ = some (.int .i64 0) := hd3.cell_ 5; clear hd3)))
                    go_roundw
                    case rel => exact ⟨p + 1, by omega, by go_num, (btr ((btr hBr0 hBr0.size hb1).alloc (btr hBr0 hBr0.size hb1).size _) ((btr hBr0 hBr0.size hb1).alloc (btr hBr0 hBr0.size hb1).size _).size hb2).alloc (btr ((btr hBr0 hBr0.size hb1).alloc (btr hBr0 hBr0.size hb1).size _) ((btr hBr0 hBr0.size hb1).alloc (btr hBr0 hBr0.size hb1).size _).size hb2).size _⟩
                    case measure => simp [iOf]; omega
                · rw [if_neg (by rw [hbt]; simp)] at hatp
                  have hbq := bit_no hbt
                  obtain ⟨y1, hy1⟩ : ∃ y, newF zs bt (last + 1) q = y := ⟨_, rfl⟩
                  have hye : (y1.e == last + 1) = true := by rw [← hy1]; simp [newF]
                  have hyn : (y1.e != last + 1) = false := by rw [← hy1]; simp [newF]
                  rw [hy1] at hatp
                  have H1 : Hid (atZ Lb (p : Int) = some y1) := Lib.hid hatp
                  clear hatp hbt hy1
                  cases hco2 : atZ Lo (p : Int) with
                  | none =>
                    have H2 : Hid (atZ Lo (p : Int) = none) := Lib.hid hco2
                    clear hco2
                    go_wp2_with (first
                      | (go_at_call 16; ((with_reducible refine (at_yes Lb Lb.length Ab cb (p : Int) y1 H1 _ rfl hL4 (by omega)).mono ?_); rintro e' wx ⟨rfl, hb1⟩))
                      | (go_at_call 16; ((with_reducible refine (at_no Lo Lo.length Ao co (p : Int) H2 _ rfl (hO4.next (hb1.alloc hb1.size _)) (by omega)).mono ?_); rintro e' wy ⟨rfl, hb2⟩; (have hd3 : Blk wy wx.heap.size 30 #[.int .i64 y1.b, .int .i64 y1.g, .int .i64 y1.k, .int .i64 y1.p, .int .i64 y1.s, .int .i64 y1.e] := by (refine Blk.below (Blk.new_ wx 30 #[.int .i64 y1.b, .int .i64 y1.g, .int .i64 y1.k, .int .i64 y1.p, .int .i64 y1.s, .int .i64 y1.e]) hb2 ?_; first | omega | (simp; done) | (simp; omega))); (have hlx : wx.heap.size < wy.heap.size := hd3.lt); have d0 : wy.cell? ⟨wx.heap.size, 0, none⟩ = some (.int .i64 y1.b) := hd3.cell_ 0; have d1 : wy.cell? ⟨wx.heap.size, 1, none⟩ = some (.int .i64 y1.g) := hd3.cell_ 1; have d2 : wy.cell? ⟨wx.heap.size, 2, none⟩ = some (.int .i64 y1.k) := hd3.cell_ 2; have d3 : wy.cell? ⟨wx.heap.size, 3, none⟩ = some (.int .i64 y1.p) := hd3.cell_ 3; have d4 : wy.cell? ⟨wx.heap.size, 4, none⟩ = some (.int .i64 y1.s) := hd3.cell_ 4; have d5 : wy.cell? ⟨wx.heap.size, 5, none⟩ = some (.int .i64 y1.e) := hd3.cell_ 5; clear hd3)))
                    go_roundw
                    case rel => exact ⟨p + 1, by omega, by go_num, (btr ((btr hBr0 hBr0.size hb1).alloc (btr hBr0 hBr0.size hb1).size _) ((btr hBr0 hBr0.size hb1).alloc (btr hBr0 hBr0.size hb1).size _).size hb2).alloc (btr ((btr hBr0 hBr0.size hb1).alloc (btr hBr0 hBr0.size hb1).size _) ((btr hBr0 hBr0.size hb1).alloc (btr hBr0 hBr0.size hb1).size _).size hb2).size _⟩
                    case measure => simp [iOf]; omega
                  | some y2 =>
                    have H2 : Hid (atZ Lo (p : Int) = some y2) := Lib.hid hco2
                    clear hco2
                    go_wp2_with (first
                      | (go_at_call 16; ((with_reducible refine (at_yes Lb Lb.length Ab cb (p : Int) y1 H1 _ rfl hL4 (by omega)).mono ?_); rintro e' wx ⟨rfl, hb1⟩))
                      | (go_at_call 16; ((with_reducible refine (at_yes Lo Lo.length Ao co (p : Int) y2 H2 _ rfl (hO4.next (hb1.alloc hb1.size _)) (by omega)).mono ?_); rintro e' wy ⟨rfl, hb2⟩; (have hd3 : Blk wy wx.heap.size 30 #[.int .i64 y1.b, .int .i64 y1.g, .int .i64 y1.k, .int .i64 y1.p, .int .i64 y1.s, .int .i64 y1.e] := by (refine Blk.below (Blk.new_ wx 30 #[.int .i64 y1.b, .int .i64 y1.g, .int .i64 y1.k, .int .i64 y1.p, .int .i64 y1.s, .int .i64 y1.e]) hb2 ?_; first | omega | (simp; done) | (simp; omega))); (have hlx : wx.heap.size < wy.heap.size := hd3.lt); have d0 : wy.cell? ⟨wx.heap.size, 0, none⟩ = some (.int .i64 y1.b) := hd3.cell_ 0; have d1 : wy.cell? ⟨wx.heap.size, 1, none⟩ = some (.int .i64 y1.g) := hd3.cell_ 1; have d2 : wy.cell? ⟨wx.heap.size, 2, none⟩ = some (.int .i64 y1.k) := hd3.cell_ 2; have d3 : wy.cell? ⟨wx.heap.size, 3, none⟩ = some (.int .i64 y1.p) := hd3.cell_ 3; have d4 : wy.cell? ⟨wx.heap.size, 4, none⟩ = some (.int .i64 y1.s) := hd3.cell_ 4; have d5 : wy.cell? ⟨wx.heap.size, 5, none⟩ = some (.int .i64 y1.e) := hd3.cell_ 5; clear hd3)))
                    go_roundw
                    case rel => exact ⟨p + 1, by omega, by go_num, (btr ((btr hBr0 hBr0.size hb1).alloc (btr hBr0 hBr0.size hb1).size _) ((btr hBr0 hBr0.size hb1).alloc (btr hBr0 hBr0.size hb1).size _).size hb2).alloc (btr ((btr hBr0 hBr0.size hb1).alloc (btr hBr0 hBr0.size hb1).size _) ((btr hBr0 hBr0.size hb1).alloc (btr hBr0 hBr0.size hb1).size _).size hb2).size _⟩
                    case measure => simp [iOf]; omega
        · obtain rfl : p = 20 := by omega
          go_wp2_with (go_at_call 9; ((with_reducible refine (awake_any _).mono ?_); rintro e' wz ⟨rfl, hb⟩))
          go_ret
          exact ⟨rfl, btr hB3 hB3.size hb⟩
end Go.Proofs.Ytofeijlejljbdaa
