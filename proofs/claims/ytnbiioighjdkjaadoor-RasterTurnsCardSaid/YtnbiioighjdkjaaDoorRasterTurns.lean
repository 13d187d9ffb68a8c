/- RasterTurns: the walk. -/
import Derived.Test.YtnbiioighjdkjaaDoorRaZ3
import Derived.Test.YtnbiioighjdkjaaDoorOpenS2
namespace Go.Proofs.YtnbiioighjdkjaaDoor
open Go.ChangeShapes Go.WideShapes Go.ChangeAt Go.RowKit
set_option linter.unusedSimpArgs false
set_option linter.unusedVariables false

theorem RowO.none_ {w : World} {f : Nat → Nat} : RowO w none 0 f := Or.inl rfl
theorem own_rowO {w : World} {base n : Nat} {v : Value} {f : Nat → Nat} (h : w.ownsRow base 29 1 v (0 + n) ([] ++ rowsV f n)) : ∃ A c, v = .slice A n c ∧ RowO w A n f ∧ n ≤ c ∧ c ≤ maxLen := by
  rw [Nat.zero_add, List.nil_append] at h
  by_cases h0 : n = 0
  · subst h0
    rcases h.2 with ⟨rfl, _⟩ | ⟨g, cap, cur, rfl, _, _, hnc, hcm, _, _⟩
    · exact ⟨none, 0, rfl, Or.inl rfl, Nat.le_refl _, by unfold maxLen; omega⟩
    · exact ⟨_, cap, rfl, Or.inl rfl, hnc, hcm⟩
  · obtain ⟨g, c, rfl, hR, _, h1, h2⟩ := own_rowC h (by omega)
    exact ⟨_, c, rfl, RowO.of_row hR, h1, h2⟩
theorem below_g {w w' : World} (h : w.grownBy w' (Value.ownBlock (.slice none 0 0))) : Below w.heap.size w w' := ⟨h.os, h.tape, h.output, h.size, fun k hk => h.block k hk (by simp [Value.ownBlock])⟩
theorem rowO_sl {w : World} {A : Option Addr} {H : Nat} {f : Nat → Nat} (h : Sl w w.heap.size A (rowsV f H)) : RowO w A H f := by
  rcases h with h | ⟨b, off, e, hl, hc⟩
  · left
    have := congrArg List.length h
    rw [rowsV_len] at this
    exact this
  · exact Or.inr ⟨b, off, e, hl, fun k hk => hc k _ (rowsV_at f H k hk)⟩
set_option maxRecDepth 100000 in
set_option maxHeartbeats 4000000 in
theorem turns_walk (A : Option Addr) (n cap : Nat) (zs : List Nat) (za : Int) (w : World) (hns : SlA w A n cap (zs.map fun (z : Nat) => Value.int .u64 (z : Int))) (hzb : ∀ z ∈ zs, z < 2 ^ IntKind.u64.bits) (hza : i64in za) (hT : DbTab w) :
    Calls Tryd.prog 3 #[.slice A n cap, .int .i64 za] w fun e' w' => e' = .returned (.bool true) ∧ Below w.heap.size w w' := by
  have h0w : 0 < w.heap.size := by
    have hq : ∃ z, dbTab[0]? = some z := ⟨_, rfl⟩
    obtain ⟨z, hz⟩ := hq
    exact World.block_lt_of_cell? _ _ (hT 0 z hz)
  obtain ⟨hn, hs, hnc, hcm, -⟩ := hns
  rw [List.length_map] at hn
  obtain ⟨f, hf⟩ : ∃ f : Nat → Nat, (fun y => zs.getD y 0) = f := ⟨_, rfl⟩
  have HLC : Hid (∀ y, f y < 18446744073709551616) := Lib.hid (fun y => by
    rw [← hf]
    show zs.getD y 0 < _
    rw [List.getD_eq_getElem?_getD]
    cases hq : zs[y]? with
    | none => decide
    | some z => exact hzb z (List.mem_of_getElem? hq))
  have hrow : (zs.map fun (z : Nat) => Value.int .u64 (z : Int)) = rowsV f n := by
    apply List.ext_getElem?
    intro k
    by_cases hk : k < n
    · rw [rowsV_at f n k hk, ← hf, List.getElem?_map, List.getElem?_eq_getElem (by omega)]
      show some (Value.int .u64 (zs[k] : Int)) = some (.int .u64 ((zs.getD k 0 : Nat) : Int))
      rw [List.getD_eq_getElem?_getD, List.getElem?_eq_getElem (by omega)]
      rfl
    · rw [List.getElem?_eq_none (by rw [List.length_map]; omega), List.getElem?_eq_none (by rw [rowsV_len]; omega)]
  rw [hrow] at hs
  have HRD : Hid (Rd w A n 1 (rowsV f n)) := Lib.hid (Rd.of_sl hs (rowsV_len f n))
  have HONE : Hid (∀ u ∈ rowsV f n, u.oneCell' = true) := Lib.hid (by
    intro u hu
    unfold rowsV at hu
    obtain ⟨y, _, rfl⟩ := List.mem_map.1 hu
    rfl)
  have hR := rowO_sl hs
  have HDB := Lib.hid hT
  clear hn hzb hT hs hrow hf
  have hB : Below w.heap.size w w := Below.refl _ _
  by_cases h80 : 80 < n
  · have g1 : (80 : Int) < (n : Int) := by omega
    go_enter Tryd.func3, Tryd.ntmps3
    go_wp2_with (go_at_call 5; ((with_reducible refine (awake_any _).mono ?_); rintro e' wN ⟨rfl, hb⟩; replace hB := btr hB hB.size hb))
    go_ret
    exact ⟨rfl, hB⟩
  have g1 : ¬ (80 : Int) < (n : Int) := by omega
  obtain ⟨S, hS⟩ : ∃ q, sumN (fun y => popN (f y)) n = q := ⟨_, rfl⟩
  have HS := Lib.hid hS
  have HS2 : Hid (sumN (fun y => bitsN (f y) 64) n = S) := Lib.hid (by rw [← hS]; exact (sumN_same _ _ n (fun y _ => pop_bits _)).symm)
  clear hS hB h80
  go_enter Tryd.func3, Tryd.ntmps3
  go_upto_region 4 with (at_builtin; obtain ⟨ti0, hi, hz0, hz1, hz2⟩ := info_parts infoU64; refine wpList_app _ rfl (.const (.slice none 0 0)) (.tmp 23) _ rfl w.heap.size 29 ti0 _ 1 8 Tryd.underlying22 hi hz0 hz1 hz2 rfl (by decide) (.slice none 0 0) 0 [] rfl (World.ownsRow_nil _ _ _ _) A n cap (rowsV f n) rfl HRD.out HONE.out (by unfold maxLen; omega) (by omega) (Nat.le_refl _) ?_; intro v5 wp ho5 hg5 hv5; clear hi hz0 hz1 hz2 hv5)
  have hBp := below_g hg5
  obtain ⟨Ai, ci, hv5, hIp, hci, hcim⟩ := own_rowO ho5
  subst hv5
  have hRp := hR.next hBp
  have HB : Below wp.heap.size wp wp := Below.refl _ _
  clear ho5 hg5 hR HRD HONE
  by_cases hg : (1 ≤ za ∧ za ≤ 64) ∧ n ≤ 64
  · obtain ⟨WN, hWN⟩ : ∃ N : Nat, za = (N : Int) := ⟨za.toNat, by omega⟩
    subst hWN
    have hW : 1 ≤ WN ∧ WN ≤ 64 := by omega
    have hn64 : n ≤ 64 := hg.2
    clear hg
    by_cases h0 : orN f n = 0
    · have H0 := Lib.hid h0
      clear h0
      go_wp2_with (first
        | (go_at_call 6; ((with_reducible refine (turn_o Ai n ci f WN _ (hIp.next HB) (by omega) hW HLC).mono ?_); rintro e' wq ⟨⟨gt, rfl, RT, hgt⟩, hb⟩; have hgp := Nat.le_trans HB.size hgt; replace HB := btr HB HB.size hb; (try replace RQ := RQ.below hb); clear hb))
        | (go_at_call 10; ((with_reducible refine (rturn_o A n cap f WN _ (hRp.next HB) (by omega) hW HLC).mono ?_); rintro e' wq ⟨⟨gr, rfl, RQ, hgr⟩, hb⟩; replace HB := btr HB HB.size hb; (try replace RT := RT.below hb); clear hb))
        | (go_at_call 9; ((with_reducible refine (same_o (turnF f n) WN (some ⟨gt, 0, none⟩) (some ⟨gr, 0, none⟩) WN WN _ (by omega) (RowO.of_row RT) (RowO.of_row RQ)).mono ?_); rintro e' wq ⟨rfl, hb⟩; replace HB := btr HB HB.size hb; (try replace RT := RT.below hb); (try replace RQ := RQ.below hb); clear hb; clear RQ))
        | (go_at_call 7; ((with_reducible refine (box_no_o Ai n ci f _ (hIp.next HB) (by omega) HLC H0).mono ?_); rintro e' wq ⟨rfl, rfl⟩))
        | (go_at_call 8; ((with_reducible refine (rbox_no A n cap f _ (hRp.next HB) (by omega) HLC H0).mono ?_); rintro e' wq ⟨rfl, rfl⟩))
        | (go_at_call 11; ((with_reducible refine (count_o f n ci Ai S _ (by omega) (hIp.next HB) HLC HS).mono ?_); rintro e' wq ⟨rfl, rfl⟩))
        | (go_at_call 12; ((with_reducible refine (rcount_o A n cap f S _ (by omega) (hRp.next HB) HLC HS2).mono ?_); rintro e' wq ⟨rfl, rfl⟩))
        | (go_at_call 9; ((with_reducible refine (same_o f n Ai A ci cap _ (by omega) (hIp.next HB) (hRp.next HB)).mono ?_); rintro e' wq ⟨rfl, hb⟩; replace HB := btr HB HB.size hb; (try replace RT := RT.below hb); (try replace RQ := RQ.below hb); clear hb)))
      have hRT : ∃ vs : List Value, vs.length = WN ∧ RowT wq gt 29 vs := ⟨_, rowsV_len _ _, RT⟩
      clear RT
      go_loopw [18] (fun s18 wr => ∃ i : Nat, i ≤ WN ∧ s18 = .int .i64 (i : Int) ∧ (∃ vs : List Value, vs.length = WN ∧ RowT wr gt 29 vs) ∧ Below wp.heap.size wp wr) (fun s18 _ => WN - (intOf s18).toNat)
      case atStart => exact ⟨0, Nat.zero_le _, rfl, hRT, HB⟩
      case round =>
        clear hRT HB
        obtain ⟨i, hi, rfl, ⟨vs, hvs, RT⟩, HB⟩ := hrel
        by_cases hlt : i < WN
        · obtain ⟨v, hv⟩ : ∃ v, vs[i]? = some v := ⟨_, List.getElem?_eq_getElem (by omega)⟩
          have c0 : wr.cell? ⟨gt, i, none⟩ = some v := RT.cell_ hv
          have f0 := RT.free i
          have i0 : (0 : Int) ≤ (i : Int) := by omega
          have i1 : (i : Int) < (WN : Int) := by omega
          have HV := Lib.hid hvs
          clear hv hvs
          go_wp2_with fail
          go_roundw
          case rel => exact ⟨i + 1, by omega, by go_num, ⟨vs.set i (.int .u64 7), by rw [List.length_set]; exact HV.out, RT.set_ (by rw [HV.out]; exact hlt) _⟩, HB.setCell hgp _⟩
          case measure => simp [intOf]; omega
        · obtain rfl : i = WN := by omega
          clear RT hvs
          go_wp2_with (first
            | (go_at_call 9; ((with_reducible refine (same_o f n Ai A ci cap _ (by omega) (hIp.next HB) (hRp.next HB)).mono ?_); rintro e' wq ⟨rfl, hb⟩; replace HB := btr HB HB.size hb; clear hb))
            | (go_at_call 5; ((with_reducible refine (awake_any _).mono ?_); rintro e' wq ⟨rfl, hb⟩; replace HB := btr HB HB.size hb; clear hb)))
          go_ret
          exact ⟨rfl, btr hBp hBp.size HB⟩

    · obtain ⟨x0, y0, x1, y1, hbc⟩ := box_ex f n h0
      have HBC := Lib.hid hbc
      clear h0 hbc
      go_wp2_with (first
        | (go_at_call 6; ((with_reducible refine (turn_o Ai n ci f WN _ (hIp.next HB) (by omega) hW HLC).mono ?_); rintro e' wq ⟨⟨gt, rfl, RT, hgt⟩, hb⟩; have hgp := Nat.le_trans HB.size hgt; replace HB := btr HB HB.size hb; (try replace RQ := RQ.below hb); clear hb))
        | (go_at_call 10; ((with_reducible refine (rturn_o A n cap f WN _ (hRp.next HB) (by omega) hW HLC).mono ?_); rintro e' wq ⟨⟨gr, rfl, RQ, hgr⟩, hb⟩; replace HB := btr HB HB.size hb; (try replace RT := RT.below hb); clear hb))
        | (go_at_call 9; ((with_reducible refine (same_o (turnF f n) WN (some ⟨gt, 0, none⟩) (some ⟨gr, 0, none⟩) WN WN _ (by omega) (RowO.of_row RT) (RowO.of_row RQ)).mono ?_); rintro e' wq ⟨rfl, hb⟩; replace HB := btr HB HB.size hb; (try replace RT := RT.below hb); (try replace RQ := RQ.below hb); clear hb; clear RQ))
        | (go_at_call 7; ((with_reducible refine (box_yes_o Ai n ci f _ (hIp.next HB) (by omega) HLC x0 y0 x1 y1 HBC (dbTab_below HDB.out h0w (btr hBp hBp.size HB))).mono ?_); rintro e' wq ⟨rfl, rfl⟩))
        | (go_at_call 8; ((with_reducible refine (rbox_yes A n cap f _ (hRp.next HB) (by omega) HLC x0 y0 x1 y1 HBC).mono ?_); rintro e' wq ⟨rfl, rfl⟩))
        | (go_at_call 11; ((with_reducible refine (count_o f n ci Ai S _ (by omega) (hIp.next HB) HLC HS).mono ?_); rintro e' wq ⟨rfl, rfl⟩))
        | (go_at_call 12; ((with_reducible refine (rcount_o A n cap f S _ (by omega) (hRp.next HB) HLC HS2).mono ?_); rintro e' wq ⟨rfl, rfl⟩))
        | (go_at_call 9; ((with_reducible refine (same_o f n Ai A ci cap _ (by omega) (hIp.next HB) (hRp.next HB)).mono ?_); rintro e' wq ⟨rfl, hb⟩; replace HB := btr HB HB.size hb; (try replace RT := RT.below hb); (try replace RQ := RQ.below hb); clear hb)))
      have hRT : ∃ vs : List Value, vs.length = WN ∧ RowT wq gt 29 vs := ⟨_, rowsV_len _ _, RT⟩
      clear RT
      go_loopw [18] (fun s18 wr => ∃ i : Nat, i ≤ WN ∧ s18 = .int .i64 (i : Int) ∧ (∃ vs : List Value, vs.length = WN ∧ RowT wr gt 29 vs) ∧ Below wp.heap.size wp wr) (fun s18 _ => WN - (intOf s18).toNat)
      case atStart => exact ⟨0, Nat.zero_le _, rfl, hRT, HB⟩
      case round =>
        clear hRT HB
        obtain ⟨i, hi, rfl, ⟨vs, hvs, RT⟩, HB⟩ := hrel
        by_cases hlt : i < WN
        · obtain ⟨v, hv⟩ : ∃ v, vs[i]? = some v := ⟨_, List.getElem?_eq_getElem (by omega)⟩
          have c0 : wr.cell? ⟨gt, i, none⟩ = some v := RT.cell_ hv
          have f0 := RT.free i
          have i0 : (0 : Int) ≤ (i : Int) := by omega
          have i1 : (i : Int) < (WN : Int) := by omega
          have HV := Lib.hid hvs
          clear hv hvs
          go_wp2_with fail
          go_roundw
          case rel => exact ⟨i + 1, by omega, by go_num, ⟨vs.set i (.int .u64 7), by rw [List.length_set]; exact HV.out, RT.set_ (by rw [HV.out]; exact hlt) _⟩, HB.setCell hgp _⟩
          case measure => simp [intOf]; omega
        · obtain rfl : i = WN := by omega
          clear RT hvs
          go_wp2_with (first
            | (go_at_call 9; ((with_reducible refine (same_o f n Ai A ci cap _ (by omega) (hIp.next HB) (hRp.next HB)).mono ?_); rintro e' wq ⟨rfl, hb⟩; replace HB := btr HB HB.size hb; clear hb))
            | (go_at_call 5; ((with_reducible refine (awake_any _).mono ?_); rintro e' wq ⟨rfl, hb⟩; replace HB := btr HB HB.size hb; clear hb)))
          go_ret
          exact ⟨rfl, btr hBp hBp.size HB⟩

  · have hbad : Hid (¬ (1 ≤ za ∧ za ≤ 64) ∨ 64 < n) := Lib.hid (by omega)
    clear hg
    by_cases h0 : orN f n = 0
    · have H0 := Lib.hid h0
      clear h0
      go_wp2_with (first
        | (go_at_call 6; ((with_reducible refine (turn_ref Ai n ci za _ hbad.out).mono ?_); rintro e' wq ⟨rfl, rfl⟩))
        | (go_at_call 10; ((with_reducible refine (rturn_ref A n cap za _ hbad.out).mono ?_); rintro e' wq ⟨rfl, rfl⟩))
        | (go_at_call 9; ((with_reducible refine (same_o f 0 none none 0 0 _ (by omega) RowO.none_ RowO.none_).mono ?_); rintro e' wq ⟨rfl, hb⟩; replace HB := btr HB HB.size hb; (try replace RT := RT.below hb); (try replace RQ := RQ.below hb); clear hb))
        | (go_at_call 7; ((with_reducible refine (box_no_o Ai n ci f _ (hIp.next HB) (by omega) HLC H0).mono ?_); rintro e' wq ⟨rfl, rfl⟩))
        | (go_at_call 8; ((with_reducible refine (rbox_no A n cap f _ (hRp.next HB) (by omega) HLC H0).mono ?_); rintro e' wq ⟨rfl, rfl⟩))
        | (go_at_call 11; ((with_reducible refine (count_o f n ci Ai S _ (by omega) (hIp.next HB) HLC HS).mono ?_); rintro e' wq ⟨rfl, rfl⟩))
        | (go_at_call 12; ((with_reducible refine (rcount_o A n cap f S _ (by omega) (hRp.next HB) HLC HS2).mono ?_); rintro e' wq ⟨rfl, rfl⟩))
        | (go_at_call 9; ((with_reducible refine (same_o f n Ai A ci cap _ (by omega) (hIp.next HB) (hRp.next HB)).mono ?_); rintro e' wq ⟨rfl, hb⟩; replace HB := btr HB HB.size hb; (try replace RT := RT.below hb); (try replace RQ := RQ.below hb); clear hb)))
      go_loopw [18] (fun s18 wr => s18 = .int .i64 0 ∧ Below wp.heap.size wp wr) (fun s18 _ => 0)
      case atStart => exact ⟨rfl, HB⟩
      case round =>
        clear HB
        obtain ⟨rfl, HB⟩ := hrel
        go_wp2_with (first
          | (go_at_call 9; ((with_reducible refine (same_o f n Ai A ci cap _ (by omega) (hIp.next HB) (hRp.next HB)).mono ?_); rintro e' wq ⟨rfl, hb⟩; replace HB := btr HB HB.size hb; clear hb))
          | (go_at_call 5; ((with_reducible refine (awake_any _).mono ?_); rintro e' wq ⟨rfl, hb⟩; replace HB := btr HB HB.size hb; clear hb)))
        go_ret
        exact ⟨rfl, btr hBp hBp.size HB⟩

    · obtain ⟨x0, y0, x1, y1, hbc⟩ := box_ex f n h0
      have HBC := Lib.hid hbc
      clear h0 hbc
      go_wp2_with (first
        | (go_at_call 6; ((with_reducible refine (turn_ref Ai n ci za _ hbad.out).mono ?_); rintro e' wq ⟨rfl, rfl⟩))
        | (go_at_call 10; ((with_reducible refine (rturn_ref A n cap za _ hbad.out).mono ?_); rintro e' wq ⟨rfl, rfl⟩))
        | (go_at_call 9; ((with_reducible refine (same_o f 0 none none 0 0 _ (by omega) RowO.none_ RowO.none_).mono ?_); rintro e' wq ⟨rfl, hb⟩; replace HB := btr HB HB.size hb; (try replace RT := RT.below hb); (try replace RQ := RQ.below hb); clear hb))
        | (go_at_call 7; ((with_reducible refine (box_yes_o Ai n ci f _ (hIp.next HB) (by omega) HLC x0 y0 x1 y1 HBC (dbTab_below HDB.out h0w (btr hBp hBp.size HB))).mono ?_); rintro e' wq ⟨rfl, rfl⟩))
        | (go_at_call 8; ((with_reducible refine (rbox_yes A n cap f _ (hRp.next HB) (by omega) HLC x0 y0 x1 y1 HBC).mono ?_); rintro e' wq ⟨rfl, rfl⟩))
        | (go_at_call 11; ((with_reducible refine (count_o f n ci Ai S _ (by omega) (hIp.next HB) HLC HS).mono ?_); rintro e' wq ⟨rfl, rfl⟩))
        | (go_at_call 12; ((with_reducible refine (rcount_o A n cap f S _ (by omega) (hRp.next HB) HLC HS2).mono ?_); rintro e' wq ⟨rfl, rfl⟩))
        | (go_at_call 9; ((with_reducible refine (same_o f n Ai A ci cap _ (by omega) (hIp.next HB) (hRp.next HB)).mono ?_); rintro e' wq ⟨rfl, hb⟩; replace HB := btr HB HB.size hb; (try replace RT := RT.below hb); (try replace RQ := RQ.below hb); clear hb)))
      go_loopw [18] (fun s18 wr => s18 = .int .i64 0 ∧ Below wp.heap.size wp wr) (fun s18 _ => 0)
      case atStart => exact ⟨rfl, HB⟩
      case round =>
        clear HB
        obtain ⟨rfl, HB⟩ := hrel
        go_wp2_with (first
          | (go_at_call 9; ((with_reducible refine (same_o f n Ai A ci cap _ (by omega) (hIp.next HB) (hRp.next HB)).mono ?_); rintro e' wq ⟨rfl, hb⟩; replace HB := btr HB HB.size hb; clear hb))
          | (go_at_call 5; ((with_reducible refine (awake_any _).mono ?_); rintro e' wq ⟨rfl, hb⟩; replace HB := btr HB HB.size hb; clear hb)))
        go_ret
        exact ⟨rfl, btr hBp hBp.size HB⟩

end Go.Proofs.YtnbiioighjdkjaaDoor
