/- TagBack: the walk. -/
import Derived.Test.YtjmochkhdapmiaaTagLengths
import Derived.StillTailTactics
namespace Go.Proofs.Ytjmochkhdapmiaa
open Go.ChangeShapes Go.WideShapes Go.ChangeAt Go.RowKit
attribute [local go_sem ↓] Go.wp_at_zero Go.wp_at_succ
set_option linter.unusedSimpArgs false
set_option linter.unusedVariables false

theorem xor_off {u v : Nat} (h : v ≠ 0) : u ≠ u ^^^ v := by
  intro he
  apply h
  have := congrArg (u ^^^ ·) he
  simpa [← Nat.xor_assoc] using this.symm
theorem xor8' {a b : Nat} (ha : a < 256) (hb : b < 256) : bits .xor .u8 (a : Int) (b : Int) = ((a ^^^ b : Nat) : Int) := u8_xor_nat a b ha hb
set_option maxRecDepth 100000 in
set_option maxHeartbeats 8000000 in
theorem back_walk (A1 : Option Addr) (n1 c1 : Nat) (a : List Nat) (tk tp ts te bit : Int) (w : World)
    (r1 : SlA w A1 n1 c1 (a.map byteV)) (h81 : Bytes8 a) (_ : i64in tk ∧ i64in tp ∧ i64in ts ∧ i64in te) (_ : i64in bit) :
    Calls Try.prog 6 #[.slice A1 n1 c1, .agg #[.int .i64 tk, .int .i64 tp, .int .i64 ts, .int .i64 te], .int .i64 bit] w fun e' w' => e' = .returned (.bool true) ∧ Below w.heap.size w w' := by
  obtain ⟨e1, h1, _⟩ := r1
  rw [List.length_map] at e1
  subst e1
  have HB0 : Below w.heap.size w (w.alloc (.cells #[.int .i64 tk, .int .i64 tp, .int .i64 ts, .int .i64 te] 24)) := (Below.refl _ _).alloc (Nat.le_refl _) _
  by_cases hx : 100 < a.length
  · have g1 : (100 : Int) < (a.length : Int) := by omega
    go_enter Try.func6, Try.ntmps6
    go_wp2_with (go_at_call 9; refine (awake_any _).mono ?_; rintro e' w2 ⟨rfl, hb2⟩)
    go_ret
    exact ⟨rfl, btr HB0 HB0.size hb2⟩
  have g1 : ¬ (100 : Int) < (a.length : Int) := by omega
  have m1 : a.length ≤ 1000000 := by omega
  have H1 := h1.next HB0
  have G1 : Blk (w.alloc (.cells #[.int .i64 tk, .int .i64 tp, .int .i64 ts, .int .i64 te] 24)) w.heap.size 24 #[.int .i64 tk, .int .i64 tp, .int .i64 ts, .int .i64 te] := Blk.new_ _ _ _
  rcases lay_cases a h81 tk tp ts te with hn1 | ⟨K, P, S, E, rfl, rfl, rfl, rfl, ok1⟩
  · have HN := Lib.hid hn1
    clear hn1
    go_enter Try.func6, Try.ntmps6
    go_wp2_with (first
      | (go_at_call 11; refine (lay_no a A1 c1 tk tp ts te _ HN.out (by omega)).mono ?_; rintro e' wL ⟨rfl, hb⟩; have HB0 := btr HB0 HB0.size hb; have H1 := H1.next hb; have G1 := G1.below hb G1.lt; (try clear y0 y1 y2 y3); have y0 := G1.cell_ 0; have y1 := G1.cell_ 1; have y2 := G1.cell_ 2; have y3 := G1.cell_ 3; simp at y0 y1 y2 y3; clear hb)
      | (go_at_call 9; refine (awake_any _).mono ?_; rintro e' w2 ⟨rfl, hb2⟩))
    go_ret
    exact ⟨rfl, btr HB0 HB0.size hb2⟩
  · have OK1 := Lib.hid ok1
    obtain ⟨N, hN⟩ : ∃ N, a.length + 16 = N := ⟨_, rfl⟩
    have hr := rawB_len a K P S E
    rw [hN] at hr
    have h8r : Bytes8 (rawB a K P S E) := rawB_8 ok1.2.2.2.2.2.2.2.2 (by have := ok1.2.2.2.1; omega)
    have hal : 24 ≤ a.length := ok1.1
    have bb := lowI_bd bit (8 * (N : Int)) (by omega)
    obtain ⟨q, hq⟩ : ∃ q : Nat, lowI bit (8 * (N : Int)) = (q : Int) := ⟨(lowI bit (8 * (N : Int))).toNat, by omega⟩
    rw [hq] at bb
    have HQ := Lib.hid hq
    obtain ⟨i, hi8⟩ : ∃ i, q / 8 = i := ⟨_, rfl⟩
    obtain ⟨s, hs8⟩ : ∃ s, q % 8 = s := ⟨_, rfl⟩
    have wt : ((q : Int)).tmod 8 = (s : Int) := by rw [Int.tmod_eq_emod_of_nonneg (by omega)]; omega
    have wd : ((q : Int)).tdiv 8 = (i : Int) := by rw [Int.tdiv_eq_ediv_of_nonneg (by omega)]; omega
    have wq : IntKind.i64.wrap ((q : Int)) = (q : Int) := IntWalk.i64_in _ (by omega)
    have wi : IntKind.i64.wrap (i : Int) = (i : Int) := IntWalk.i64_in _ (by omega)
    have hiN : i < N := by omega
    have hs7 : s < 8 := by omega
    obtain ⟨u, hu⟩ : ∃ u, (rawB a K P S E).getD i 0 = u := ⟨_, rfl⟩
    have hu8 : u < 256 := by rw [← hu]; exact Bytes8.at_ h8r i
    obtain ⟨p2, hp2⟩ : ∃ p : Nat, 2 ^ s = p := ⟨_, rfl⟩
    have hp8 : p2 < 256 := by rw [← hp2]; exact Nat.pow_lt_pow_right (by omega) hs7
    have hp0 : p2 ≠ 0 := by rw [← hp2]; have := Nat.pow_pos (n := s) (show 0 < 2 by decide); omega
    have wsh : IntKind.u8.wrap ((2 : Int) ^ s) = (p2 : Int) := by
      have e : ((2 : Int) ^ s) = (p2 : Int) := by rw [← hp2]; push_cast; rfl
      rw [e, IntKind.wrap_u8']
      omega
    have wx := xor8' hu8 hp8
    have hx8 : u ^^^ p2 < 256 := Nat.xor_lt_two_pow (n := 8) hu8 hp8
    have hturn := raw_turned ok1 (i := i) (v := u ^^^ p2) (by omega) hx8 (by rw [hu]; exact xor_off hp0)
    obtain ⟨R, hR⟩ : ∃ R, rawB a K P S E = R := ⟨_, rfl⟩
    rw [hR] at hr h8r hu hturn
    have HR := Lib.hid hR
    have HN := Lib.hid hN
    have HRL := Lib.hid hr
    have HU := Lib.hid hu
    have HT := Lib.hid hturn
    have h8x : Bytes8 (R.set i (u ^^^ p2)) := fun b hb => by
      rcases List.mem_or_eq_of_mem_set hb with h | h
      · exact h8r b h
      · omega
    have hxl : (R.set i (u ^^^ p2)).length = N := by rw [List.length_set]; exact hr
    have HXL := Lib.hid hxl
    have e6 : ((N : Int) != ((a.length : Int) + 16)) = false := by simp; omega
    have hN2 : N ≤ 1000 := by have := ok1.2.1; omega
    have wn : IntKind.i64.wrap (8 * (N : Int)) = 8 * (N : Int) := IntWalk.i64_in _ (by omega)
    obtain ⟨i0, hi, hz0, hz1, hz2⟩ := info_parts infoByte
    have j0 : (0 : Int) ≤ (i : Int) := by omega
    have j1 : (i : Int) < (N : Int) := by omega
    have hN16 : 16 ≤ N := by omega
    clear ok1 hR hN hr hu hturn hxl hq hi8 hs8 hp2 hp0
    go_enter Try.func6, Try.ntmps6
    go_wp2_with (first
      | (go_at_call 11; refine (lay_yes' a _ rfl A1 c1 K P S E _ H1 OK1.out).mono ?_; rintro e' wL ⟨sv, rfl, ho, hb⟩; have HB0 := btr HB0 HB0.size hb; have H1 := H1.next hb; have G1 := G1.below hb G1.lt; (try clear y0 y1 y2 y3); have y0 := G1.cell_ 0; have y1 := G1.cell_ 1; have y2 := G1.cell_ 2; have y3 := G1.cell_ 3; simp at y0 y1 y2 y3; rw [HR.out] at ho; replace ho := own_len HN.out ho; obtain ⟨A5, c5, rfl, hl5, hc5, hc6, hA5, O5⟩ := own_slice ho; have HC6 := Lib.hid hc6; clear hl5 hc6 hA5 ho hb)
      | (go_at_call 19; ((with_reducible refine (read_raw OK1.out N HN.out A5 c5 _ (by rw [HR.out]; exact O5) hc5 HC6.out).mono ?_); rintro e' wV ⟨sd, rfl, hoV, hb⟩; obtain ⟨g7, c7, rfl, -, -⟩ := hoV.form (by omega); have G1 := (G1.below hb G1.lt).alloc_ (.cells #[.int .i64 (K : Nat), .int .i64 (P : Nat), .int .i64 (S : Nat), .int .i64 (E : Nat)] 24); have H1 := (H1.next hb).alloc_ (.cells #[.int .i64 (K : Nat), .int .i64 (P : Nat), .int .i64 (S : Nat), .int .i64 (E : Nat)] 24); have O5 := (O5.next hb).alloc_ (.cells #[.int .i64 (K : Nat), .int .i64 (P : Nat), .int .i64 (S : Nat), .int .i64 (E : Nat)] 24); have DV := (Sl.of_own hoV).alloc_ (.cells #[.int .i64 (K : Nat), .int .i64 (P : Nat), .int .i64 (S : Nat), .int .i64 (E : Nat)] 24); have HB0 := (btr HB0 HB0.size hb).alloc (btr HB0 HB0.size hb).size (.cells #[.int .i64 (K : Nat), .int .i64 (P : Nat), .int .i64 (S : Nat), .int .i64 (E : Nat)] 24); (try clear y0 y1 y2 y3); have y0 := G1.cell_ 0; have y1 := G1.cell_ 1; have y2 := G1.cell_ 2; have y3 := G1.cell_ 3; simp at y0 y1 y2 y3; have T1 : Blk (wV.alloc (.cells #[.int .i64 (K : Nat), .int .i64 (P : Nat), .int .i64 (S : Nat), .int .i64 (E : Nat)] 24)) wV.heap.size 24 #[.int .i64 (K : Nat), .int .i64 (P : Nat), .int .i64 (S : Nat), .int .i64 (E : Nat)] := Blk.new_ _ _ _; clear hoV hb))
      | (go_at_call 13; ((with_reducible refine (sameB_b true a a _ _ rfl rfl (decide_eq_true rfl) _ A1 _ _ _ DV H1 (by omega) (by omega)).mono ?_); rintro e' wW ⟨rfl, hb⟩; have HB0 := btr HB0 HB0.size hb; have H1 := H1.next hb; have G1 := G1.below hb G1.lt; (try clear y0 y1 y2 y3); have y0 := G1.cell_ 0; have y1 := G1.cell_ 1; have y2 := G1.cell_ 2; have y3 := G1.cell_ 3; simp at y0 y1 y2 y3; have O5 := O5.next hb; have T1 := T1.below hb T1.lt; have x0 := T1.cell_ 0; have x1 := T1.cell_ 1; have x2 := T1.cell_ 2; have x3 := T1.cell_ 3; simp at x0 x1 x2 x3; clear hb))
      | (go_at_call 21; refine (low_any bit (8 * (N : Int)) _ (by omega) (by omega)).mono ?_; rw [HQ.out]; rintro e' w' ⟨rfl, rfl⟩)
      | (at_builtin; refine wpList_app _ rfl (.const (.slice none 0 0)) (.tmp 65) _ rfl wW.heap.size 5 i0 _ 1 1 Try.underlying22 hi hz0 hz1 hz2 rfl (by decide) (.slice none 0 0) 0 [] rfl (World.ownsRow_nil _ _ _ _) _ N _ (R.map byteV) rfl (Rd.of_sl O5 (by simp; exact HRL.out)) (oneB R) (by unfold maxLen; omega) (by omega) (Nat.le_refl _) ?_; intro v8 w8 ho8 hg8 _))
    replace ho8 := own_len (m := N) (by omega) (show w8.ownsRow wW.heap.size 5 1 v8 (0 + N) (R.map byteV) from ho8)
    have HB8 : Below w.heap.size w w8 := HB0.trans ((below_app (B := wW.heap.size) (Nat.le_refl _) (Nat.le_refl _) (World.ownsRow_nil wW wW.heap.size 5 1) hg8).mono HB0.size)
    obtain ⟨A8, c8, hv8, -, hc8, hc8', -, -⟩ := own_slice ho8
    obtain ⟨g, cap, hv, hbg, -⟩ := ho8.form (by omega)
    rw [hv] at hv8
    cases hv8
    subst hv
    have cg : w8.cell? ⟨g, i, none⟩ = some (.int .u8 (u : Int)) := by
      have hx := HRL.out
      have hy := HU.out
      rw [ho8.cellAt i (by omega), List.getElem?_map, List.getElem?_eq_getElem (by omega), ← hy, List.getD_eq_getElem?_getD, List.getElem?_eq_getElem (by omega)]
      rfl
    have fg := ho8.frozenAt i
    have hgw : w.heap.size ≤ g := Nat.le_trans HB0.size (ho8.lt g rfl).1
    go_still_tail 9, (by kernel_rfl)
    change wpList _ _ _ _ _ w8.drew
    go_wp2_with fail
    have ox := (ho8.stored i (byteV (u ^^^ p2))).1.drew
    have hB2 : Below w.heap.size w (w8.setCell ⟨g, i, none⟩ (.int .u8 ((u ^^^ p2 : Nat) : Int))).drew := below_dn (HB8.setCell hgw _) 1
    change (w8.setCell ⟨g, i, none⟩ (.int .u8 ((u ^^^ p2 : Nat) : Int))).drew.ownsRow _ _ _ _ _ _ at ox
    generalize (w8.setCell ⟨g, i, none⟩ (.int .u8 ((u ^^^ p2 : Nat) : Int))).drew = w9 at ox hB2 ⊢
    rw [← List.map_set] at ox
    have HC8 := Lib.hid hc8'
    clear hc8' hg8 HB8 cg fg y0 y1 y2 y3 x0 x1 x2 x3
    go_wp2_with (first
      | (go_at_call 19; ((with_reducible refine (read_bad (R.set i (u ^^^ p2)) N HXL.out (some ⟨g, 0, none⟩) c8 _ (Sl.of_own ox) h8x hc8 HC8.out (by omega) 2 HT.out (by omega)).mono ?_); rintro e' wZ ⟨rfl, hb⟩; have HBF := (btr hB2 hB2.size hb).alloc (btr hB2 hB2.size hb).size (.cells #[.int .i64 0, .int .i64 0, .int .i64 0, .int .i64 0] 24)))
      | (go_at_call 9; refine (awake_any _).mono ?_; rintro e' w2 ⟨rfl, hb2⟩))
    go_ret
    exact ⟨rfl, btr HBF HBF.size hb2⟩
end Go.Proofs.Ytjmochkhdapmiaa
