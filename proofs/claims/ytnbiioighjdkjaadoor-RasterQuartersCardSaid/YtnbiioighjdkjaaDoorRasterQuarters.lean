/- RasterQuarters: the walk. -/
import Derived.Test.YtnbiioighjdkjaaDoorRaY
import Derived.Test.YtnbiioighjdkjaaDoorOpenS2
namespace Go.Proofs.YtnbiioighjdkjaaDoor
open Go.ChangeShapes Go.WideShapes Go.ChangeAt Go.RowKit
set_option linter.unusedSimpArgs false
set_option linter.unusedVariables false

theorem and_cut (x W : Nat) : x &&& (2 ^ W - 1) = x % 2 ^ W := Nat.and_two_pow_sub_one_eq_mod x W
set_option maxRecDepth 100000 in
set_option maxHeartbeats 8000000 in
theorem quarters_walk (A : Option Addr) (n cap : Nat) (zs : List Nat) (za : Int) (w : World) (hns : SlA w A n cap (zs.map fun (z : Nat) => Value.int .u64 (z : Int))) (hzb : ∀ z ∈ zs, z < 2 ^ IntKind.u64.bits) (_ : i64in za) (hT : DbTab w) :
    Calls Tryd.prog 4 #[.slice A n cap, .int .i64 za] w fun e' w' => e' = .returned (.bool true) ∧ Below w.heap.size w w' := by
  obtain ⟨hn, hs, -, -, -⟩ := hns
  rw [List.length_map] at hn
  have HN := Lib.hid hn
  have HZ : Hid (∀ z ∈ zs, z < 18446744073709551616) := Lib.hid hzb
  have HDB := Lib.hid hT
  clear hn hzb hT
  have hB : Below w.heap.size w w := Below.refl _ _
  by_cases h60 : 64 < n
  · have g1 : (64 : Int) < (n : Int) := by omega
    go_enter Tryd.func4, Tryd.ntmps4
    go_wp2_with (go_at_call 5; ((with_reducible refine (awake_any _).mono ?_); rintro e' wN ⟨rfl, hb⟩; replace hB := btr hB hB.size hb))
    go_ret
    exact ⟨rfl, hB⟩
  have g1 : ¬ (64 : Int) < (n : Int) := by omega
  by_cases h4 : n = 0
  · have g2 : ((n : Int) == 0) = true := by rw [h4]; rfl
    go_enter Tryd.func4, Tryd.ntmps4
    go_wp2_with (go_at_call 5; ((with_reducible refine (awake_any _).mono ?_); rintro e' wN ⟨rfl, hb⟩; replace hB := btr hB hB.size hb))
    go_ret
    exact ⟨rfl, hB⟩
  have g2 : ((n : Int) == 0) = false := by simp; omega
  obtain ⟨g, off, rfl, hg, hc⟩ := hs.at_ (by have := HN.out; simp; omega)
  have HC := Lib.hid hc
  have h0w : 0 < w.heap.size := by omega
  clear hs hc
  obtain ⟨WN, hN⟩ : ∃ N : Nat, 1 + lowI za 64 = (N : Int) := ⟨(1 + lowI za 64).toNat, by have := lowI_bd za 64 (by omega); omega⟩
  have hWN : 1 ≤ WN ∧ WN ≤ 64 := by have := lowI_bd za 64 (by omega); omega
  obtain ⟨k, hk⟩ : ∃ k, lowI za 64 = k := ⟨_, rfl⟩
  have HKK := Lib.hid hk
  rw [hk] at hN
  have ew : IntKind.i64.wrap (1 + k) = (WN : Int) := by rw [hN]; exact wrapS _ (by omega) (by omega)
  obtain ⟨fc, hfc⟩ : ∃ f : Nat → Nat, (fun y => zs.getD y 0 % 2 ^ WN) = f := ⟨_, rfl⟩
  have HFC : Hid (∀ y, fc y = zs.getD y 0 % 2 ^ WN) := Lib.hid (fun y => by rw [← hfc])
  have HFW : Hid (∀ y, fc y < 2 ^ WN) := Lib.hid (fun y => by rw [← hfc]; exact Nat.mod_lt _ (Nat.pow_pos (by decide)))
  have hp64 : 2 ^ WN ≤ 18446744073709551616 := Nat.le_trans (Nat.pow_le_pow_right (by decide) hWN.2) (by decide)
  have HLC : Hid (∀ y, fc y < 18446744073709551616) := Lib.hid (fun y => Nat.lt_of_lt_of_le (HFW.out y) hp64)
  clear hk hfc
  go_enter Tryd.func4, Tryd.ntmps4
  go_upto_region 5 with (go_at_call 13; refine (low_any za 64 _ (by omega) (by omega)).mono ?_; rw [HKK.out]; rintro e' wN ⟨rfl, rfl⟩)
  clear ew hN
  go_wp2_with fail
  go_loopw [5, 6] (fun s5 s6 wr => ∃ (i : Nat) (v : Value), i ≤ n ∧ s5 = v ∧ s6 = .int .i64 (i : Int) ∧ wr.ownsRow w.heap.size 29 1 v i (rowsV fc i) ∧ Below w.heap.size w wr) (fun _ s6 _ => n - (intOf s6).toNat)
  case atStart => exact ⟨0, .slice none 0 0, by omega, rfl, rfl, World.ownsRow_nil _ _ _ _, (by first | exact hB | exact hB.drew)⟩
  case round =>
    clear hB
    obtain ⟨i, v, hi, rfl, rfl, R5, hB⟩ := hrel
    by_cases hlt : i < n
    · have i0 : (0 : Int) ≤ (i : Int) := by omega
      have i1 : (i : Int) < (n : Int) := by omega
      obtain ⟨z1, hz1⟩ : ∃ z, zs.getD i 0 = z := ⟨_, rfl⟩
      have hzl : z1 < 18446744073709551616 := by
        rw [← hz1, List.getD_eq_getElem?_getD, List.getElem?_eq_getElem (by have := HN.out; omega)]
        exact HZ.out _ (List.getElem_mem _)
      have c1 : wr.cell? ⟨g, off + i, none⟩ = some (.int .u64 (z1 : Int)) := (hB.cell (p := ⟨g, off + i, none⟩) hg).trans (HC.out i _ (by rw [List.getElem?_map, List.getElem?_eq_getElem (by have := HN.out; omega), ← hz1, List.getD_eq_getElem?_getD, List.getElem?_eq_getElem (by have := HN.out; omega)]; rfl))
      obtain ⟨fcx, hfx⟩ : ∃ z, fc i = z := ⟨_, rfl⟩
      have hfz : fcx = z1 % 2 ^ WN := by rw [← hfx, HFC.out i, hz1]
      have HRS : Hid (rowsV fc (i + 1) = rowsV fc i ++ [.int .u64 ((fcx : Nat) : Int)]) := Lib.hid (by unfold rowsV; rw [List.range_succ, List.map_append, ← hfx]; rfl)
      clear hz1 hfx
      by_cases h64 : WN < 64
      · have w64 : (WN : Int) < 64 := by omega
        have hp : 2 ^ WN ≤ 9223372036854775808 := Nat.le_trans (Nat.pow_le_pow_right (by decide) (by omega : WN ≤ 63)) (by decide)
        obtain ⟨P1, hP1⟩ : ∃ p, 2 ^ WN = p := ⟨_, rfl⟩
        have hP0 : 0 < P1 := by rw [← hP1]; exact Nat.pow_pos (by decide)
        rw [hP1] at hp hfz
        have ci : ((2 : Int) ^ WN) = (P1 : Int) := by rw [← hP1]; push_cast; rfl
        have q1 : IntKind.u64.wrap ((2 : Int) ^ WN) = (P1 : Int) := by rw [ci]; exact wrap_u64 P1 (by omega)
        have q2 : IntKind.u64.wrap (1 * (2 : Int) ^ WN) = (P1 : Int) := by rw [Int.one_mul]; exact q1
        have q3 : IntKind.u64.wrap ((P1 : Int) - 1) = ((P1 - 1 : Nat) : Int) := by rw [show (P1 : Int) - 1 = ((P1 - 1 : Nat) : Int) by omega]; exact wrap_u64 _ (by omega)
        obtain ⟨P2, hP2⟩ : ∃ p, P1 - 1 = p := ⟨_, rfl⟩
        rw [hP2] at q3
        have q4 : bits .and .u64 (z1 : Int) (P2 : Int) = (fcx : Int) := by
          rw [u64_and_nat z1 P2 hzl (by omega), hfz, ← hP2, ← hP1, and_cut]
        clear ci hP1 hP2 hfz hp hP0
        go_wp2_with (at_builtin; obtain ⟨ti0, hi, hz0, hz1, hz2⟩ := info_parts infoU64; refine wpList_app _ rfl (.tmp 52) (.tmp 54) _ rfl w.heap.size 29 ti0 _ 1 8 Tryd.underlying22 hi hz0 hz1 hz2 rfl (by decide) _ i _ rfl (R5.alloc _) _ 1 _ [.int .u64 ((fcx : Nat) : Int)] rfl (Rd.one (by simp)) (by simp [Value.oneCell']) (by unfold maxLen; omega) (by omega) (by simp; have := hB.size; omega) ?_; intro u5 w1 ho5 hg5 hv5; clear hi hz0 hz1 hz2; have hB1 := (hB.alloc hB.size (.cells #[.int .u64 ((fcx : Nat) : Int)] 29)).grown hg5 (by simp; have := hB.size; omega) (fun g h => (R5.lt g h).1))
        have HO5 := Lib.hid ho5
        have HB1 := Lib.hid hB1
        clear ho5 hB1 hg5 hv5 R5 hB
        go_roundw
        case rel => exact ⟨i + 1, u5, by omega, rfl, by go_num, by rw [HRS.out]; exact HO5.out, HB1.out⟩
        case measure => simp [intOf]; omega
      · have w64 : ¬ (WN : Int) < 64 := by omega
        obtain rfl : fcx = z1 := by
          rw [hfz, show WN = 64 by omega]
          exact Nat.mod_eq_of_lt hzl
        clear hfz
        go_wp2_with (at_builtin; obtain ⟨ti0, hi, hz0, hz1, hz2⟩ := info_parts infoU64; refine wpList_app _ rfl (.tmp 52) (.tmp 54) _ rfl w.heap.size 29 ti0 _ 1 8 Tryd.underlying22 hi hz0 hz1 hz2 rfl (by decide) _ i _ rfl (R5.alloc _) _ 1 _ [.int .u64 ((fcx : Nat) : Int)] rfl (Rd.one (by simp)) (by simp [Value.oneCell']) (by unfold maxLen; omega) (by omega) (by simp; have := hB.size; omega) ?_; intro u5 w1 ho5 hg5 hv5; clear hi hz0 hz1 hz2; have hB1 := (hB.alloc hB.size (.cells #[.int .u64 ((fcx : Nat) : Int)] 29)).grown hg5 (by simp; have := hB.size; omega) (fun g h => (R5.lt g h).1))
        have HO5 := Lib.hid ho5
        have HB1 := Lib.hid hB1
        clear ho5 hB1 hg5 hv5 R5 hB
        go_roundw
        case rel => exact ⟨i + 1, u5, by omega, rfl, by go_num, by rw [HRS.out]; exact HO5.out, HB1.out⟩
        case measure => simp [intOf]; omega
    · obtain rfl : i = n := by omega
      obtain ⟨g5, c5, rfl, PC, hg5, hc5, hm5⟩ := own_rowC R5 (by omega)
      clear R5
      obtain ⟨fA, hfA⟩ : ∃ f, turnF fc i = f := ⟨_, rfl⟩
      obtain ⟨fB, hfB⟩ : ∃ f, turnF fA WN = f := ⟨_, rfl⟩
      obtain ⟨fC, hfC⟩ : ∃ f, turnF fB i = f := ⟨_, rfl⟩
      obtain ⟨fD, hfD⟩ : ∃ f, turnF fC WN = f := ⟨_, rfl⟩
      have hp64i : 2 ^ i ≤ 18446744073709551616 := Nat.le_trans (Nat.pow_le_pow_right (by decide) (by omega : i ≤ 64)) (by decide)
      have HLA : Hid (∀ y, fA y < 18446744073709551616) := Lib.hid (fun y => by rw [← hfA]; exact Nat.lt_of_lt_of_le (turn_lt _ _ _) hp64i)
      have HLB : Hid (∀ y, fB y < 18446744073709551616) := Lib.hid (fun y => by rw [← hfB]; exact Nat.lt_of_lt_of_le (turn_lt _ _ _) hp64)
      have HLC3 : Hid (∀ y, fC y < 18446744073709551616) := Lib.hid (fun y => by rw [← hfC]; exact Nat.lt_of_lt_of_le (turn_lt _ _ _) hp64i)
      have HD4 : Hid (rowsV fD i = rowsV fc i) := Lib.hid (rowsV_eq (fun y hy => by rw [← hfD, ← hfC, ← hfB, ← hfA]; exact turn_four fc WN i y hy (HFW.out y)))
      obtain ⟨NN, hNN⟩ : ∃ q, sumN (fun y => popN (fc y)) i = q := ⟨_, rfl⟩
      have HCC := Lib.hid hNN
      have HCA : Hid (sumN (fun y => popN (fA y)) WN = NN) := Lib.hid (by
        rw [← hNN, sumN_same (fun y => popN (fA y)) (fun y => bitsN (turnF fc i y) 64) WN (fun y _ => by show popN (fA y) = _; rw [pop_bits, hfA]), sumN_same (fun y => popN (fc y)) (fun y => bitsN (fc y) 64) i (fun y _ => pop_bits _)]
        exact turn_bits fc WN i hWN.2 (by omega) (fun y _ => HFW.out y))
      have HFA := Lib.hid hfA
      have HFB := Lib.hid hfB
      have HFC3 := Lib.hid hfC
      have HFD := Lib.hid hfD
      clear hfA hfB hfC hfD hNN hp64i
      have hi1 : 1 ≤ i ∧ i ≤ 64 := by omega
      go_upto_region 17 with (first
  | (go_at_call 6; ((with_reducible refine (turn_any g5 i c5 fc WN _ PC (by omega) hWN HLC).mono ?_); rintro e' wN ⟨⟨gA, rfl, RA, hgA⟩, hb⟩; rw [HFA.out] at RA; replace hB := btr hB hB.size hb; replace PC := PC.below hb; ))
  | (go_at_call 6; ((with_reducible refine (turn_any gA WN WN fA i _ RA (by omega) (by omega) HLA).mono ?_); rintro e' wN ⟨⟨gB, rfl, RB, hgB⟩, hb⟩; rw [HFB.out] at RB; replace hB := btr hB hB.size hb; replace PC := PC.below hb; replace RA := RA.below hb))
  | (go_at_call 6; ((with_reducible refine (turn_any gB i i fB WN _ RB (by omega) hWN HLB).mono ?_); rintro e' wN ⟨⟨gC, rfl, RC, hgC⟩, hb⟩; rw [HFC3.out] at RC; replace hB := btr hB hB.size hb; replace PC := PC.below hb; replace RA := RA.below hb; replace RB := RB.below hb))
  | (go_at_call 6; ((with_reducible refine (turn_any gC WN WN fC i _ RC (by omega) (by omega) HLC3).mono ?_); rintro e' wN ⟨⟨gD, rfl, RD, hgD⟩, hb⟩; rw [HFD.out] at RD; replace hB := btr hB hB.size hb; replace PC := PC.below hb; replace RA := RA.below hb; replace RB := RB.below hb; replace RC := RC.below hb)))
      have RD2 := RD
      rw [HD4.out] at RD2
      clear RB RC RD
      by_cases h0 : orN fc i = 0
      · have H0 := Lib.hid h0
        have H1 : Hid (orN fA WN = 0) := Lib.hid (by rw [← HFA.out]; exact (box_none (fun y _ => HFW.out y)).1 h0)
        clear h0
        go_wp2_with (first
  | (go_at_call 7; ((with_reducible refine (box_no g5 i c5 fc _ PC (by omega) HLC H0).mono ?_); rintro e' wN ⟨rfl, rfl⟩; skip))
  | (go_at_call 7; ((with_reducible refine (box_no gA WN WN fA _ RA (by omega) HLA H1).mono ?_); rintro e' wN ⟨rfl, rfl⟩; skip))
  | (go_at_call 9; ((with_reducible refine (samerows_c fc i gD g5 i c5 _ (by omega) RD2 PC).mono ?_); rintro e' wN ⟨rfl, hb⟩; replace hB := btr hB hB.size hb; replace PC := PC.below hb; replace RA := RA.below hb; replace RD2 := RD2.below hb))
  | (go_at_call 11; ((with_reducible refine (count_c fA WN gA WN NN _ (by omega) RA HLA HCA).mono ?_); rintro e' wN ⟨rfl, rfl⟩; skip))
  | (go_at_call 11; ((with_reducible refine (count_c fc i g5 c5 NN _ (by omega) PC HLC HCC).mono ?_); rintro e' wN ⟨rfl, rfl⟩; skip))
  | (go_at_call 5; ((with_reducible refine (awake_any _).mono ?_); rintro e' wN ⟨rfl, hb⟩; replace hB := btr hB hB.size hb)))
        go_ret
        exact ⟨rfl, hB⟩
      · obtain ⟨x0, y0, x1, y1, hbc⟩ := box_ex fc i h0
        obtain ⟨u0, v0, u1, v1, hba⟩ := box_ex fA WN (fun e => h0 ((box_none (f := fc) (W := WN) (fun y _ => HFW.out y)).2 (by rw [HFA.out]; exact e)))
        have hbb := box_turn (f := fc) (W := WN) (fun y _ => HFW.out y) hbc (by rw [HFA.out]; exact hba)
        obtain ⟨r1, r2, rfl, rfl⟩ := hbb
        have b0 := hbc.y0.2.1
        have b1 := hbc.y1.2.1
        have HBC := Lib.hid hbc
        have HBA := Lib.hid hba
        clear hbc hba h0
        have e0 : IntKind.i64.wrap ((i : Int) - 1) = (i : Int) - 1 := wrapS _ (by omega) (by omega)
        have e1 : IntKind.i64.wrap ((i : Int) - 1 - (y1 : Int)) = (u0 : Int) := by rw [show (i : Int) - 1 - (y1 : Int) = (u0 : Int) by omega]; exact wrapS _ (by omega) (by omega)
        have e2 : IntKind.i64.wrap ((i : Int) - 1 - (y0 : Int)) = (u1 : Int) := by rw [show (i : Int) - 1 - (y0 : Int) = (u1 : Int) by omega]; exact wrapS _ (by omega) (by omega)
        clear r1 r2
        go_wp2_with (first
  | (go_at_call 7; ((with_reducible refine (box_yes g5 i c5 fc _ PC (by omega) HLC v0 y0 v1 y1 HBC (dbTab_below HDB.out h0w hB)).mono ?_); rintro e' wN ⟨rfl, rfl⟩; skip))
  | (go_at_call 7; ((with_reducible refine (box_yes gA WN WN fA _ RA (by omega) HLA u0 v0 u1 v1 HBA (dbTab_below HDB.out h0w hB)).mono ?_); rintro e' wN ⟨rfl, rfl⟩; skip))
  | (go_at_call 9; ((with_reducible refine (samerows_c fc i gD g5 i c5 _ (by omega) RD2 PC).mono ?_); rintro e' wN ⟨rfl, hb⟩; replace hB := btr hB hB.size hb; replace PC := PC.below hb; replace RA := RA.below hb; replace RD2 := RD2.below hb))
  | (go_at_call 11; ((with_reducible refine (count_c fA WN gA WN NN _ (by omega) RA HLA HCA).mono ?_); rintro e' wN ⟨rfl, rfl⟩; skip))
  | (go_at_call 11; ((with_reducible refine (count_c fc i g5 c5 NN _ (by omega) PC HLC HCC).mono ?_); rintro e' wN ⟨rfl, rfl⟩; skip))
  | (go_at_call 5; ((with_reducible refine (awake_any _).mono ?_); rintro e' wN ⟨rfl, hb⟩; replace hB := btr hB hB.size hb)))
        go_ret
        exact ⟨rfl, hB⟩
end Go.Proofs.YtnbiioighjdkjaaDoor
