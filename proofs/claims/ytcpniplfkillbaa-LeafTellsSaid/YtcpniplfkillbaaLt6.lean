/- New of chapter 7's own chip: what it makes first; its pages. -/
import Derived.Test.YtcpniplfkillbaaLt5
import Derived.Test.YtcpniplfkillbaaLt3
import Derived.Test.YtcpniplfkillbaaLt1
import Derived.Deep.Slices
import Derived.Deep.Fields
import Derived.ChangeSame
import Derived.Test.YtcpniplfkillbaaLt2
import Derived.Deep.RegionHeld3
import Derived.Deep.DrawnRows
import Derived.Deep.DeepCutAuto
set_option linter.unusedSimpArgs false
set_option linter.unusedVariables false
set_option maxRecDepth 100000
set_option maxHeartbeats 16000000
namespace Go.Proofs.Ytcpniplfkillbaa
open Go.ChangeShapes Go.WideShapes Go.ChangeAt Go.RowKit
theorem rnew_yes (a b c d e : Int) (fs : List Flt) (A : Option Addr) (c0 : Nat) (w : World) (hs : SlF w w.heap.size A fs) (NB NX RW : Nat) (hNB : (NB : Int) = a) (hNX : NX = (a * b * (c + 16)).toNat) (HRW : Hid ((RW : Int) = c + 16)) (hfl : fs.length ≤ 100000) (HP : Hid (planMay a b c d e fs = true)) : Calls Try.prog 31 #[.agg #[.int .i64 a, .int .i64 b, .int .i64 c, .int .i64 d, .int .i64 e], .slice A fs.length c0] w fun e' w' => ∃ (m gB gN gW gD : Nat) (AF : Option Addr) (cf : Nat), e' = .returned (.pointer (some ⟨m, 0, none⟩)) ∧ RefW w' m gB gN gW gD w.heap.size AF fs.length cf a b c d e fs (ChS.new NX NB) ∧ Below w.heap.size w w' := by
  have HB0 : Below w.heap.size w (w.alloc (.cells #[.int .i64 a, .int .i64 b, .int .i64 c, .int .i64 d, .int .i64 e] 23)) := (Below.refl _ _).alloc (Nat.le_refl _) _
  have G1 : Blk (w.alloc (.cells #[.int .i64 a, .int .i64 b, .int .i64 c, .int .i64 d, .int .i64 e] 23)) w.heap.size 23 #[.int .i64 a, .int .i64 b, .int .i64 c, .int .i64 d, .int .i64 e] := Blk.new_ _ _ _
  have HSF := hs.next HB0
  have HNX := Lib.hid hNX
  clear hNX
  obtain ⟨g1, g2, g3, g4, g5, g6, -⟩ := may_bd (planMay_bd HP.out).1
  have hRWb : RW ≤ 1000 := by have := HRW.out; omega
  have hMb := mul_bd (x := a) (y := b) (lo := 8) (hi := 20) g1 g2 g3 g4 (by omega) (by omega)
  have HM := Lib.hid (planMay_bd HP.out).1
  clear g5 g6
  have HS : w.heap.size ≤ (w.alloc (.cells #[.int .i64 a, .int .i64 b, .int .i64 c, .int .i64 d, .int .i64 e] 23)).heap.size := HB0.size
  go_enter Try.func31, Try.ntmps31
  go_upto_region 3 with (go_at_call 58; ((with_reducible refine (rpmay_b a b c d e fs _ _ _ _ HSF HP).mono ?_); rintro e' wN ⟨rfl, hb⟩; replace HSF := HSF.next hb; replace HB0 := btr HB0 HB0.size hb; replace G1 := G1.below hb G1.lt))
  replace HS := HB0.size
  have HY := cells5 G1
  go_cut [5] (fun s5 wx => ∃ (m gN gW gD : Nat) (AF : Option Addr) (cf : Nat), s5 = .pointer (some ⟨m, 0, none⟩) ∧ NewL wx w m gN gW gD AF cf a b c d e fs NB RW 0 (.slice none 0 0) [])
  case first =>
    refine wp_region_noPanic ?_
    refine wp_region_held_drew (S := (fun w' => w'.cell? ⟨w.heap.size, 0, none⟩ = some (.int .i64 a) ∧ w'.cell? ⟨w.heap.size, 1, none⟩ = some (.int .i64 b) ∧ w'.cell? ⟨w.heap.size, 2, none⟩ = some (.int .i64 c) ∧ w'.cell? ⟨w.heap.size, 3, none⟩ = some (.int .i64 d) ∧ w'.cell? ⟨w.heap.size, 4, none⟩ = some (.int .i64 e))) (by kernel_rfl) ?_ (fun hHeld => ?_)
    · (first | exact HY | assumption)
    refine tk 0 ⟨some 11, .load 23 (.tmp 2), 23, "ref.go:30", #[], none⟩ ?_; try simp only [Act.put, pz1, pz2, pz3]
    refine tk 1 ⟨some 12, .move (.tmp 1), 24, "ref.go:30", #[], none⟩ ?_; try simp only [Act.put, pz1, pz2, pz3]
    refine tk 3 ⟨some 14, .fieldAddr 23 (.tmp 2) 0, 0, "ref.go:30", #[], none⟩ ?_; try simp only [Act.put, pz1, pz2, pz3]
    refine tk 4 ⟨some 15, .load 3 (.tmp 14), 3, "ref.go:30", #[⟨3, .data⟩], none⟩ ?_; try simp only [Act.put, pz1, pz2, pz3]
    refine tk 6 ⟨some 17, .fieldAddr 23 (.tmp 2) 0, 0, "ref.go:30", #[], none⟩ ?_; try simp only [Act.put, pz1, pz2, pz3]
    refine tk 7 ⟨some 18, .load 3 (.tmp 17), 3, "ref.go:30", #[⟨6, .data⟩], none⟩ ?_; try simp only [Act.put, pz1, pz2, pz3]
    refine tk 9 ⟨some 20, .fieldAddr 23 (.tmp 2) 0, 0, "ref.go:30", #[], none⟩ ?_; try simp only [Act.put, pz1, pz2, pz3]
    refine tk 10 ⟨some 21, .load 3 (.tmp 20), 3, "ref.go:30", #[⟨9, .data⟩], none⟩ ?_; try simp only [Act.put, pz1, pz2, pz3]
    refine wpAnyH_ready (rs := [2, 5, 8, 11]) (by kernel_rfl) (by simp) ?_
    refine (AllReadyH.cons (o := ⟨some 13, .call { callee := .builtin .append, args := #[.const (.slice none 0 0), .tmp 12], argTypes := #[24, 24] }, 24, "ref.go:30", #[⟨1, .data⟩], none⟩) rfl (fun K hK => ?_) (AllReadyH.cons (o := ⟨some 16, .makeSlice 92 (.tmp 15) (.tmp 15), 92, "ref.go:30", #[⟨4, .data⟩, ⟨4, .data⟩], none⟩) rfl (fun K hK => ?_) (AllReadyH.cons (o := ⟨some 19, .makeSlice 92 (.tmp 18) (.tmp 18), 92, "ref.go:30", #[⟨7, .data⟩, ⟨7, .data⟩], none⟩) rfl (fun K hK => ?_) (AllReadyH.cons (o := ⟨some 22, .makeSlice 92 (.tmp 21) (.tmp 21), 92, "ref.go:30", #[⟨10, .data⟩, ⟨10, .data⟩], none⟩) rfl (fun K hK => ?_) AllReadyH.nil))))
    · refine wp_appF0 _ rfl rfl fs A c0 rfl HSF hfl ?_
      intro wN AF cf RF hq hb
      have qF := FGe.le hq HS
      (try have nFgN := FNe.fresh hq RN.lt)
      (try have nFgW := FNe.fresh hq RV.lt)
      (try have nFgD := FNe.fresh hq RD.lt)
      clear hq
      (try have hb := undrew hb)
      (try replace RN := RN.below hb)
      (try replace RV := RV.below hb)
      (try replace RD := RD.below hb)
      replace HSF := HSF.next hb
      replace G1 := G1.below hb G1.lt
      clear HY
      have HY := cells5 G1
      replace HB0 := btr HB0 HB0.size hb
      replace HS := Nat.le_trans HS hb.size
      refine hK.out _ _ ?_ (fun hNew => ?_)
      · (first | exact HY | assumption)
      clear hK K hHeld
      have hHeld := hNew
      clear hNew
      try simp only [Act.put, pz1, pz2, pz3]
      refine wpAnyH_ready (rs := [5, 8, 11]) (by kernel_rfl) (by simp) ?_
      refine (AllReadyH.cons (o := ⟨some 16, .makeSlice 92 (.tmp 15) (.tmp 15), 92, "ref.go:30", #[⟨4, .data⟩, ⟨4, .data⟩], none⟩) rfl (fun K hK => ?_) (AllReadyH.cons (o := ⟨some 19, .makeSlice 92 (.tmp 18) (.tmp 18), 92, "ref.go:30", #[⟨7, .data⟩, ⟨7, .data⟩], none⟩) rfl (fun K hK => ?_) (AllReadyH.cons (o := ⟨some 22, .makeSlice 92 (.tmp 21) (.tmp 21), 92, "ref.go:30", #[⟨10, .data⟩, ⟨10, .data⟩], none⟩) rfl (fun K hK => ?_) AllReadyH.nil)))
      · refine wp_makeI _ _ rfl a NB rfl rfl hNB (by omega) ?_
        intro wN gN RN hq hb
        have qgN := Nat.le_trans HS hq
        (try have ngWgN := Nat.ne_of_lt (Nat.lt_of_lt_of_le RV.lt hq))
        (try have ngDgN := Nat.ne_of_lt (Nat.lt_of_lt_of_le RD.lt hq))
        (try have nFgN := FR.ne RF hq)
        clear hq
        (try have hb := undrew hb)
        (try replace RV := RV.below hb)
        (try replace RD := RD.below hb)
        (try replace RF := FR.below_ RF hb)
        replace HSF := HSF.next hb
        replace G1 := G1.below hb G1.lt
        clear HY
        have HY := cells5 G1
        replace HB0 := btr HB0 HB0.size hb
        replace HS := Nat.le_trans HS hb.size
        refine hK.out _ _ ?_ (fun hNew => ?_)
        · (first | exact HY | assumption)
        clear hK K hHeld
        have hHeld := hNew
        clear hNew
        try simp only [Act.put, pz1, pz2, pz3]
        refine wpAnyH_ready (rs := [8, 11]) (by kernel_rfl) (by simp) ?_
        refine (AllReadyH.cons (o := ⟨some 19, .makeSlice 92 (.tmp 18) (.tmp 18), 92, "ref.go:30", #[⟨7, .data⟩, ⟨7, .data⟩], none⟩) rfl (fun K hK => ?_) (AllReadyH.cons (o := ⟨some 22, .makeSlice 92 (.tmp 21) (.tmp 21), 92, "ref.go:30", #[⟨10, .data⟩, ⟨10, .data⟩], none⟩) rfl (fun K hK => ?_) AllReadyH.nil))
        · refine wp_makeI _ _ rfl a NB rfl rfl hNB (by omega) ?_
          intro wN gW RV hq hb
          have qgW := Nat.le_trans HS hq
          (try have ngNgW := Nat.ne_of_lt (Nat.lt_of_lt_of_le RN.lt hq))
          (try have ngDgW := Nat.ne_of_lt (Nat.lt_of_lt_of_le RD.lt hq))
          (try have nFgW := FR.ne RF hq)
          clear hq
          (try have hb := undrew hb)
          (try replace RN := RN.below hb)
          (try replace RD := RD.below hb)
          (try replace RF := FR.below_ RF hb)
          replace HSF := HSF.next hb
          replace G1 := G1.below hb G1.lt
          clear HY
          have HY := cells5 G1
          replace HB0 := btr HB0 HB0.size hb
          replace HS := Nat.le_trans HS hb.size
          refine hK.out _ _ ?_ (fun hNew => ?_)
          · (first | exact HY | assumption)
          clear hK K hHeld
          have hHeld := hNew
          clear hNew
          try simp only [Act.put, pz1, pz2, pz3]
          refine wpAnyH_ready (rs := [11]) (by kernel_rfl) (by simp) ?_
          refine AllReadyH.cons (o := ⟨some 22, .makeSlice 92 (.tmp 21) (.tmp 21), 92, "ref.go:30", #[⟨10, .data⟩, ⟨10, .data⟩], none⟩) rfl (fun K hK => ?_) AllReadyH.nil
          refine wp_makeI _ _ rfl a NB rfl rfl hNB (by omega) ?_
          intro wN gD RD hq hb
          have qgD := Nat.le_trans HS hq
          (try have ngNgD := Nat.ne_of_lt (Nat.lt_of_lt_of_le RN.lt hq))
          (try have ngWgD := Nat.ne_of_lt (Nat.lt_of_lt_of_le RV.lt hq))
          (try have nFgD := FR.ne RF hq)
          clear hq
          (try have hb := undrew hb)
          (try replace RN := RN.below hb)
          (try replace RV := RV.below hb)
          (try replace RF := FR.below_ RF hb)
          replace HSF := HSF.next hb
          replace G1 := G1.below hb G1.lt
          clear HY
          have HY := cells5 G1
          replace HB0 := btr HB0 HB0.size hb
          replace HS := Nat.le_trans HS hb.size
          refine hK.out _ _ ?_ (fun hNew => ?_)
          · (first | exact HY | assumption)
          clear hK K hHeld
          have hHeld := hNew
          clear hNew
          try simp only [Act.put, pz1, pz2, pz3]
          refine tk 12 ⟨some 23, .build 94 #[(0, .tmp 11), (1, .tmp 13), (3, .tmp 16), (4, .tmp 19), (5, .tmp 22)], 94, "ref.go:30", #[⟨0, .data⟩, ⟨2, .data⟩, ⟨5, .data⟩, ⟨8, .data⟩, ⟨11, .data⟩], none⟩ ?_; try simp only [Act.put, pz1, pz2, pz3]
          refine wpAnyH_ready (rs := [13]) (by kernel_rfl) (by simp) ?_
          refine AllReadyH.cons (o := ⟨some 24, .box 94 (.tmp 23), 30, "ref.go:30", #[⟨12, .data⟩], none⟩) rfl (fun K hK => ?_) AllReadyH.nil
          refine wp_boxR _ rfl rfl ?_
          intro wN m BM hq hb
          have qm := Nat.le_trans HS hq
          have nm1 : m ≠ gN := Nat.ne_of_gt (Nat.lt_of_lt_of_le RN.lt hq)
          have nm2 : m ≠ gW := Nat.ne_of_gt (Nat.lt_of_lt_of_le RV.lt hq)
          have nm3 : m ≠ gD := Nat.ne_of_gt (Nat.lt_of_lt_of_le RD.lt hq)
          have nFm := FR.ne RF hq
          (try have hb := undrew hb)
          (try replace RN := RN.below hb)
          (try replace RV := RV.below hb)
          (try replace RD := RD.below hb)
          (try replace RF := FR.below_ RF hb)
          replace HSF := HSF.next hb
          replace G1 := G1.below hb G1.lt
          clear HY
          have HY := cells5 G1
          replace HB0 := btr HB0 HB0.size hb
          replace HS := Nat.le_trans HS hb.size
          refine hK.out _ _ ?_ (fun hNew => ?_)
          · (first | exact HY | assumption)
          clear hK K hHeld
          have hHeld := hNew
          clear hNew
          try simp only [Act.put, pz1, pz2, pz3]
          refine tk 14 ⟨some 5, .assign (.tmp 24), 30, "ref.go:30", #[⟨13, .data⟩, ⟨2, .chain⟩, ⟨0, .phase⟩, ⟨1, .phase⟩, ⟨2, .phase⟩, ⟨3, .phase⟩, ⟨4, .phase⟩, ⟨5, .phase⟩, ⟨6, .phase⟩, ⟨7, .phase⟩, ⟨8, .phase⟩, ⟨9, .phase⟩, ⟨10, .phase⟩, ⟨11, .phase⟩, ⟨12, .phase⟩, ⟨13, .phase⟩], none⟩ ?_; try simp only [Act.put, pz1, pz2, pz3]
          refine wpAnyH_done (by kernel_rfl) ?_ _
          refine NoPanic.normal ?_
          go_wp2_with fail
          go_meet
          exact ⟨m, gN, gW, gD, AF, cf, rfl, NewL.start BM RN RV RD RF ⟨nm1, nm2, nm3, (by first | exact ngNgW | exact ngWgN.symm), (by first | exact ngNgD | exact ngDgN.symm), (by first | exact ngWgD | exact ngDgW.symm)⟩ ⟨nFm, nFgN, nFgW, nFgD⟩ ⟨by omega, by omega, by omega, by omega⟩ G1 HB0 qF⟩
        · refine wp_makeI _ _ rfl a NB rfl rfl hNB (by omega) ?_
          intro wN gD RD hq hb
          have qgD := Nat.le_trans HS hq
          (try have ngNgD := Nat.ne_of_lt (Nat.lt_of_lt_of_le RN.lt hq))
          (try have ngWgD := Nat.ne_of_lt (Nat.lt_of_lt_of_le RV.lt hq))
          (try have nFgD := FR.ne RF hq)
          clear hq
          (try have hb := undrew hb)
          (try replace RN := RN.below hb)
          (try replace RV := RV.below hb)
          (try replace RF := FR.below_ RF hb)
          replace HSF := HSF.next hb
          replace G1 := G1.below hb G1.lt
          clear HY
          have HY := cells5 G1
          replace HB0 := btr HB0 HB0.size hb
          replace HS := Nat.le_trans HS hb.size
          refine hK.out _ _ ?_ (fun hNew => ?_)
          · (first | exact HY | assumption)
          clear hK K hHeld
          have hHeld := hNew
          clear hNew
          try simp only [Act.put, pz1, pz2, pz3]
          refine wpAnyH_ready (rs := [8]) (by kernel_rfl) (by simp) ?_
          refine AllReadyH.cons (o := ⟨some 19, .makeSlice 92 (.tmp 18) (.tmp 18), 92, "ref.go:30", #[⟨7, .data⟩, ⟨7, .data⟩], none⟩) rfl (fun K hK => ?_) AllReadyH.nil
          refine wp_makeI _ _ rfl a NB rfl rfl hNB (by omega) ?_
          intro wN gW RV hq hb
          have qgW := Nat.le_trans HS hq
          (try have ngNgW := Nat.ne_of_lt (Nat.lt_of_lt_of_le RN.lt hq))
          (try have ngDgW := Nat.ne_of_lt (Nat.lt_of_lt_of_le RD.lt hq))
          (try have nFgW := FR.ne RF hq)
          clear hq
          (try have hb := undrew hb)
          (try replace RN := RN.below hb)
          (try replace RD := RD.below hb)
          (try replace RF := FR.below_ RF hb)
          replace HSF := HSF.next hb
          replace G1 := G1.below hb G1.lt
          clear HY
          have HY := cells5 G1
          replace HB0 := btr HB0 HB0.size hb
          replace HS := Nat.le_trans HS hb.size
          refine hK.out _ _ ?_ (fun hNew => ?_)
          · (first | exact HY | assumption)
          clear hK K hHeld
          have hHeld := hNew
          clear hNew
          try simp only [Act.put, pz1, pz2, pz3]
          refine tk 12 ⟨some 23, .build 94 #[(0, .tmp 11), (1, .tmp 13), (3, .tmp 16), (4, .tmp 19), (5, .tmp 22)], 94, "ref.go:30", #[⟨0, .data⟩, ⟨2, .data⟩, ⟨5, .data⟩, ⟨8, .data⟩, ⟨11, .data⟩], none⟩ ?_; try simp only [Act.put, pz1, pz2, pz3]
          refine wpAnyH_ready (rs := [13]) (by kernel_rfl) (by simp) ?_
          refine AllReadyH.cons (o := ⟨some 24, .box 94 (.tmp 23), 30, "ref.go:30", #[⟨12, .data⟩], none⟩) rfl (fun K hK => ?_) AllReadyH.nil
          refine wp_boxR _ rfl rfl ?_
          intro wN m BM hq hb
          have qm := Nat.le_trans HS hq
          have nm1 : m ≠ gN := Nat.ne_of_gt (Nat.lt_of_lt_of_le RN.lt hq)
          have nm2 : m ≠ gW := Nat.ne_of_gt (Nat.lt_of_lt_of_le RV.lt hq)
          have nm3 : m ≠ gD := Nat.ne_of_gt (Nat.lt_of_lt_of_le RD.lt hq)
          have nFm := FR.ne RF hq
          (try have hb := undrew hb)
          (try replace RN := RN.below hb)
          (try replace RV := RV.below hb)
          (try replace RD := RD.below hb)
          (try replace RF := FR.below_ RF hb)
          replace HSF := HSF.next hb
          replace G1 := G1.below hb G1.lt
          clear HY
          have HY := cells5 G1
          replace HB0 := btr HB0 HB0.size hb
          replace HS := Nat.le_trans HS hb.size
          refine hK.out _ _ ?_ (fun hNew => ?_)
          · (first | exact HY | assumption)
          clear hK K hHeld
          have hHeld := hNew
          clear hNew
          try simp only [Act.put, pz1, pz2, pz3]
          refine tk 14 ⟨some 5, .assign (.tmp 24), 30, "ref.go:30", #[⟨13, .data⟩, ⟨2, .chain⟩, ⟨0, .phase⟩, ⟨1, .phase⟩, ⟨2, .phase⟩, ⟨3, .phase⟩, ⟨4, .phase⟩, ⟨5, .phase⟩, ⟨6, .phase⟩, ⟨7, .phase⟩, ⟨8, .phase⟩, ⟨9, .phase⟩, ⟨10, .phase⟩, ⟨11, .phase⟩, ⟨12, .phase⟩, ⟨13, .phase⟩], none⟩ ?_; try simp only [Act.put, pz1, pz2, pz3]
          refine wpAnyH_done (by kernel_rfl) ?_ _
          refine NoPanic.normal ?_
          go_wp2_with fail
          go_meet
          exact ⟨m, gN, gW, gD, AF, cf, rfl, NewL.start BM RN RV RD RF ⟨nm1, nm2, nm3, (by first | exact ngNgW | exact ngWgN.symm), (by first | exact ngNgD | exact ngDgN.symm), (by first | exact ngWgD | exact ngDgW.symm)⟩ ⟨nFm, nFgN, nFgW, nFgD⟩ ⟨by omega, by omega, by omega, by omega⟩ G1 HB0 qF⟩
      · refine wp_makeI _ _ rfl a NB rfl rfl hNB (by omega) ?_
        intro wN gW RV hq hb
        have qgW := Nat.le_trans HS hq
        (try have ngNgW := Nat.ne_of_lt (Nat.lt_of_lt_of_le RN.lt hq))
        (try have ngDgW := Nat.ne_of_lt (Nat.lt_of_lt_of_le RD.lt hq))
        (try have nFgW := FR.ne RF hq)
        clear hq
        (try have hb := undrew hb)
        (try replace RN := RN.below hb)
        (try replace RD := RD.below hb)
        (try replace RF := FR.below_ RF hb)
        replace HSF := HSF.next hb
        replace G1 := G1.below hb G1.lt
        clear HY
        have HY := cells5 G1
        replace HB0 := btr HB0 HB0.size hb
        replace HS := Nat.le_trans HS hb.size
        refine hK.out _ _ ?_ (fun hNew => ?_)
        · (first | exact HY | assumption)
        clear hK K hHeld
        have hHeld := hNew
        clear hNew
        try simp only [Act.put, pz1, pz2, pz3]
        refine wpAnyH_ready (rs := [5, 11]) (by kernel_rfl) (by simp) ?_
        refine (AllReadyH.cons (o := ⟨some 16, .makeSlice 92 (.tmp 15) (.tmp 15), 92, "ref.go:30", #[⟨4, .data⟩, ⟨4, .data⟩], none⟩) rfl (fun K hK => ?_) (AllReadyH.cons (o := ⟨some 22, .makeSlice 92 (.tmp 21) (.tmp 21), 92, "ref.go:30", #[⟨10, .data⟩, ⟨10, .data⟩], none⟩) rfl (fun K hK => ?_) AllReadyH.nil))
        · refine wp_makeI _ _ rfl a NB rfl rfl hNB (by omega) ?_
          intro wN gN RN hq hb
          have qgN := Nat.le_trans HS hq
          (try have ngWgN := Nat.ne_of_lt (Nat.lt_of_lt_of_le RV.lt hq))
          (try have ngDgN := Nat.ne_of_lt (Nat.lt_of_lt_of_le RD.lt hq))
          (try have nFgN := FR.ne RF hq)
          clear hq
          (try have hb := undrew hb)
          (try replace RV := RV.below hb)
          (try replace RD := RD.below hb)
          (try replace RF := FR.below_ RF hb)
          replace HSF := HSF.next hb
          replace G1 := G1.below hb G1.lt
          clear HY
          have HY := cells5 G1
          replace HB0 := btr HB0 HB0.size hb
          replace HS := Nat.le_trans HS hb.size
          refine hK.out _ _ ?_ (fun hNew => ?_)
          · (first | exact HY | assumption)
          clear hK K hHeld
          have hHeld := hNew
          clear hNew
          try simp only [Act.put, pz1, pz2, pz3]
          refine wpAnyH_ready (rs := [11]) (by kernel_rfl) (by simp) ?_
          refine AllReadyH.cons (o := ⟨some 22, .makeSlice 92 (.tmp 21) (.tmp 21), 92, "ref.go:30", #[⟨10, .data⟩, ⟨10, .data⟩], none⟩) rfl (fun K hK => ?_) AllReadyH.nil
          refine wp_makeI _ _ rfl a NB rfl rfl hNB (by omega) ?_
          intro wN gD RD hq hb
          have qgD := Nat.le_trans HS hq
          (try have ngNgD := Nat.ne_of_lt (Nat.lt_of_lt_of_le RN.lt hq))
          (try have ngWgD := Nat.ne_of_lt (Nat.lt_of_lt_of_le RV.lt hq))
          (try have nFgD := FR.ne RF hq)
          clear hq
          (try have hb := undrew hb)
          (try replace RN := RN.below hb)
          (try replace RV := RV.below hb)
          (try replace RF := FR.below_ RF hb)
          replace HSF := HSF.next hb
          replace G1 := G1.below hb G1.lt
          clear HY
          have HY := cells5 G1
          replace HB0 := btr HB0 HB0.size hb
          replace HS := Nat.le_trans HS hb.size
          refine hK.out _ _ ?_ (fun hNew => ?_)
          · (first | exact HY | assumption)
          clear hK K hHeld
          have hHeld := hNew
          clear hNew
          try simp only [Act.put, pz1, pz2, pz3]
          refine tk 12 ⟨some 23, .build 94 #[(0, .tmp 11), (1, .tmp 13), (3, .tmp 16), (4, .tmp 19), (5, .tmp 22)], 94, "ref.go:30", #[⟨0, .data⟩, ⟨2, .data⟩, ⟨5, .data⟩, ⟨8, .data⟩, ⟨11, .data⟩], none⟩ ?_; try simp only [Act.put, pz1, pz2, pz3]
          refine wpAnyH_ready (rs := [13]) (by kernel_rfl) (by simp) ?_
          refine AllReadyH.cons (o := ⟨some 24, .box 94 (.tmp 23), 30, "ref.go:30", #[⟨12, .data⟩], none⟩) rfl (fun K hK => ?_) AllReadyH.nil
          refine wp_boxR _ rfl rfl ?_
          intro wN m BM hq hb
          have qm := Nat.le_trans HS hq
          have nm1 : m ≠ gN := Nat.ne_of_gt (Nat.lt_of_lt_of_le RN.lt hq)
          have nm2 : m ≠ gW := Nat.ne_of_gt (Nat.lt_of_lt_of_le RV.lt hq)
          have nm3 : m ≠ gD := Nat.ne_of_gt (Nat.lt_of_lt_of_le RD.lt hq)
          have nFm := FR.ne RF hq
          (try have hb := undrew hb)
          (try replace RN := RN.below hb)
          (try replace RV := RV.below hb)
          (try replace RD := RD.below hb)
          (try replace RF := FR.below_ RF hb)
          replace HSF := HSF.next hb
          replace G1 := G1.below hb G1.lt
          clear HY
          have HY := cells5 G1
          replace HB0 := btr HB0 HB0.size hb
          replace HS := Nat.le_trans HS hb.size
          refine hK.out _ _ ?_ (fun hNew => ?_)
          · (first | exact HY | assumption)
          clear hK K hHeld
          have hHeld := hNew
          clear hNew
          try simp only [Act.put, pz1, pz2, pz3]
          refine tk 14 ⟨some 5, .assign (.tmp 24), 30, "ref.go:30", #[⟨13, .data⟩, ⟨2, .chain⟩, ⟨0, .phase⟩, ⟨1, .phase⟩, ⟨2, .phase⟩, ⟨3, .phase⟩, ⟨4, .phase⟩, ⟨5, .phase⟩, ⟨6, .phase⟩, ⟨7, .phase⟩, ⟨8, .phase⟩, ⟨9, .phase⟩, ⟨10, .phase⟩, ⟨11, .phase⟩, ⟨12, .phase⟩, ⟨13, .phase⟩], none⟩ ?_; try simp only [Act.put, pz1, pz2, pz3]
          refine wpAnyH_done (by kernel_rfl) ?_ _
          refine NoPanic.normal ?_
          go_wp2_with fail
          go_meet
          exact ⟨m, gN, gW, gD, AF, cf, rfl, NewL.start BM RN RV RD RF ⟨nm1, nm2, nm3, (by first | exact ngNgW | exact ngWgN.symm), (by first | exact ngNgD | exact ngDgN.symm), (by first | exact ngWgD | exact ngDgW.symm)⟩ ⟨nFm, nFgN, nFgW, nFgD⟩ ⟨by omega, by omega, by omega, by omega⟩ G1 HB0 qF⟩
        · refine wp_makeI _ _ rfl a NB rfl rfl hNB (by omega) ?_
          intro wN gD RD hq hb
          have qgD := Nat.le_trans HS hq
          (try have ngNgD := Nat.ne_of_lt (Nat.lt_of_lt_of_le RN.lt hq))
          (try have ngWgD := Nat.ne_of_lt (Nat.lt_of_lt_of_le RV.lt hq))
          (try have nFgD := FR.ne RF hq)
          clear hq
          (try have hb := undrew hb)
          (try replace RN := RN.below hb)
          (try replace RV := RV.below hb)
          (try replace RF := FR.below_ RF hb)
          replace HSF := HSF.next hb
          replace G1 := G1.below hb G1.lt
          clear HY
          have HY := cells5 G1
          replace HB0 := btr HB0 HB0.size hb
          replace HS := Nat.le_trans HS hb.size
          refine hK.out _ _ ?_ (fun hNew => ?_)
          · (first | exact HY | assumption)
          clear hK K hHeld
          have hHeld := hNew
          clear hNew
          try simp only [Act.put, pz1, pz2, pz3]
          refine wpAnyH_ready (rs := [5]) (by kernel_rfl) (by simp) ?_
          refine AllReadyH.cons (o := ⟨some 16, .makeSlice 92 (.tmp 15) (.tmp 15), 92, "ref.go:30", #[⟨4, .data⟩, ⟨4, .data⟩], none⟩) rfl (fun K hK => ?_) AllReadyH.nil
          refine wp_makeI _ _ rfl a NB rfl rfl hNB (by omega) ?_
          intro wN gN RN hq hb
          have qgN := Nat.le_trans HS hq
          (try have ngWgN := Nat.ne_of_lt (Nat.lt_of_lt_of_le RV.lt hq))
          (try have ngDgN := Nat.ne_of_lt (Nat.lt_of_lt_of_le RD.lt hq))
          (try have nFgN := FR.ne RF hq)
          clear hq
          (try have hb := undrew hb)
          (try replace RV := RV.below hb)
          (try replace RD := RD.below hb)
          (try replace RF := FR.below_ RF hb)
          replace HSF := HSF.next hb
          replace G1 := G1.below hb G1.lt
          clear HY
          have HY := cells5 G1
          replace HB0 := btr HB0 HB0.size hb
          replace HS := Nat.le_trans HS hb.size
          refine hK.out _ _ ?_ (fun hNew => ?_)
          · (first | exact HY | assumption)
          clear hK K hHeld
          have hHeld := hNew
          clear hNew
          try simp only [Act.put, pz1, pz2, pz3]
          refine tk 12 ⟨some 23, .build 94 #[(0, .tmp 11), (1, .tmp 13), (3, .tmp 16), (4, .tmp 19), (5, .tmp 22)], 94, "ref.go:30", #[⟨0, .data⟩, ⟨2, .data⟩, ⟨5, .data⟩, ⟨8, .data⟩, ⟨11, .data⟩], none⟩ ?_; try simp only [Act.put, pz1, pz2, pz3]
          refine wpAnyH_ready (rs := [13]) (by kernel_rfl) (by simp) ?_
          refine AllReadyH.cons (o := ⟨some 24, .box 94 (.tmp 23), 30, "ref.go:30", #[⟨12, .data⟩], none⟩) rfl (fun K hK => ?_) AllReadyH.nil
          refine wp_boxR _ rfl rfl ?_
          intro wN m BM hq hb
          have qm := Nat.le_trans HS hq
          have nm1 : m ≠ gN := Nat.ne_of_gt (Nat.lt_of_lt_of_le RN.lt hq)
          have nm2 : m ≠ gW := Nat.ne_of_gt (Nat.lt_of_lt_of_le RV.lt hq)
          have nm3 : m ≠ gD := Nat.ne_of_gt (Nat.lt_of_lt_of_le RD.lt hq)
          have nFm := FR.ne RF hq
          (try have hb := undrew hb)
          (try replace RN := RN.below hb)
          (try replace RV := RV.below hb)
          (try replace RD := RD.below hb)
          (try replace RF := FR.below_ RF hb)
          replace HSF := HSF.next hb
          replace G1 := G1.below hb G1.lt
          clear HY
          have HY := cells5 G1
          replace HB0 := btr HB0 HB0.size hb
          replace HS := Nat.le_trans HS hb.size
          refine hK.out _ _ ?_ (fun hNew => ?_)
          · (first | exact HY | assumption)
          clear hK K hHeld
          have hHeld := hNew
          clear hNew
          try simp only [Act.put, pz1, pz2, pz3]
          refine tk 14 ⟨some 5, .assign (.tmp 24), 30, "ref.go:30", #[⟨13, .data⟩, ⟨2, .chain⟩, ⟨0, .phase⟩, ⟨1, .phase⟩, ⟨2, .phase⟩, ⟨3, .phase⟩, ⟨4, .phase⟩, ⟨5, .phase⟩, ⟨6, .phase⟩, ⟨7, .phase⟩, ⟨8, .phase⟩, ⟨9, .phase⟩, ⟨10, .phase⟩, ⟨11, .phase⟩, ⟨12, .phase⟩, ⟨13, .phase⟩], none⟩ ?_; try simp only [Act.put, pz1, pz2, pz3]
          refine wpAnyH_done (by kernel_rfl) ?_ _
          refine NoPanic.normal ?_
          go_wp2_with fail
          go_meet
          exact ⟨m, gN, gW, gD, AF, cf, rfl, NewL.start BM RN RV RD RF ⟨nm1, nm2, nm3, (by first | exact ngNgW | exact ngWgN.symm), (by first | exact ngNgD | exact ngDgN.symm), (by first | exact ngWgD | exact ngDgW.symm)⟩ ⟨nFm, nFgN, nFgW, nFgD⟩ ⟨by omega, by omega, by omega, by omega⟩ G1 HB0 qF⟩
      · refine wp_makeI _ _ rfl a NB rfl rfl hNB (by omega) ?_
        intro wN gD RD hq hb
        have qgD := Nat.le_trans HS hq
        (try have ngNgD := Nat.ne_of_lt (Nat.lt_of_lt_of_le RN.lt hq))
        (try have ngWgD := Nat.ne_of_lt (Nat.lt_of_lt_of_le RV.lt hq))
        (try have nFgD := FR.ne RF hq)
        clear hq
        (try have hb := undrew hb)
        (try replace RN := RN.below hb)
        (try replace RV := RV.below hb)
        (try replace RF := FR.below_ RF hb)
        replace HSF := HSF.next hb
        replace G1 := G1.below hb G1.lt
        clear HY
        have HY := cells5 G1
        replace HB0 := btr HB0 HB0.size hb
        replace HS := Nat.le_trans HS hb.size
        refine hK.out _ _ ?_ (fun hNew => ?_)
        · (first | exact HY | assumption)
        clear hK K hHeld
        have hHeld := hNew
        clear hNew
        try simp only [Act.put, pz1, pz2, pz3]
        refine wpAnyH_ready (rs := [5, 8]) (by kernel_rfl) (by simp) ?_
        refine (AllReadyH.cons (o := ⟨some 16, .makeSlice 92 (.tmp 15) (.tmp 15), 92, "ref.go:30", #[⟨4, .data⟩, ⟨4, .data⟩], none⟩) rfl (fun K hK => ?_) (AllReadyH.cons (o := ⟨some 19, .makeSlice 92 (.tmp 18) (.tmp 18), 92, "ref.go:30", #[⟨7, .data⟩, ⟨7, .data⟩], none⟩) rfl (fun K hK => ?_) AllReadyH.nil))
        · refine wp_makeI _ _ rfl a NB rfl rfl hNB (by omega) ?_
          intro wN gN RN hq hb
          have qgN := Nat.le_trans HS hq
          (try have ngWgN := Nat.ne_of_lt (Nat.lt_of_lt_of_le RV.lt hq))
          (try have ngDgN := Nat.ne_of_lt (Nat.lt_of_lt_of_le RD.lt hq))
          (try have nFgN := FR.ne RF hq)
          clear hq
          (try have hb := undrew hb)
          (try replace RV := RV.below hb)
          (try replace RD := RD.below hb)
          (try replace RF := FR.below_ RF hb)
          replace HSF := HSF.next hb
          replace G1 := G1.below hb G1.lt
          clear HY
          have HY := cells5 G1
          replace HB0 := btr HB0 HB0.size hb
          replace HS := Nat.le_trans HS hb.size
          refine hK.out _ _ ?_ (fun hNew => ?_)
          · (first | exact HY | assumption)
          clear hK K hHeld
          have hHeld := hNew
          clear hNew
          try simp only [Act.put, pz1, pz2, pz3]
          refine wpAnyH_ready (rs := [8]) (by kernel_rfl) (by simp) ?_
          refine AllReadyH.cons (o := ⟨some 19, .makeSlice 92 (.tmp 18) (.tmp 18), 92, "ref.go:30", #[⟨7, .data⟩, ⟨7, .data⟩], none⟩) rfl (fun K hK => ?_) AllReadyH.nil
          refine wp_makeI _ _ rfl a NB rfl rfl hNB (by omega) ?_
          intro wN gW RV hq hb
          have qgW := Nat.le_trans HS hq
          (try have ngNgW := Nat.ne_of_lt (Nat.lt_of_lt_of_le RN.lt hq))
          (try have ngDgW := Nat.ne_of_lt (Nat.lt_of_lt_of_le RD.lt hq))
          (try have nFgW := FR.ne RF hq)
          clear hq
          (try have hb := undrew hb)
          (try replace RN := RN.below hb)
          (try replace RD := RD.below hb)
          (try replace RF := FR.below_ RF hb)
          replace HSF := HSF.next hb
          replace G1 := G1.below hb G1.lt
          clear HY
          have HY := cells5 G1
          replace HB0 := btr HB0 HB0.size hb
          replace HS := Nat.le_trans HS hb.size
          refine hK.out _ _ ?_ (fun hNew => ?_)
          · (first | exact HY | assumption)
          clear hK K hHeld
          have hHeld := hNew
          clear hNew
          try simp only [Act.put, pz1, pz2, pz3]
          refine tk 12 ⟨some 23, .build 94 #[(0, .tmp 11), (1, .tmp 13), (3, .tmp 16), (4, .tmp 19), (5, .tmp 22)], 94, "ref.go:30", #[⟨0, .data⟩, ⟨2, .data⟩, ⟨5, .data⟩, ⟨8, .data⟩, ⟨11, .data⟩], none⟩ ?_; try simp only [Act.put, pz1, pz2, pz3]
          refine wpAnyH_ready (rs := [13]) (by kernel_rfl) (by simp) ?_
          refine AllReadyH.cons (o := ⟨some 24, .box 94 (.tmp 23), 30, "ref.go:30", #[⟨12, .data⟩], none⟩) rfl (fun K hK => ?_) AllReadyH.nil
          refine wp_boxR _ rfl rfl ?_
          intro wN m BM hq hb
          have qm := Nat.le_trans HS hq
          have nm1 : m ≠ gN := Nat.ne_of_gt (Nat.lt_of_lt_of_le RN.lt hq)
          have nm2 : m ≠ gW := Nat.ne_of_gt (Nat.lt_of_lt_of_le RV.lt hq)
          have nm3 : m ≠ gD := Nat.ne_of_gt (Nat.lt_of_lt_of_le RD.lt hq)
          have nFm := FR.ne RF hq
          (try have hb := undrew hb)
          (try replace RN := RN.below hb)
          (try replace RV := RV.below hb)
          (try replace RD := RD.below hb)
          (try replace RF := FR.below_ RF hb)
          replace HSF := HSF.next hb
          replace G1 := G1.below hb G1.lt
          clear HY
          have HY := cells5 G1
          replace HB0 := btr HB0 HB0.size hb
          replace HS := Nat.le_trans HS hb.size
          refine hK.out _ _ ?_ (fun hNew => ?_)
          · (first | exact HY | assumption)
          clear hK K hHeld
          have hHeld := hNew
          clear hNew
          try simp only [Act.put, pz1, pz2, pz3]
          refine tk 14 ⟨some 5, .assign (.tmp 24), 30, "ref.go:30", #[⟨13, .data⟩, ⟨2, .chain⟩, ⟨0, .phase⟩, ⟨1, .phase⟩, ⟨2, .phase⟩, ⟨3, .phase⟩, ⟨4, .phase⟩, ⟨5, .phase⟩, ⟨6, .phase⟩, ⟨7, .phase⟩, ⟨8, .phase⟩, ⟨9, .phase⟩, ⟨10, .phase⟩, ⟨11, .phase⟩, ⟨12, .phase⟩, ⟨13, .phase⟩], none⟩ ?_; try simp only [Act.put, pz1, pz2, pz3]
          refine wpAnyH_done (by kernel_rfl) ?_ _
          refine NoPanic.normal ?_
          go_wp2_with fail
          go_meet
          exact ⟨m, gN, gW, gD, AF, cf, rfl, NewL.start BM RN RV RD RF ⟨nm1, nm2, nm3, (by first | exact ngNgW | exact ngWgN.symm), (by first | exact ngNgD | exact ngDgN.symm), (by first | exact ngWgD | exact ngDgW.symm)⟩ ⟨nFm, nFgN, nFgW, nFgD⟩ ⟨by omega, by omega, by omega, by omega⟩ G1 HB0 qF⟩
        · refine wp_makeI _ _ rfl a NB rfl rfl hNB (by omega) ?_
          intro wN gW RV hq hb
          have qgW := Nat.le_trans HS hq
          (try have ngNgW := Nat.ne_of_lt (Nat.lt_of_lt_of_le RN.lt hq))
          (try have ngDgW := Nat.ne_of_lt (Nat.lt_of_lt_of_le RD.lt hq))
          (try have nFgW := FR.ne RF hq)
          clear hq
          (try have hb := undrew hb)
          (try replace RN := RN.below hb)
          (try replace RD := RD.below hb)
          (try replace RF := FR.below_ RF hb)
          replace HSF := HSF.next hb
          replace G1 := G1.below hb G1.lt
          clear HY
          have HY := cells5 G1
          replace HB0 := btr HB0 HB0.size hb
          replace HS := Nat.le_trans HS hb.size
          refine hK.out _ _ ?_ (fun hNew => ?_)
          · (first | exact HY | assumption)
          clear hK K hHeld
          have hHeld := hNew
          clear hNew
          try simp only [Act.put, pz1, pz2, pz3]
          refine wpAnyH_ready (rs := [5]) (by kernel_rfl) (by simp) ?_
          refine AllReadyH.cons (o := ⟨some 16, .makeSlice 92 (.tmp 15) (.tmp 15), 92, "ref.go:30", #[⟨4, .data⟩, ⟨4, .data⟩], none⟩) rfl (fun K hK => ?_) AllReadyH.nil
          refine wp_makeI _ _ rfl a NB rfl rfl hNB (by omega) ?_
          intro wN gN RN hq hb
          have qgN := Nat.le_trans HS hq
          (try have ngWgN := Nat.ne_of_lt (Nat.lt_of_lt_of_le RV.lt hq))
          (try have ngDgN := Nat.ne_of_lt (Nat.lt_of_lt_of_le RD.lt hq))
          (try have nFgN := FR.ne RF hq)
          clear hq
          (try have hb := undrew hb)
          (try replace RV := RV.below hb)
          (try replace RD := RD.below hb)
          (try replace RF := FR.below_ RF hb)
          replace HSF := HSF.next hb
          replace G1 := G1.below hb G1.lt
          clear HY
          have HY := cells5 G1
          replace HB0 := btr HB0 HB0.size hb
          replace HS := Nat.le_trans HS hb.size
          refine hK.out _ _ ?_ (fun hNew => ?_)
          · (first | exact HY | assumption)
          clear hK K hHeld
          have hHeld := hNew
          clear hNew
          try simp only [Act.put, pz1, pz2, pz3]
          refine tk 12 ⟨some 23, .build 94 #[(0, .tmp 11), (1, .tmp 13), (3, .tmp 16), (4, .tmp 19), (5, .tmp 22)], 94, "ref.go:30", #[⟨0, .data⟩, ⟨2, .data⟩, ⟨5, .data⟩, ⟨8, .data⟩, ⟨11, .data⟩], none⟩ ?_; try simp only [Act.put, pz1, pz2, pz3]
          refine wpAnyH_ready (rs := [13]) (by kernel_rfl) (by simp) ?_
          refine AllReadyH.cons (o := ⟨some 24, .box 94 (.tmp 23), 30, "ref.go:30", #[⟨12, .data⟩], none⟩) rfl (fun K hK => ?_) AllReadyH.nil
          refine wp_boxR _ rfl rfl ?_
          intro wN m BM hq hb
          have qm := Nat.le_trans HS hq
          have nm1 : m ≠ gN := Nat.ne_of_gt (Nat.lt_of_lt_of_le RN.lt hq)
          have nm2 : m ≠ gW := Nat.ne_of_gt (Nat.lt_of_lt_of_le RV.lt hq)
          have nm3 : m ≠ gD := Nat.ne_of_gt (Nat.lt_of_lt_of_le RD.lt hq)
          have nFm := FR.ne RF hq
          (try have hb := undrew hb)
          (try replace RN := RN.below hb)
          (try replace RV := RV.below hb)
          (try replace RD := RD.below hb)
          (try replace RF := FR.below_ RF hb)
          replace HSF := HSF.next hb
          replace G1 := G1.below hb G1.lt
          clear HY
          have HY := cells5 G1
          replace HB0 := btr HB0 HB0.size hb
          replace HS := Nat.le_trans HS hb.size
          refine hK.out _ _ ?_ (fun hNew => ?_)
          · (first | exact HY | assumption)
          clear hK K hHeld
          have hHeld := hNew
          clear hNew
          try simp only [Act.put, pz1, pz2, pz3]
          refine tk 14 ⟨some 5, .assign (.tmp 24), 30, "ref.go:30", #[⟨13, .data⟩, ⟨2, .chain⟩, ⟨0, .phase⟩, ⟨1, .phase⟩, ⟨2, .phase⟩, ⟨3, .phase⟩, ⟨4, .phase⟩, ⟨5, .phase⟩, ⟨6, .phase⟩, ⟨7, .phase⟩, ⟨8, .phase⟩, ⟨9, .phase⟩, ⟨10, .phase⟩, ⟨11, .phase⟩, ⟨12, .phase⟩, ⟨13, .phase⟩], none⟩ ?_; try simp only [Act.put, pz1, pz2, pz3]
          refine wpAnyH_done (by kernel_rfl) ?_ _
          refine NoPanic.normal ?_
          go_wp2_with fail
          go_meet
          exact ⟨m, gN, gW, gD, AF, cf, rfl, NewL.start BM RN RV RD RF ⟨nm1, nm2, nm3, (by first | exact ngNgW | exact ngWgN.symm), (by first | exact ngNgD | exact ngDgN.symm), (by first | exact ngWgD | exact ngDgW.symm)⟩ ⟨nFm, nFgN, nFgW, nFgD⟩ ⟨by omega, by omega, by omega, by omega⟩ G1 HB0 qF⟩
    · refine wp_makeI _ _ rfl a NB rfl rfl hNB (by omega) ?_
      intro wN gN RN hq hb
      have qgN := Nat.le_trans HS hq
      (try have ngWgN := Nat.ne_of_lt (Nat.lt_of_lt_of_le RV.lt hq))
      (try have ngDgN := Nat.ne_of_lt (Nat.lt_of_lt_of_le RD.lt hq))
      (try have nFgN := FR.ne RF hq)
      clear hq
      (try have hb := undrew hb)
      (try replace RV := RV.below hb)
      (try replace RD := RD.below hb)
      (try replace RF := FR.below_ RF hb)
      replace HSF := HSF.next hb
      replace G1 := G1.below hb G1.lt
      clear HY
      have HY := cells5 G1
      replace HB0 := btr HB0 HB0.size hb
      replace HS := Nat.le_trans HS hb.size
      refine hK.out _ _ ?_ (fun hNew => ?_)
      · (first | exact HY | assumption)
      clear hK K hHeld
      have hHeld := hNew
      clear hNew
      try simp only [Act.put, pz1, pz2, pz3]
      refine wpAnyH_ready (rs := [2, 8, 11]) (by kernel_rfl) (by simp) ?_
      refine (AllReadyH.cons (o := ⟨some 13, .call { callee := .builtin .append, args := #[.const (.slice none 0 0), .tmp 12], argTypes := #[24, 24] }, 24, "ref.go:30", #[⟨1, .data⟩], none⟩) rfl (fun K hK => ?_) (AllReadyH.cons (o := ⟨some 19, .makeSlice 92 (.tmp 18) (.tmp 18), 92, "ref.go:30", #[⟨7, .data⟩, ⟨7, .data⟩], none⟩) rfl (fun K hK => ?_) (AllReadyH.cons (o := ⟨some 22, .makeSlice 92 (.tmp 21) (.tmp 21), 92, "ref.go:30", #[⟨10, .data⟩, ⟨10, .data⟩], none⟩) rfl (fun K hK => ?_) AllReadyH.nil)))
      · refine wp_appF0 _ rfl rfl fs A c0 rfl HSF hfl ?_
        intro wN AF cf RF hq hb
        have qF := FGe.le hq HS
        (try have nFgN := FNe.fresh hq RN.lt)
        (try have nFgW := FNe.fresh hq RV.lt)
        (try have nFgD := FNe.fresh hq RD.lt)
        clear hq
        (try have hb := undrew hb)
        (try replace RN := RN.below hb)
        (try replace RV := RV.below hb)
        (try replace RD := RD.below hb)
        replace HSF := HSF.next hb
        replace G1 := G1.below hb G1.lt
        clear HY
        have HY := cells5 G1
        replace HB0 := btr HB0 HB0.size hb
        replace HS := Nat.le_trans HS hb.size
        refine hK.out _ _ ?_ (fun hNew => ?_)
        · (first | exact HY | assumption)
        clear hK K hHeld
        have hHeld := hNew
        clear hNew
        try simp only [Act.put, pz1, pz2, pz3]
        refine wpAnyH_ready (rs := [8, 11]) (by kernel_rfl) (by simp) ?_
        refine (AllReadyH.cons (o := ⟨some 19, .makeSlice 92 (.tmp 18) (.tmp 18), 92, "ref.go:30", #[⟨7, .data⟩, ⟨7, .data⟩], none⟩) rfl (fun K hK => ?_) (AllReadyH.cons (o := ⟨some 22, .makeSlice 92 (.tmp 21) (.tmp 21), 92, "ref.go:30", #[⟨10, .data⟩, ⟨10, .data⟩], none⟩) rfl (fun K hK => ?_) AllReadyH.nil))
        · refine wp_makeI _ _ rfl a NB rfl rfl hNB (by omega) ?_
          intro wN gW RV hq hb
          have qgW := Nat.le_trans HS hq
          (try have ngNgW := Nat.ne_of_lt (Nat.lt_of_lt_of_le RN.lt hq))
          (try have ngDgW := Nat.ne_of_lt (Nat.lt_of_lt_of_le RD.lt hq))
          (try have nFgW := FR.ne RF hq)
          clear hq
          (try have hb := undrew hb)
          (try replace RN := RN.below hb)
          (try replace RD := RD.below hb)
          (try replace RF := FR.below_ RF hb)
          replace HSF := HSF.next hb
          replace G1 := G1.below hb G1.lt
          clear HY
          have HY := cells5 G1
          replace HB0 := btr HB0 HB0.size hb
          replace HS := Nat.le_trans HS hb.size
          refine hK.out _ _ ?_ (fun hNew => ?_)
          · (first | exact HY | assumption)
          clear hK K hHeld
          have hHeld := hNew
          clear hNew
          try simp only [Act.put, pz1, pz2, pz3]
          refine wpAnyH_ready (rs := [11]) (by kernel_rfl) (by simp) ?_
          refine AllReadyH.cons (o := ⟨some 22, .makeSlice 92 (.tmp 21) (.tmp 21), 92, "ref.go:30", #[⟨10, .data⟩, ⟨10, .data⟩], none⟩) rfl (fun K hK => ?_) AllReadyH.nil
          refine wp_makeI _ _ rfl a NB rfl rfl hNB (by omega) ?_
          intro wN gD RD hq hb
          have qgD := Nat.le_trans HS hq
          (try have ngNgD := Nat.ne_of_lt (Nat.lt_of_lt_of_le RN.lt hq))
          (try have ngWgD := Nat.ne_of_lt (Nat.lt_of_lt_of_le RV.lt hq))
          (try have nFgD := FR.ne RF hq)
          clear hq
          (try have hb := undrew hb)
          (try replace RN := RN.below hb)
          (try replace RV := RV.below hb)
          (try replace RF := FR.below_ RF hb)
          replace HSF := HSF.next hb
          replace G1 := G1.below hb G1.lt
          clear HY
          have HY := cells5 G1
          replace HB0 := btr HB0 HB0.size hb
          replace HS := Nat.le_trans HS hb.size
          refine hK.out _ _ ?_ (fun hNew => ?_)
          · (first | exact HY | assumption)
          clear hK K hHeld
          have hHeld := hNew
          clear hNew
          try simp only [Act.put, pz1, pz2, pz3]
          refine tk 12 ⟨some 23, .build 94 #[(0, .tmp 11), (1, .tmp 13), (3, .tmp 16), (4, .tmp 19), (5, .tmp 22)], 94, "ref.go:30", #[⟨0, .data⟩, ⟨2, .data⟩, ⟨5, .data⟩, ⟨8, .data⟩, ⟨11, .data⟩], none⟩ ?_; try simp only [Act.put, pz1, pz2, pz3]
          refine wpAnyH_ready (rs := [13]) (by kernel_rfl) (by simp) ?_
          refine AllReadyH.cons (o := ⟨some 24, .box 94 (.tmp 23), 30, "ref.go:30", #[⟨12, .data⟩], none⟩) rfl (fun K hK => ?_) AllReadyH.nil
          refine wp_boxR _ rfl rfl ?_
          intro wN m BM hq hb
          have qm := Nat.le_trans HS hq
          have nm1 : m ≠ gN := Nat.ne_of_gt (Nat.lt_of_lt_of_le RN.lt hq)
          have nm2 : m ≠ gW := Nat.ne_of_gt (Nat.lt_of_lt_of_le RV.lt hq)
          have nm3 : m ≠ gD := Nat.ne_of_gt (Nat.lt_of_lt_of_le RD.lt hq)
          have nFm := FR.ne RF hq
          (try have hb := undrew hb)
          (try replace RN := RN.below hb)
          (try replace RV := RV.below hb)
          (try replace RD := RD.below hb)
          (try replace RF := FR.below_ RF hb)
          replace HSF := HSF.next hb
          replace G1 := G1.below hb G1.lt
          clear HY
          have HY := cells5 G1
          replace HB0 := btr HB0 HB0.size hb
          replace HS := Nat.le_trans HS hb.size
          refine hK.out _ _ ?_ (fun hNew => ?_)
          · (first | exact HY | assumption)
          clear hK K hHeld
          have hHeld := hNew
          clear hNew
          try simp only [Act.put, pz1, pz2, pz3]
          refine tk 14 ⟨some 5, .assign (.tmp 24), 30, "ref.go:30", #[⟨13, .data⟩, ⟨2, .chain⟩, ⟨0, .phase⟩, ⟨1, .phase⟩, ⟨2, .phase⟩, ⟨3, .phase⟩, ⟨4, .phase⟩, ⟨5, .phase⟩, ⟨6, .phase⟩, ⟨7, .phase⟩, ⟨8, .phase⟩, ⟨9, .phase⟩, ⟨10, .phase⟩, ⟨11, .phase⟩, ⟨12, .phase⟩, ⟨13, .phase⟩], none⟩ ?_; try simp only [Act.put, pz1, pz2, pz3]
          refine wpAnyH_done (by kernel_rfl) ?_ _
          refine NoPanic.normal ?_
          go_wp2_with fail
          go_meet
          exact ⟨m, gN, gW, gD, AF, cf, rfl, NewL.start BM RN RV RD RF ⟨nm1, nm2, nm3, (by first | exact ngNgW | exact ngWgN.symm), (by first | exact ngNgD | exact ngDgN.symm), (by first | exact ngWgD | exact ngDgW.symm)⟩ ⟨nFm, nFgN, nFgW, nFgD⟩ ⟨by omega, by omega, by omega, by omega⟩ G1 HB0 qF⟩
        · refine wp_makeI _ _ rfl a NB rfl rfl hNB (by omega) ?_
          intro wN gD RD hq hb
          have qgD := Nat.le_trans HS hq
          (try have ngNgD := Nat.ne_of_lt (Nat.lt_of_lt_of_le RN.lt hq))
          (try have ngWgD := Nat.ne_of_lt (Nat.lt_of_lt_of_le RV.lt hq))
          (try have nFgD := FR.ne RF hq)
          clear hq
          (try have hb := undrew hb)
          (try replace RN := RN.below hb)
          (try replace RV := RV.below hb)
          (try replace RF := FR.below_ RF hb)
          replace HSF := HSF.next hb
          replace G1 := G1.below hb G1.lt
          clear HY
          have HY := cells5 G1
          replace HB0 := btr HB0 HB0.size hb
          replace HS := Nat.le_trans HS hb.size
          refine hK.out _ _ ?_ (fun hNew => ?_)
          · (first | exact HY | assumption)
          clear hK K hHeld
          have hHeld := hNew
          clear hNew
          try simp only [Act.put, pz1, pz2, pz3]
          refine wpAnyH_ready (rs := [8]) (by kernel_rfl) (by simp) ?_
          refine AllReadyH.cons (o := ⟨some 19, .makeSlice 92 (.tmp 18) (.tmp 18), 92, "ref.go:30", #[⟨7, .data⟩, ⟨7, .data⟩], none⟩) rfl (fun K hK => ?_) AllReadyH.nil
          refine wp_makeI _ _ rfl a NB rfl rfl hNB (by omega) ?_
          intro wN gW RV hq hb
          have qgW := Nat.le_trans HS hq
          (try have ngNgW := Nat.ne_of_lt (Nat.lt_of_lt_of_le RN.lt hq))
          (try have ngDgW := Nat.ne_of_lt (Nat.lt_of_lt_of_le RD.lt hq))
          (try have nFgW := FR.ne RF hq)
          clear hq
          (try have hb := undrew hb)
          (try replace RN := RN.below hb)
          (try replace RD := RD.below hb)
          (try replace RF := FR.below_ RF hb)
          replace HSF := HSF.next hb
          replace G1 := G1.below hb G1.lt
          clear HY
          have HY := cells5 G1
          replace HB0 := btr HB0 HB0.size hb
          replace HS := Nat.le_trans HS hb.size
          refine hK.out _ _ ?_ (fun hNew => ?_)
          · (first | exact HY | assumption)
          clear hK K hHeld
          have hHeld := hNew
          clear hNew
          try simp only [Act.put, pz1, pz2, pz3]
          refine tk 12 ⟨some 23, .build 94 #[(0, .tmp 11), (1, .tmp 13), (3, .tmp 16), (4, .tmp 19), (5, .tmp 22)], 94, "ref.go:30", #[⟨0, .data⟩, ⟨2, .data⟩, ⟨5, .data⟩, ⟨8, .data⟩, ⟨11, .data⟩], none⟩ ?_; try simp only [Act.put, pz1, pz2, pz3]
          refine wpAnyH_ready (rs := [13]) (by kernel_rfl) (by simp) ?_
          refine AllReadyH.cons (o := ⟨some 24, .box 94 (.tmp 23), 30, "ref.go:30", #[⟨12, .data⟩], none⟩) rfl (fun K hK => ?_) AllReadyH.nil
          refine wp_boxR _ rfl rfl ?_
          intro wN m BM hq hb
          have qm := Nat.le_trans HS hq
          have nm1 : m ≠ gN := Nat.ne_of_gt (Nat.lt_of_lt_of_le RN.lt hq)
          have nm2 : m ≠ gW := Nat.ne_of_gt (Nat.lt_of_lt_of_le RV.lt hq)
          have nm3 : m ≠ gD := Nat.ne_of_gt (Nat.lt_of_lt_of_le RD.lt hq)
          have nFm := FR.ne RF hq
          (try have hb := undrew hb)
          (try replace RN := RN.below hb)
          (try replace RV := RV.below hb)
          (try replace RD := RD.below hb)
          (try replace RF := FR.below_ RF hb)
          replace HSF := HSF.next hb
          replace G1 := G1.below hb G1.lt
          clear HY
          have HY := cells5 G1
          replace HB0 := btr HB0 HB0.size hb
          replace HS := Nat.le_trans HS hb.size
          refine hK.out _ _ ?_ (fun hNew => ?_)
          · (first | exact HY | assumption)
          clear hK K hHeld
          have hHeld := hNew
          clear hNew
          try simp only [Act.put, pz1, pz2, pz3]
          refine tk 14 ⟨some 5, .assign (.tmp 24), 30, "ref.go:30", #[⟨13, .data⟩, ⟨2, .chain⟩, ⟨0, .phase⟩, ⟨1, .phase⟩, ⟨2, .phase⟩, ⟨3, .phase⟩, ⟨4, .phase⟩, ⟨5, .phase⟩, ⟨6, .phase⟩, ⟨7, .phase⟩, ⟨8, .phase⟩, ⟨9, .phase⟩, ⟨10, .phase⟩, ⟨11, .phase⟩, ⟨12, .phase⟩, ⟨13, .phase⟩], none⟩ ?_; try simp only [Act.put, pz1, pz2, pz3]
          refine wpAnyH_done (by kernel_rfl) ?_ _
          refine NoPanic.normal ?_
          go_wp2_with fail
          go_meet
          exact ⟨m, gN, gW, gD, AF, cf, rfl, NewL.start BM RN RV RD RF ⟨nm1, nm2, nm3, (by first | exact ngNgW | exact ngWgN.symm), (by first | exact ngNgD | exact ngDgN.symm), (by first | exact ngWgD | exact ngDgW.symm)⟩ ⟨nFm, nFgN, nFgW, nFgD⟩ ⟨by omega, by omega, by omega, by omega⟩ G1 HB0 qF⟩
      · refine wp_makeI _ _ rfl a NB rfl rfl hNB (by omega) ?_
        intro wN gW RV hq hb
        have qgW := Nat.le_trans HS hq
        (try have ngNgW := Nat.ne_of_lt (Nat.lt_of_lt_of_le RN.lt hq))
        (try have ngDgW := Nat.ne_of_lt (Nat.lt_of_lt_of_le RD.lt hq))
        (try have nFgW := FR.ne RF hq)
        clear hq
        (try have hb := undrew hb)
        (try replace RN := RN.below hb)
        (try replace RD := RD.below hb)
        (try replace RF := FR.below_ RF hb)
        replace HSF := HSF.next hb
        replace G1 := G1.below hb G1.lt
        clear HY
        have HY := cells5 G1
        replace HB0 := btr HB0 HB0.size hb
        replace HS := Nat.le_trans HS hb.size
        refine hK.out _ _ ?_ (fun hNew => ?_)
        · (first | exact HY | assumption)
        clear hK K hHeld
        have hHeld := hNew
        clear hNew
        try simp only [Act.put, pz1, pz2, pz3]
        refine wpAnyH_ready (rs := [2, 11]) (by kernel_rfl) (by simp) ?_
        refine (AllReadyH.cons (o := ⟨some 13, .call { callee := .builtin .append, args := #[.const (.slice none 0 0), .tmp 12], argTypes := #[24, 24] }, 24, "ref.go:30", #[⟨1, .data⟩], none⟩) rfl (fun K hK => ?_) (AllReadyH.cons (o := ⟨some 22, .makeSlice 92 (.tmp 21) (.tmp 21), 92, "ref.go:30", #[⟨10, .data⟩, ⟨10, .data⟩], none⟩) rfl (fun K hK => ?_) AllReadyH.nil))
        · refine wp_appF0 _ rfl rfl fs A c0 rfl HSF hfl ?_
          intro wN AF cf RF hq hb
          have qF := FGe.le hq HS
          (try have nFgN := FNe.fresh hq RN.lt)
          (try have nFgW := FNe.fresh hq RV.lt)
          (try have nFgD := FNe.fresh hq RD.lt)
          clear hq
          (try have hb := undrew hb)
          (try replace RN := RN.below hb)
          (try replace RV := RV.below hb)
          (try replace RD := RD.below hb)
          replace HSF := HSF.next hb
          replace G1 := G1.below hb G1.lt
          clear HY
          have HY := cells5 G1
          replace HB0 := btr HB0 HB0.size hb
          replace HS := Nat.le_trans HS hb.size
          refine hK.out _ _ ?_ (fun hNew => ?_)
          · (first | exact HY | assumption)
          clear hK K hHeld
          have hHeld := hNew
          clear hNew
          try simp only [Act.put, pz1, pz2, pz3]
          refine wpAnyH_ready (rs := [11]) (by kernel_rfl) (by simp) ?_
          refine AllReadyH.cons (o := ⟨some 22, .makeSlice 92 (.tmp 21) (.tmp 21), 92, "ref.go:30", #[⟨10, .data⟩, ⟨10, .data⟩], none⟩) rfl (fun K hK => ?_) AllReadyH.nil
          refine wp_makeI _ _ rfl a NB rfl rfl hNB (by omega) ?_
          intro wN gD RD hq hb
          have qgD := Nat.le_trans HS hq
          (try have ngNgD := Nat.ne_of_lt (Nat.lt_of_lt_of_le RN.lt hq))
          (try have ngWgD := Nat.ne_of_lt (Nat.lt_of_lt_of_le RV.lt hq))
          (try have nFgD := FR.ne RF hq)
          clear hq
          (try have hb := undrew hb)
          (try replace RN := RN.below hb)
          (try replace RV := RV.below hb)
          (try replace RF := FR.below_ RF hb)
          replace HSF := HSF.next hb
          replace G1 := G1.below hb G1.lt
          clear HY
          have HY := cells5 G1
          replace HB0 := btr HB0 HB0.size hb
          replace HS := Nat.le_trans HS hb.size
          refine hK.out _ _ ?_ (fun hNew => ?_)
          · (first | exact HY | assumption)
          clear hK K hHeld
          have hHeld := hNew
          clear hNew
          try simp only [Act.put, pz1, pz2, pz3]
          refine tk 12 ⟨some 23, .build 94 #[(0, .tmp 11), (1, .tmp 13), (3, .tmp 16), (4, .tmp 19), (5, .tmp 22)], 94, "ref.go:30", #[⟨0, .data⟩, ⟨2, .data⟩, ⟨5, .data⟩, ⟨8, .data⟩, ⟨11, .data⟩], none⟩ ?_; try simp only [Act.put, pz1, pz2, pz3]
          refine wpAnyH_ready (rs := [13]) (by kernel_rfl) (by simp) ?_
          refine AllReadyH.cons (o := ⟨some 24, .box 94 (.tmp 23), 30, "ref.go:30", #[⟨12, .data⟩], none⟩) rfl (fun K hK => ?_) AllReadyH.nil
          refine wp_boxR _ rfl rfl ?_
          intro wN m BM hq hb
          have qm := Nat.le_trans HS hq
          have nm1 : m ≠ gN := Nat.ne_of_gt (Nat.lt_of_lt_of_le RN.lt hq)
          have nm2 : m ≠ gW := Nat.ne_of_gt (Nat.lt_of_lt_of_le RV.lt hq)
          have nm3 : m ≠ gD := Nat.ne_of_gt (Nat.lt_of_lt_of_le RD.lt hq)
          have nFm := FR.ne RF hq
          (try have hb := undrew hb)
          (try replace RN := RN.below hb)
          (try replace RV := RV.below hb)
          (try replace RD := RD.below hb)
          (try replace RF := FR.below_ RF hb)
          replace HSF := HSF.next hb
          replace G1 := G1.below hb G1.lt
          clear HY
          have HY := cells5 G1
          replace HB0 := btr HB0 HB0.size hb
          replace HS := Nat.le_trans HS hb.size
          refine hK.out _ _ ?_ (fun hNew => ?_)
          · (first | exact HY | assumption)
          clear hK K hHeld
          have hHeld := hNew
          clear hNew
          try simp only [Act.put, pz1, pz2, pz3]
          refine tk 14 ⟨some 5, .assign (.tmp 24), 30, "ref.go:30", #[⟨13, .data⟩, ⟨2, .chain⟩, ⟨0, .phase⟩, ⟨1, .phase⟩, ⟨2, .phase⟩, ⟨3, .phase⟩, ⟨4, .phase⟩, ⟨5, .phase⟩, ⟨6, .phase⟩, ⟨7, .phase⟩, ⟨8, .phase⟩, ⟨9, .phase⟩, ⟨10, .phase⟩, ⟨11, .phase⟩, ⟨12, .phase⟩, ⟨13, .phase⟩], none⟩ ?_; try simp only [Act.put, pz1, pz2, pz3]
          refine wpAnyH_done (by kernel_rfl) ?_ _
          refine NoPanic.normal ?_
          go_wp2_with fail
          go_meet
          exact ⟨m, gN, gW, gD, AF, cf, rfl, NewL.start BM RN RV RD RF ⟨nm1, nm2, nm3, (by first | exact ngNgW | exact ngWgN.symm), (by first | exact ngNgD | exact ngDgN.symm), (by first | exact ngWgD | exact ngDgW.symm)⟩ ⟨nFm, nFgN, nFgW, nFgD⟩ ⟨by omega, by omega, by omega, by omega⟩ G1 HB0 qF⟩
        · refine wp_makeI _ _ rfl a NB rfl rfl hNB (by omega) ?_
          intro wN gD RD hq hb
          have qgD := Nat.le_trans HS hq
          (try have ngNgD := Nat.ne_of_lt (Nat.lt_of_lt_of_le RN.lt hq))
          (try have ngWgD := Nat.ne_of_lt (Nat.lt_of_lt_of_le RV.lt hq))
          (try have nFgD := FR.ne RF hq)
          clear hq
          (try have hb := undrew hb)
          (try replace RN := RN.below hb)
          (try replace RV := RV.below hb)
          (try replace RF := FR.below_ RF hb)
          replace HSF := HSF.next hb
          replace G1 := G1.below hb G1.lt
          clear HY
          have HY := cells5 G1
          replace HB0 := btr HB0 HB0.size hb
          replace HS := Nat.le_trans HS hb.size
          refine hK.out _ _ ?_ (fun hNew => ?_)
          · (first | exact HY | assumption)
          clear hK K hHeld
          have hHeld := hNew
          clear hNew
          try simp only [Act.put, pz1, pz2, pz3]
          refine wpAnyH_ready (rs := [2]) (by kernel_rfl) (by simp) ?_
          refine AllReadyH.cons (o := ⟨some 13, .call { callee := .builtin .append, args := #[.const (.slice none 0 0), .tmp 12], argTypes := #[24, 24] }, 24, "ref.go:30", #[⟨1, .data⟩], none⟩) rfl (fun K hK => ?_) AllReadyH.nil
          refine wp_appF0 _ rfl rfl fs A c0 rfl HSF hfl ?_
          intro wN AF cf RF hq hb
          have qF := FGe.le hq HS
          (try have nFgN := FNe.fresh hq RN.lt)
          (try have nFgW := FNe.fresh hq RV.lt)
          (try have nFgD := FNe.fresh hq RD.lt)
          clear hq
          (try have hb := undrew hb)
          (try replace RN := RN.below hb)
          (try replace RV := RV.below hb)
          (try replace RD := RD.below hb)
          replace HSF := HSF.next hb
          replace G1 := G1.below hb G1.lt
          clear HY
          have HY := cells5 G1
          replace HB0 := btr HB0 HB0.size hb
          replace HS := Nat.le_trans HS hb.size
          refine hK.out _ _ ?_ (fun hNew => ?_)
          · (first | exact HY | assumption)
          clear hK K hHeld
          have hHeld := hNew
          clear hNew
          try simp only [Act.put, pz1, pz2, pz3]
          refine tk 12 ⟨some 23, .build 94 #[(0, .tmp 11), (1, .tmp 13), (3, .tmp 16), (4, .tmp 19), (5, .tmp 22)], 94, "ref.go:30", #[⟨0, .data⟩, ⟨2, .data⟩, ⟨5, .data⟩, ⟨8, .data⟩, ⟨11, .data⟩], none⟩ ?_; try simp only [Act.put, pz1, pz2, pz3]
          refine wpAnyH_ready (rs := [13]) (by kernel_rfl) (by simp) ?_
          refine AllReadyH.cons (o := ⟨some 24, .box 94 (.tmp 23), 30, "ref.go:30", #[⟨12, .data⟩], none⟩) rfl (fun K hK => ?_) AllReadyH.nil
          refine wp_boxR _ rfl rfl ?_
          intro wN m BM hq hb
          have qm := Nat.le_trans HS hq
          have nm1 : m ≠ gN := Nat.ne_of_gt (Nat.lt_of_lt_of_le RN.lt hq)
          have nm2 : m ≠ gW := Nat.ne_of_gt (Nat.lt_of_lt_of_le RV.lt hq)
          have nm3 : m ≠ gD := Nat.ne_of_gt (Nat.lt_of_lt_of_le RD.lt hq)
          have nFm := FR.ne RF hq
          (try have hb := undrew hb)
          (try replace RN := RN.below hb)
          (try replace RV := RV.below hb)
          (try replace RD := RD.below hb)
          (try replace RF := FR.below_ RF hb)
          replace HSF := HSF.next hb
          replace G1 := G1.below hb G1.lt
          clear HY
          have HY := cells5 G1
          replace HB0 := btr HB0 HB0.size hb
          replace HS := Nat.le_trans HS hb.size
          refine hK.out _ _ ?_ (fun hNew => ?_)
          · (first | exact HY | assumption)
          clear hK K hHeld
          have hHeld := hNew
          clear hNew
          try simp only [Act.put, pz1, pz2, pz3]
          refine tk 14 ⟨some 5, .assign (.tmp 24), 30, "ref.go:30", #[⟨13, .data⟩, ⟨2, .chain⟩, ⟨0, .phase⟩, ⟨1, .phase⟩, ⟨2, .phase⟩, ⟨3, .phase⟩, ⟨4, .phase⟩, ⟨5, .phase⟩, ⟨6, .phase⟩, ⟨7, .phase⟩, ⟨8, .phase⟩, ⟨9, .phase⟩, ⟨10, .phase⟩, ⟨11, .phase⟩, ⟨12, .phase⟩, ⟨13, .phase⟩], none⟩ ?_; try simp only [Act.put, pz1, pz2, pz3]
          refine wpAnyH_done (by kernel_rfl) ?_ _
          refine NoPanic.normal ?_
          go_wp2_with fail
          go_meet
          exact ⟨m, gN, gW, gD, AF, cf, rfl, NewL.start BM RN RV RD RF ⟨nm1, nm2, nm3, (by first | exact ngNgW | exact ngWgN.symm), (by first | exact ngNgD | exact ngDgN.symm), (by first | exact ngWgD | exact ngDgW.symm)⟩ ⟨nFm, nFgN, nFgW, nFgD⟩ ⟨by omega, by omega, by omega, by omega⟩ G1 HB0 qF⟩
      · refine wp_makeI _ _ rfl a NB rfl rfl hNB (by omega) ?_
        intro wN gD RD hq hb
        have qgD := Nat.le_trans HS hq
        (try have ngNgD := Nat.ne_of_lt (Nat.lt_of_lt_of_le RN.lt hq))
        (try have ngWgD := Nat.ne_of_lt (Nat.lt_of_lt_of_le RV.lt hq))
        (try have nFgD := FR.ne RF hq)
        clear hq
        (try have hb := undrew hb)
        (try replace RN := RN.below hb)
        (try replace RV := RV.below hb)
        (try replace RF := FR.below_ RF hb)
        replace HSF := HSF.next hb
        replace G1 := G1.below hb G1.lt
        clear HY
        have HY := cells5 G1
        replace HB0 := btr HB0 HB0.size hb
        replace HS := Nat.le_trans HS hb.size
        refine hK.out _ _ ?_ (fun hNew => ?_)
        · (first | exact HY | assumption)
        clear hK K hHeld
        have hHeld := hNew
        clear hNew
        try simp only [Act.put, pz1, pz2, pz3]
        refine wpAnyH_ready (rs := [2, 8]) (by kernel_rfl) (by simp) ?_
        refine (AllReadyH.cons (o := ⟨some 13, .call { callee := .builtin .append, args := #[.const (.slice none 0 0), .tmp 12], argTypes := #[24, 24] }, 24, "ref.go:30", #[⟨1, .data⟩], none⟩) rfl (fun K hK => ?_) (AllReadyH.cons (o := ⟨some 19, .makeSlice 92 (.tmp 18) (.tmp 18), 92, "ref.go:30", #[⟨7, .data⟩, ⟨7, .data⟩], none⟩) rfl (fun K hK => ?_) AllReadyH.nil))
        · refine wp_appF0 _ rfl rfl fs A c0 rfl HSF hfl ?_
          intro wN AF cf RF hq hb
          have qF := FGe.le hq HS
          (try have nFgN := FNe.fresh hq RN.lt)
          (try have nFgW := FNe.fresh hq RV.lt)
          (try have nFgD := FNe.fresh hq RD.lt)
          clear hq
          (try have hb := undrew hb)
          (try replace RN := RN.below hb)
          (try replace RV := RV.below hb)
          (try replace RD := RD.below hb)
          replace HSF := HSF.next hb
          replace G1 := G1.below hb G1.lt
          clear HY
          have HY := cells5 G1
          replace HB0 := btr HB0 HB0.size hb
          replace HS := Nat.le_trans HS hb.size
          refine hK.out _ _ ?_ (fun hNew => ?_)
          · (first | exact HY | assumption)
          clear hK K hHeld
          have hHeld := hNew
          clear hNew
          try simp only [Act.put, pz1, pz2, pz3]
          refine wpAnyH_ready (rs := [8]) (by kernel_rfl) (by simp) ?_
          refine AllReadyH.cons (o := ⟨some 19, .makeSlice 92 (.tmp 18) (.tmp 18), 92, "ref.go:30", #[⟨7, .data⟩, ⟨7, .data⟩], none⟩) rfl (fun K hK => ?_) AllReadyH.nil
          refine wp_makeI _ _ rfl a NB rfl rfl hNB (by omega) ?_
          intro wN gW RV hq hb
          have qgW := Nat.le_trans HS hq
          (try have ngNgW := Nat.ne_of_lt (Nat.lt_of_lt_of_le RN.lt hq))
          (try have ngDgW := Nat.ne_of_lt (Nat.lt_of_lt_of_le RD.lt hq))
          (try have nFgW := FR.ne RF hq)
          clear hq
          (try have hb := undrew hb)
          (try replace RN := RN.below hb)
          (try replace RD := RD.below hb)
          (try replace RF := FR.below_ RF hb)
          replace HSF := HSF.next hb
          replace G1 := G1.below hb G1.lt
          clear HY
          have HY := cells5 G1
          replace HB0 := btr HB0 HB0.size hb
          replace HS := Nat.le_trans HS hb.size
          refine hK.out _ _ ?_ (fun hNew => ?_)
          · (first | exact HY | assumption)
          clear hK K hHeld
          have hHeld := hNew
          clear hNew
          try simp only [Act.put, pz1, pz2, pz3]
          refine tk 12 ⟨some 23, .build 94 #[(0, .tmp 11), (1, .tmp 13), (3, .tmp 16), (4, .tmp 19), (5, .tmp 22)], 94, "ref.go:30", #[⟨0, .data⟩, ⟨2, .data⟩, ⟨5, .data⟩, ⟨8, .data⟩, ⟨11, .data⟩], none⟩ ?_; try simp only [Act.put, pz1, pz2, pz3]
          refine wpAnyH_ready (rs := [13]) (by kernel_rfl) (by simp) ?_
          refine AllReadyH.cons (o := ⟨some 24, .box 94 (.tmp 23), 30, "ref.go:30", #[⟨12, .data⟩], none⟩) rfl (fun K hK => ?_) AllReadyH.nil
          refine wp_boxR _ rfl rfl ?_
          intro wN m BM hq hb
          have qm := Nat.le_trans HS hq
          have nm1 : m ≠ gN := Nat.ne_of_gt (Nat.lt_of_lt_of_le RN.lt hq)
          have nm2 : m ≠ gW := Nat.ne_of_gt (Nat.lt_of_lt_of_le RV.lt hq)
          have nm3 : m ≠ gD := Nat.ne_of_gt (Nat.lt_of_lt_of_le RD.lt hq)
          have nFm := FR.ne RF hq
          (try have hb := undrew hb)
          (try replace RN := RN.below hb)
          (try replace RV := RV.below hb)
          (try replace RD := RD.below hb)
          (try replace RF := FR.below_ RF hb)
          replace HSF := HSF.next hb
          replace G1 := G1.below hb G1.lt
          clear HY
          have HY := cells5 G1
          replace HB0 := btr HB0 HB0.size hb
          replace HS := Nat.le_trans HS hb.size
          refine hK.out _ _ ?_ (fun hNew => ?_)
          · (first | exact HY | assumption)
          clear hK K hHeld
          have hHeld := hNew
          clear hNew
          try simp only [Act.put, pz1, pz2, pz3]
          refine tk 14 ⟨some 5, .assign (.tmp 24), 30, "ref.go:30", #[⟨13, .data⟩, ⟨2, .chain⟩, ⟨0, .phase⟩, ⟨1, .phase⟩, ⟨2, .phase⟩, ⟨3, .phase⟩, ⟨4, .phase⟩, ⟨5, .phase⟩, ⟨6, .phase⟩, ⟨7, .phase⟩, ⟨8, .phase⟩, ⟨9, .phase⟩, ⟨10, .phase⟩, ⟨11, .phase⟩, ⟨12, .phase⟩, ⟨13, .phase⟩], none⟩ ?_; try simp only [Act.put, pz1, pz2, pz3]
          refine wpAnyH_done (by kernel_rfl) ?_ _
          refine NoPanic.normal ?_
          go_wp2_with fail
          go_meet
          exact ⟨m, gN, gW, gD, AF, cf, rfl, NewL.start BM RN RV RD RF ⟨nm1, nm2, nm3, (by first | exact ngNgW | exact ngWgN.symm), (by first | exact ngNgD | exact ngDgN.symm), (by first | exact ngWgD | exact ngDgW.symm)⟩ ⟨nFm, nFgN, nFgW, nFgD⟩ ⟨by omega, by omega, by omega, by omega⟩ G1 HB0 qF⟩
        · refine wp_makeI _ _ rfl a NB rfl rfl hNB (by omega) ?_
          intro wN gW RV hq hb
          have qgW := Nat.le_trans HS hq
          (try have ngNgW := Nat.ne_of_lt (Nat.lt_of_lt_of_le RN.lt hq))
          (try have ngDgW := Nat.ne_of_lt (Nat.lt_of_lt_of_le RD.lt hq))
          (try have nFgW := FR.ne RF hq)
          clear hq
          (try have hb := undrew hb)
          (try replace RN := RN.below hb)
          (try replace RD := RD.below hb)
          (try replace RF := FR.below_ RF hb)
          replace HSF := HSF.next hb
          replace G1 := G1.below hb G1.lt
          clear HY
          have HY := cells5 G1
          replace HB0 := btr HB0 HB0.size hb
          replace HS := Nat.le_trans HS hb.size
          refine hK.out _ _ ?_ (fun hNew => ?_)
          · (first | exact HY | assumption)
          clear hK K hHeld
          have hHeld := hNew
          clear hNew
          try simp only [Act.put, pz1, pz2, pz3]
          refine wpAnyH_ready (rs := [2]) (by kernel_rfl) (by simp) ?_
          refine AllReadyH.cons (o := ⟨some 13, .call { callee := .builtin .append, args := #[.const (.slice none 0 0), .tmp 12], argTypes := #[24, 24] }, 24, "ref.go:30", #[⟨1, .data⟩], none⟩) rfl (fun K hK => ?_) AllReadyH.nil
          refine wp_appF0 _ rfl rfl fs A c0 rfl HSF hfl ?_
          intro wN AF cf RF hq hb
          have qF := FGe.le hq HS
          (try have nFgN := FNe.fresh hq RN.lt)
          (try have nFgW := FNe.fresh hq RV.lt)
          (try have nFgD := FNe.fresh hq RD.lt)
          clear hq
          (try have hb := undrew hb)
          (try replace RN := RN.below hb)
          (try replace RV := RV.below hb)
          (try replace RD := RD.below hb)
          replace HSF := HSF.next hb
          replace G1 := G1.below hb G1.lt
          clear HY
          have HY := cells5 G1
          replace HB0 := btr HB0 HB0.size hb
          replace HS := Nat.le_trans HS hb.size
          refine hK.out _ _ ?_ (fun hNew => ?_)
          · (first | exact HY | assumption)
          clear hK K hHeld
          have hHeld := hNew
          clear hNew
          try simp only [Act.put, pz1, pz2, pz3]
          refine tk 12 ⟨some 23, .build 94 #[(0, .tmp 11), (1, .tmp 13), (3, .tmp 16), (4, .tmp 19), (5, .tmp 22)], 94, "ref.go:30", #[⟨0, .data⟩, ⟨2, .data⟩, ⟨5, .data⟩, ⟨8, .data⟩, ⟨11, .data⟩], none⟩ ?_; try simp only [Act.put, pz1, pz2, pz3]
          refine wpAnyH_ready (rs := [13]) (by kernel_rfl) (by simp) ?_
          refine AllReadyH.cons (o := ⟨some 24, .box 94 (.tmp 23), 30, "ref.go:30", #[⟨12, .data⟩], none⟩) rfl (fun K hK => ?_) AllReadyH.nil
          refine wp_boxR _ rfl rfl ?_
          intro wN m BM hq hb
          have qm := Nat.le_trans HS hq
          have nm1 : m ≠ gN := Nat.ne_of_gt (Nat.lt_of_lt_of_le RN.lt hq)
          have nm2 : m ≠ gW := Nat.ne_of_gt (Nat.lt_of_lt_of_le RV.lt hq)
          have nm3 : m ≠ gD := Nat.ne_of_gt (Nat.lt_of_lt_of_le RD.lt hq)
          have nFm := FR.ne RF hq
          (try have hb := undrew hb)
          (try replace RN := RN.below hb)
          (try replace RV := RV.below hb)
          (try replace RD := RD.below hb)
          (try replace RF := FR.below_ RF hb)
          replace HSF := HSF.next hb
          replace G1 := G1.below hb G1.lt
          clear HY
          have HY := cells5 G1
          replace HB0 := btr HB0 HB0.size hb
          replace HS := Nat.le_trans HS hb.size
          refine hK.out _ _ ?_ (fun hNew => ?_)
          · (first | exact HY | assumption)
          clear hK K hHeld
          have hHeld := hNew
          clear hNew
          try simp only [Act.put, pz1, pz2, pz3]
          refine tk 14 ⟨some 5, .assign (.tmp 24), 30, "ref.go:30", #[⟨13, .data⟩, ⟨2, .chain⟩, ⟨0, .phase⟩, ⟨1, .phase⟩, ⟨2, .phase⟩, ⟨3, .phase⟩, ⟨4, .phase⟩, ⟨5, .phase⟩, ⟨6, .phase⟩, ⟨7, .phase⟩, ⟨8, .phase⟩, ⟨9, .phase⟩, ⟨10, .phase⟩, ⟨11, .phase⟩, ⟨12, .phase⟩, ⟨13, .phase⟩], none⟩ ?_; try simp only [Act.put, pz1, pz2, pz3]
          refine wpAnyH_done (by kernel_rfl) ?_ _
          refine NoPanic.normal ?_
          go_wp2_with fail
          go_meet
          exact ⟨m, gN, gW, gD, AF, cf, rfl, NewL.start BM RN RV RD RF ⟨nm1, nm2, nm3, (by first | exact ngNgW | exact ngWgN.symm), (by first | exact ngNgD | exact ngDgN.symm), (by first | exact ngWgD | exact ngDgW.symm)⟩ ⟨nFm, nFgN, nFgW, nFgD⟩ ⟨by omega, by omega, by omega, by omega⟩ G1 HB0 qF⟩
    · refine wp_makeI _ _ rfl a NB rfl rfl hNB (by omega) ?_
      intro wN gW RV hq hb
      have qgW := Nat.le_trans HS hq
      (try have ngNgW := Nat.ne_of_lt (Nat.lt_of_lt_of_le RN.lt hq))
      (try have ngDgW := Nat.ne_of_lt (Nat.lt_of_lt_of_le RD.lt hq))
      (try have nFgW := FR.ne RF hq)
      clear hq
      (try have hb := undrew hb)
      (try replace RN := RN.below hb)
      (try replace RD := RD.below hb)
      (try replace RF := FR.below_ RF hb)
      replace HSF := HSF.next hb
      replace G1 := G1.below hb G1.lt
      clear HY
      have HY := cells5 G1
      replace HB0 := btr HB0 HB0.size hb
      replace HS := Nat.le_trans HS hb.size
      refine hK.out _ _ ?_ (fun hNew => ?_)
      · (first | exact HY | assumption)
      clear hK K hHeld
      have hHeld := hNew
      clear hNew
      try simp only [Act.put, pz1, pz2, pz3]
      refine wpAnyH_ready (rs := [2, 5, 11]) (by kernel_rfl) (by simp) ?_
      refine (AllReadyH.cons (o := ⟨some 13, .call { callee := .builtin .append, args := #[.const (.slice none 0 0), .tmp 12], argTypes := #[24, 24] }, 24, "ref.go:30", #[⟨1, .data⟩], none⟩) rfl (fun K hK => ?_) (AllReadyH.cons (o := ⟨some 16, .makeSlice 92 (.tmp 15) (.tmp 15), 92, "ref.go:30", #[⟨4, .data⟩, ⟨4, .data⟩], none⟩) rfl (fun K hK => ?_) (AllReadyH.cons (o := ⟨some 22, .makeSlice 92 (.tmp 21) (.tmp 21), 92, "ref.go:30", #[⟨10, .data⟩, ⟨10, .data⟩], none⟩) rfl (fun K hK => ?_) AllReadyH.nil)))
      · refine wp_appF0 _ rfl rfl fs A c0 rfl HSF hfl ?_
        intro wN AF cf RF hq hb
        have qF := FGe.le hq HS
        (try have nFgN := FNe.fresh hq RN.lt)
        (try have nFgW := FNe.fresh hq RV.lt)
        (try have nFgD := FNe.fresh hq RD.lt)
        clear hq
        (try have hb := undrew hb)
        (try replace RN := RN.below hb)
        (try replace RV := RV.below hb)
        (try replace RD := RD.below hb)
        replace HSF := HSF.next hb
        replace G1 := G1.below hb G1.lt
        clear HY
        have HY := cells5 G1
        replace HB0 := btr HB0 HB0.size hb
        replace HS := Nat.le_trans HS hb.size
        refine hK.out _ _ ?_ (fun hNew => ?_)
        · (first | exact HY | assumption)
        clear hK K hHeld
        have hHeld := hNew
        clear hNew
        try simp only [Act.put, pz1, pz2, pz3]
        refine wpAnyH_ready (rs := [5, 11]) (by kernel_rfl) (by simp) ?_
        refine (AllReadyH.cons (o := ⟨some 16, .makeSlice 92 (.tmp 15) (.tmp 15), 92, "ref.go:30", #[⟨4, .data⟩, ⟨4, .data⟩], none⟩) rfl (fun K hK => ?_) (AllReadyH.cons (o := ⟨some 22, .makeSlice 92 (.tmp 21) (.tmp 21), 92, "ref.go:30", #[⟨10, .data⟩, ⟨10, .data⟩], none⟩) rfl (fun K hK => ?_) AllReadyH.nil))
        · refine wp_makeI _ _ rfl a NB rfl rfl hNB (by omega) ?_
          intro wN gN RN hq hb
          have qgN := Nat.le_trans HS hq
          (try have ngWgN := Nat.ne_of_lt (Nat.lt_of_lt_of_le RV.lt hq))
          (try have ngDgN := Nat.ne_of_lt (Nat.lt_of_lt_of_le RD.lt hq))
          (try have nFgN := FR.ne RF hq)
          clear hq
          (try have hb := undrew hb)
          (try replace RV := RV.below hb)
          (try replace RD := RD.below hb)
          (try replace RF := FR.below_ RF hb)
          replace HSF := HSF.next hb
          replace G1 := G1.below hb G1.lt
          clear HY
          have HY := cells5 G1
          replace HB0 := btr HB0 HB0.size hb
          replace HS := Nat.le_trans HS hb.size
          refine hK.out _ _ ?_ (fun hNew => ?_)
          · (first | exact HY | assumption)
          clear hK K hHeld
          have hHeld := hNew
          clear hNew
          try simp only [Act.put, pz1, pz2, pz3]
          refine wpAnyH_ready (rs := [11]) (by kernel_rfl) (by simp) ?_
          refine AllReadyH.cons (o := ⟨some 22, .makeSlice 92 (.tmp 21) (.tmp 21), 92, "ref.go:30", #[⟨10, .data⟩, ⟨10, .data⟩], none⟩) rfl (fun K hK => ?_) AllReadyH.nil
          refine wp_makeI _ _ rfl a NB rfl rfl hNB (by omega) ?_
          intro wN gD RD hq hb
          have qgD := Nat.le_trans HS hq
          (try have ngNgD := Nat.ne_of_lt (Nat.lt_of_lt_of_le RN.lt hq))
          (try have ngWgD := Nat.ne_of_lt (Nat.lt_of_lt_of_le RV.lt hq))
          (try have nFgD := FR.ne RF hq)
          clear hq
          (try have hb := undrew hb)
          (try replace RN := RN.below hb)
          (try replace RV := RV.below hb)
          (try replace RF := FR.below_ RF hb)
          replace HSF := HSF.next hb
          replace G1 := G1.below hb G1.lt
          clear HY
          have HY := cells5 G1
          replace HB0 := btr HB0 HB0.size hb
          replace HS := Nat.le_trans HS hb.size
          refine hK.out _ _ ?_ (fun hNew => ?_)
          · (first | exact HY | assumption)
          clear hK K hHeld
          have hHeld := hNew
          clear hNew
          try simp only [Act.put, pz1, pz2, pz3]
          refine tk 12 ⟨some 23, .build 94 #[(0, .tmp 11), (1, .tmp 13), (3, .tmp 16), (4, .tmp 19), (5, .tmp 22)], 94, "ref.go:30", #[⟨0, .data⟩, ⟨2, .data⟩, ⟨5, .data⟩, ⟨8, .data⟩, ⟨11, .data⟩], none⟩ ?_; try simp only [Act.put, pz1, pz2, pz3]
          refine wpAnyH_ready (rs := [13]) (by kernel_rfl) (by simp) ?_
          refine AllReadyH.cons (o := ⟨some 24, .box 94 (.tmp 23), 30, "ref.go:30", #[⟨12, .data⟩], none⟩) rfl (fun K hK => ?_) AllReadyH.nil
          refine wp_boxR _ rfl rfl ?_
          intro wN m BM hq hb
          have qm := Nat.le_trans HS hq
          have nm1 : m ≠ gN := Nat.ne_of_gt (Nat.lt_of_lt_of_le RN.lt hq)
          have nm2 : m ≠ gW := Nat.ne_of_gt (Nat.lt_of_lt_of_le RV.lt hq)
          have nm3 : m ≠ gD := Nat.ne_of_gt (Nat.lt_of_lt_of_le RD.lt hq)
          have nFm := FR.ne RF hq
          (try have hb := undrew hb)
          (try replace RN := RN.below hb)
          (try replace RV := RV.below hb)
          (try replace RD := RD.below hb)
          (try replace RF := FR.below_ RF hb)
          replace HSF := HSF.next hb
          replace G1 := G1.below hb G1.lt
          clear HY
          have HY := cells5 G1
          replace HB0 := btr HB0 HB0.size hb
          replace HS := Nat.le_trans HS hb.size
          refine hK.out _ _ ?_ (fun hNew => ?_)
          · (first | exact HY | assumption)
          clear hK K hHeld
          have hHeld := hNew
          clear hNew
          try simp only [Act.put, pz1, pz2, pz3]
          refine tk 14 ⟨some 5, .assign (.tmp 24), 30, "ref.go:30", #[⟨13, .data⟩, ⟨2, .chain⟩, ⟨0, .phase⟩, ⟨1, .phase⟩, ⟨2, .phase⟩, ⟨3, .phase⟩, ⟨4, .phase⟩, ⟨5, .phase⟩, ⟨6, .phase⟩, ⟨7, .phase⟩, ⟨8, .phase⟩, ⟨9, .phase⟩, ⟨10, .phase⟩, ⟨11, .phase⟩, ⟨12, .phase⟩, ⟨13, .phase⟩], none⟩ ?_; try simp only [Act.put, pz1, pz2, pz3]
          refine wpAnyH_done (by kernel_rfl) ?_ _
          refine NoPanic.normal ?_
          go_wp2_with fail
          go_meet
          exact ⟨m, gN, gW, gD, AF, cf, rfl, NewL.start BM RN RV RD RF ⟨nm1, nm2, nm3, (by first | exact ngNgW | exact ngWgN.symm), (by first | exact ngNgD | exact ngDgN.symm), (by first | exact ngWgD | exact ngDgW.symm)⟩ ⟨nFm, nFgN, nFgW, nFgD⟩ ⟨by omega, by omega, by omega, by omega⟩ G1 HB0 qF⟩
        · refine wp_makeI _ _ rfl a NB rfl rfl hNB (by omega) ?_
          intro wN gD RD hq hb
          have qgD := Nat.le_trans HS hq
          (try have ngNgD := Nat.ne_of_lt (Nat.lt_of_lt_of_le RN.lt hq))
          (try have ngWgD := Nat.ne_of_lt (Nat.lt_of_lt_of_le RV.lt hq))
          (try have nFgD := FR.ne RF hq)
          clear hq
          (try have hb := undrew hb)
          (try replace RN := RN.below hb)
          (try replace RV := RV.below hb)
          (try replace RF := FR.below_ RF hb)
          replace HSF := HSF.next hb
          replace G1 := G1.below hb G1.lt
          clear HY
          have HY := cells5 G1
          replace HB0 := btr HB0 HB0.size hb
          replace HS := Nat.le_trans HS hb.size
          refine hK.out _ _ ?_ (fun hNew => ?_)
          · (first | exact HY | assumption)
          clear hK K hHeld
          have hHeld := hNew
          clear hNew
          try simp only [Act.put, pz1, pz2, pz3]
          refine wpAnyH_ready (rs := [5]) (by kernel_rfl) (by simp) ?_
          refine AllReadyH.cons (o := ⟨some 16, .makeSlice 92 (.tmp 15) (.tmp 15), 92, "ref.go:30", #[⟨4, .data⟩, ⟨4, .data⟩], none⟩) rfl (fun K hK => ?_) AllReadyH.nil
          refine wp_makeI _ _ rfl a NB rfl rfl hNB (by omega) ?_
          intro wN gN RN hq hb
          have qgN := Nat.le_trans HS hq
          (try have ngWgN := Nat.ne_of_lt (Nat.lt_of_lt_of_le RV.lt hq))
          (try have ngDgN := Nat.ne_of_lt (Nat.lt_of_lt_of_le RD.lt hq))
          (try have nFgN := FR.ne RF hq)
          clear hq
          (try have hb := undrew hb)
          (try replace RV := RV.below hb)
          (try replace RD := RD.below hb)
          (try replace RF := FR.below_ RF hb)
          replace HSF := HSF.next hb
          replace G1 := G1.below hb G1.lt
          clear HY
          have HY := cells5 G1
          replace HB0 := btr HB0 HB0.size hb
          replace HS := Nat.le_trans HS hb.size
          refine hK.out _ _ ?_ (fun hNew => ?_)
          · (first | exact HY | assumption)
          clear hK K hHeld
          have hHeld := hNew
          clear hNew
          try simp only [Act.put, pz1, pz2, pz3]
          refine tk 12 ⟨some 23, .build 94 #[(0, .tmp 11), (1, .tmp 13), (3, .tmp 16), (4, .tmp 19), (5, .tmp 22)], 94, "ref.go:30", #[⟨0, .data⟩, ⟨2, .data⟩, ⟨5, .data⟩, ⟨8, .data⟩, ⟨11, .data⟩], none⟩ ?_; try simp only [Act.put, pz1, pz2, pz3]
          refine wpAnyH_ready (rs := [13]) (by kernel_rfl) (by simp) ?_
          refine AllReadyH.cons (o := ⟨some 24, .box 94 (.tmp 23), 30, "ref.go:30", #[⟨12, .data⟩], none⟩) rfl (fun K hK => ?_) AllReadyH.nil
          refine wp_boxR _ rfl rfl ?_
          intro wN m BM hq hb
          have qm := Nat.le_trans HS hq
          have nm1 : m ≠ gN := Nat.ne_of_gt (Nat.lt_of_lt_of_le RN.lt hq)
          have nm2 : m ≠ gW := Nat.ne_of_gt (Nat.lt_of_lt_of_le RV.lt hq)
          have nm3 : m ≠ gD := Nat.ne_of_gt (Nat.lt_of_lt_of_le RD.lt hq)
          have nFm := FR.ne RF hq
          (try have hb := undrew hb)
          (try replace RN := RN.below hb)
          (try replace RV := RV.below hb)
          (try replace RD := RD.below hb)
          (try replace RF := FR.below_ RF hb)
          replace HSF := HSF.next hb
          replace G1 := G1.below hb G1.lt
          clear HY
          have HY := cells5 G1
          replace HB0 := btr HB0 HB0.size hb
          replace HS := Nat.le_trans HS hb.size
          refine hK.out _ _ ?_ (fun hNew => ?_)
          · (first | exact HY | assumption)
          clear hK K hHeld
          have hHeld := hNew
          clear hNew
          try simp only [Act.put, pz1, pz2, pz3]
          refine tk 14 ⟨some 5, .assign (.tmp 24), 30, "ref.go:30", #[⟨13, .data⟩, ⟨2, .chain⟩, ⟨0, .phase⟩, ⟨1, .phase⟩, ⟨2, .phase⟩, ⟨3, .phase⟩, ⟨4, .phase⟩, ⟨5, .phase⟩, ⟨6, .phase⟩, ⟨7, .phase⟩, ⟨8, .phase⟩, ⟨9, .phase⟩, ⟨10, .phase⟩, ⟨11, .phase⟩, ⟨12, .phase⟩, ⟨13, .phase⟩], none⟩ ?_; try simp only [Act.put, pz1, pz2, pz3]
          refine wpAnyH_done (by kernel_rfl) ?_ _
          refine NoPanic.normal ?_
          go_wp2_with fail
          go_meet
          exact ⟨m, gN, gW, gD, AF, cf, rfl, NewL.start BM RN RV RD RF ⟨nm1, nm2, nm3, (by first | exact ngNgW | exact ngWgN.symm), (by first | exact ngNgD | exact ngDgN.symm), (by first | exact ngWgD | exact ngDgW.symm)⟩ ⟨nFm, nFgN, nFgW, nFgD⟩ ⟨by omega, by omega, by omega, by omega⟩ G1 HB0 qF⟩
      · refine wp_makeI _ _ rfl a NB rfl rfl hNB (by omega) ?_
        intro wN gN RN hq hb
        have qgN := Nat.le_trans HS hq
        (try have ngWgN := Nat.ne_of_lt (Nat.lt_of_lt_of_le RV.lt hq))
        (try have ngDgN := Nat.ne_of_lt (Nat.lt_of_lt_of_le RD.lt hq))
        (try have nFgN := FR.ne RF hq)
        clear hq
        (try have hb := undrew hb)
        (try replace RV := RV.below hb)
        (try replace RD := RD.below hb)
        (try replace RF := FR.below_ RF hb)
        replace HSF := HSF.next hb
        replace G1 := G1.below hb G1.lt
        clear HY
        have HY := cells5 G1
        replace HB0 := btr HB0 HB0.size hb
        replace HS := Nat.le_trans HS hb.size
        refine hK.out _ _ ?_ (fun hNew => ?_)
        · (first | exact HY | assumption)
        clear hK K hHeld
        have hHeld := hNew
        clear hNew
        try simp only [Act.put, pz1, pz2, pz3]
        refine wpAnyH_ready (rs := [2, 11]) (by kernel_rfl) (by simp) ?_
        refine (AllReadyH.cons (o := ⟨some 13, .call { callee := .builtin .append, args := #[.const (.slice none 0 0), .tmp 12], argTypes := #[24, 24] }, 24, "ref.go:30", #[⟨1, .data⟩], none⟩) rfl (fun K hK => ?_) (AllReadyH.cons (o := ⟨some 22, .makeSlice 92 (.tmp 21) (.tmp 21), 92, "ref.go:30", #[⟨10, .data⟩, ⟨10, .data⟩], none⟩) rfl (fun K hK => ?_) AllReadyH.nil))
        · refine wp_appF0 _ rfl rfl fs A c0 rfl HSF hfl ?_
          intro wN AF cf RF hq hb
          have qF := FGe.le hq HS
          (try have nFgN := FNe.fresh hq RN.lt)
          (try have nFgW := FNe.fresh hq RV.lt)
          (try have nFgD := FNe.fresh hq RD.lt)
          clear hq
          (try have hb := undrew hb)
          (try replace RN := RN.below hb)
          (try replace RV := RV.below hb)
          (try replace RD := RD.below hb)
          replace HSF := HSF.next hb
          replace G1 := G1.below hb G1.lt
          clear HY
          have HY := cells5 G1
          replace HB0 := btr HB0 HB0.size hb
          replace HS := Nat.le_trans HS hb.size
          refine hK.out _ _ ?_ (fun hNew => ?_)
          · (first | exact HY | assumption)
          clear hK K hHeld
          have hHeld := hNew
          clear hNew
          try simp only [Act.put, pz1, pz2, pz3]
          refine wpAnyH_ready (rs := [11]) (by kernel_rfl) (by simp) ?_
          refine AllReadyH.cons (o := ⟨some 22, .makeSlice 92 (.tmp 21) (.tmp 21), 92, "ref.go:30", #[⟨10, .data⟩, ⟨10, .data⟩], none⟩) rfl (fun K hK => ?_) AllReadyH.nil
          refine wp_makeI _ _ rfl a NB rfl rfl hNB (by omega) ?_
          intro wN gD RD hq hb
          have qgD := Nat.le_trans HS hq
          (try have ngNgD := Nat.ne_of_lt (Nat.lt_of_lt_of_le RN.lt hq))
          (try have ngWgD := Nat.ne_of_lt (Nat.lt_of_lt_of_le RV.lt hq))
          (try have nFgD := FR.ne RF hq)
          clear hq
          (try have hb := undrew hb)
          (try replace RN := RN.below hb)
          (try replace RV := RV.below hb)
          (try replace RF := FR.below_ RF hb)
          replace HSF := HSF.next hb
          replace G1 := G1.below hb G1.lt
          clear HY
          have HY := cells5 G1
          replace HB0 := btr HB0 HB0.size hb
          replace HS := Nat.le_trans HS hb.size
          refine hK.out _ _ ?_ (fun hNew => ?_)
          · (first | exact HY | assumption)
          clear hK K hHeld
          have hHeld := hNew
          clear hNew
          try simp only [Act.put, pz1, pz2, pz3]
          refine tk 12 ⟨some 23, .build 94 #[(0, .tmp 11), (1, .tmp 13), (3, .tmp 16), (4, .tmp 19), (5, .tmp 22)], 94, "ref.go:30", #[⟨0, .data⟩, ⟨2, .data⟩, ⟨5, .data⟩, ⟨8, .data⟩, ⟨11, .data⟩], none⟩ ?_; try simp only [Act.put, pz1, pz2, pz3]
          refine wpAnyH_ready (rs := [13]) (by kernel_rfl) (by simp) ?_
          refine AllReadyH.cons (o := ⟨some 24, .box 94 (.tmp 23), 30, "ref.go:30", #[⟨12, .data⟩], none⟩) rfl (fun K hK => ?_) AllReadyH.nil
          refine wp_boxR _ rfl rfl ?_
          intro wN m BM hq hb
          have qm := Nat.le_trans HS hq
          have nm1 : m ≠ gN := Nat.ne_of_gt (Nat.lt_of_lt_of_le RN.lt hq)
          have nm2 : m ≠ gW := Nat.ne_of_gt (Nat.lt_of_lt_of_le RV.lt hq)
          have nm3 : m ≠ gD := Nat.ne_of_gt (Nat.lt_of_lt_of_le RD.lt hq)
          have nFm := FR.ne RF hq
          (try have hb := undrew hb)
          (try replace RN := RN.below hb)
          (try replace RV := RV.below hb)
          (try replace RD := RD.below hb)
          (try replace RF := FR.below_ RF hb)
          replace HSF := HSF.next hb
          replace G1 := G1.below hb G1.lt
          clear HY
          have HY := cells5 G1
          replace HB0 := btr HB0 HB0.size hb
          replace HS := Nat.le_trans HS hb.size
          refine hK.out _ _ ?_ (fun hNew => ?_)
          · (first | exact HY | assumption)
          clear hK K hHeld
          have hHeld := hNew
          clear hNew
          try simp only [Act.put, pz1, pz2, pz3]
          refine tk 14 ⟨some 5, .assign (.tmp 24), 30, "ref.go:30", #[⟨13, .data⟩, ⟨2, .chain⟩, ⟨0, .phase⟩, ⟨1, .phase⟩, ⟨2, .phase⟩, ⟨3, .phase⟩, ⟨4, .phase⟩, ⟨5, .phase⟩, ⟨6, .phase⟩, ⟨7, .phase⟩, ⟨8, .phase⟩, ⟨9, .phase⟩, ⟨10, .phase⟩, ⟨11, .phase⟩, ⟨12, .phase⟩, ⟨13, .phase⟩], none⟩ ?_; try simp only [Act.put, pz1, pz2, pz3]
          refine wpAnyH_done (by kernel_rfl) ?_ _
          refine NoPanic.normal ?_
          go_wp2_with fail
          go_meet
          exact ⟨m, gN, gW, gD, AF, cf, rfl, NewL.start BM RN RV RD RF ⟨nm1, nm2, nm3, (by first | exact ngNgW | exact ngWgN.symm), (by first | exact ngNgD | exact ngDgN.symm), (by first | exact ngWgD | exact ngDgW.symm)⟩ ⟨nFm, nFgN, nFgW, nFgD⟩ ⟨by omega, by omega, by omega, by omega⟩ G1 HB0 qF⟩
        · refine wp_makeI _ _ rfl a NB rfl rfl hNB (by omega) ?_
          intro wN gD RD hq hb
          have qgD := Nat.le_trans HS hq
          (try have ngNgD := Nat.ne_of_lt (Nat.lt_of_lt_of_le RN.lt hq))
          (try have ngWgD := Nat.ne_of_lt (Nat.lt_of_lt_of_le RV.lt hq))
          (try have nFgD := FR.ne RF hq)
          clear hq
          (try have hb := undrew hb)
          (try replace RN := RN.below hb)
          (try replace RV := RV.below hb)
          (try replace RF := FR.below_ RF hb)
          replace HSF := HSF.next hb
          replace G1 := G1.below hb G1.lt
          clear HY
          have HY := cells5 G1
          replace HB0 := btr HB0 HB0.size hb
          replace HS := Nat.le_trans HS hb.size
          refine hK.out _ _ ?_ (fun hNew => ?_)
          · (first | exact HY | assumption)
          clear hK K hHeld
          have hHeld := hNew
          clear hNew
          try simp only [Act.put, pz1, pz2, pz3]
          refine wpAnyH_ready (rs := [2]) (by kernel_rfl) (by simp) ?_
          refine AllReadyH.cons (o := ⟨some 13, .call { callee := .builtin .append, args := #[.const (.slice none 0 0), .tmp 12], argTypes := #[24, 24] }, 24, "ref.go:30", #[⟨1, .data⟩], none⟩) rfl (fun K hK => ?_) AllReadyH.nil
          refine wp_appF0 _ rfl rfl fs A c0 rfl HSF hfl ?_
          intro wN AF cf RF hq hb
          have qF := FGe.le hq HS
          (try have nFgN := FNe.fresh hq RN.lt)
          (try have nFgW := FNe.fresh hq RV.lt)
          (try have nFgD := FNe.fresh hq RD.lt)
          clear hq
          (try have hb := undrew hb)
          (try replace RN := RN.below hb)
          (try replace RV := RV.below hb)
          (try replace RD := RD.below hb)
          replace HSF := HSF.next hb
          replace G1 := G1.below hb G1.lt
          clear HY
          have HY := cells5 G1
          replace HB0 := btr HB0 HB0.size hb
          replace HS := Nat.le_trans HS hb.size
          refine hK.out _ _ ?_ (fun hNew => ?_)
          · (first | exact HY | assumption)
          clear hK K hHeld
          have hHeld := hNew
          clear hNew
          try simp only [Act.put, pz1, pz2, pz3]
          refine tk 12 ⟨some 23, .build 94 #[(0, .tmp 11), (1, .tmp 13), (3, .tmp 16), (4, .tmp 19), (5, .tmp 22)], 94, "ref.go:30", #[⟨0, .data⟩, ⟨2, .data⟩, ⟨5, .data⟩, ⟨8, .data⟩, ⟨11, .data⟩], none⟩ ?_; try simp only [Act.put, pz1, pz2, pz3]
          refine wpAnyH_ready (rs := [13]) (by kernel_rfl) (by simp) ?_
          refine AllReadyH.cons (o := ⟨some 24, .box 94 (.tmp 23), 30, "ref.go:30", #[⟨12, .data⟩], none⟩) rfl (fun K hK => ?_) AllReadyH.nil
          refine wp_boxR _ rfl rfl ?_
          intro wN m BM hq hb
          have qm := Nat.le_trans HS hq
          have nm1 : m ≠ gN := Nat.ne_of_gt (Nat.lt_of_lt_of_le RN.lt hq)
          have nm2 : m ≠ gW := Nat.ne_of_gt (Nat.lt_of_lt_of_le RV.lt hq)
          have nm3 : m ≠ gD := Nat.ne_of_gt (Nat.lt_of_lt_of_le RD.lt hq)
          have nFm := FR.ne RF hq
          (try have hb := undrew hb)
          (try replace RN := RN.below hb)
          (try replace RV := RV.below hb)
          (try replace RD := RD.below hb)
          (try replace RF := FR.below_ RF hb)
          replace HSF := HSF.next hb
          replace G1 := G1.below hb G1.lt
          clear HY
          have HY := cells5 G1
          replace HB0 := btr HB0 HB0.size hb
          replace HS := Nat.le_trans HS hb.size
          refine hK.out _ _ ?_ (fun hNew => ?_)
          · (first | exact HY | assumption)
          clear hK K hHeld
          have hHeld := hNew
          clear hNew
          try simp only [Act.put, pz1, pz2, pz3]
          refine tk 14 ⟨some 5, .assign (.tmp 24), 30, "ref.go:30", #[⟨13, .data⟩, ⟨2, .chain⟩, ⟨0, .phase⟩, ⟨1, .phase⟩, ⟨2, .phase⟩, ⟨3, .phase⟩, ⟨4, .phase⟩, ⟨5, .phase⟩, ⟨6, .phase⟩, ⟨7, .phase⟩, ⟨8, .phase⟩, ⟨9, .phase⟩, ⟨10, .phase⟩, ⟨11, .phase⟩, ⟨12, .phase⟩, ⟨13, .phase⟩], none⟩ ?_; try simp only [Act.put, pz1, pz2, pz3]
          refine wpAnyH_done (by kernel_rfl) ?_ _
          refine NoPanic.normal ?_
          go_wp2_with fail
          go_meet
          exact ⟨m, gN, gW, gD, AF, cf, rfl, NewL.start BM RN RV RD RF ⟨nm1, nm2, nm3, (by first | exact ngNgW | exact ngWgN.symm), (by first | exact ngNgD | exact ngDgN.symm), (by first | exact ngWgD | exact ngDgW.symm)⟩ ⟨nFm, nFgN, nFgW, nFgD⟩ ⟨by omega, by omega, by omega, by omega⟩ G1 HB0 qF⟩
      · refine wp_makeI _ _ rfl a NB rfl rfl hNB (by omega) ?_
        intro wN gD RD hq hb
        have qgD := Nat.le_trans HS hq
        (try have ngNgD := Nat.ne_of_lt (Nat.lt_of_lt_of_le RN.lt hq))
        (try have ngWgD := Nat.ne_of_lt (Nat.lt_of_lt_of_le RV.lt hq))
        (try have nFgD := FR.ne RF hq)
        clear hq
        (try have hb := undrew hb)
        (try replace RN := RN.below hb)
        (try replace RV := RV.below hb)
        (try replace RF := FR.below_ RF hb)
        replace HSF := HSF.next hb
        replace G1 := G1.below hb G1.lt
        clear HY
        have HY := cells5 G1
        replace HB0 := btr HB0 HB0.size hb
        replace HS := Nat.le_trans HS hb.size
        refine hK.out _ _ ?_ (fun hNew => ?_)
        · (first | exact HY | assumption)
        clear hK K hHeld
        have hHeld := hNew
        clear hNew
        try simp only [Act.put, pz1, pz2, pz3]
        refine wpAnyH_ready (rs := [2, 5]) (by kernel_rfl) (by simp) ?_
        refine (AllReadyH.cons (o := ⟨some 13, .call { callee := .builtin .append, args := #[.const (.slice none 0 0), .tmp 12], argTypes := #[24, 24] }, 24, "ref.go:30", #[⟨1, .data⟩], none⟩) rfl (fun K hK => ?_) (AllReadyH.cons (o := ⟨some 16, .makeSlice 92 (.tmp 15) (.tmp 15), 92, "ref.go:30", #[⟨4, .data⟩, ⟨4, .data⟩], none⟩) rfl (fun K hK => ?_) AllReadyH.nil))
        · refine wp_appF0 _ rfl rfl fs A c0 rfl HSF hfl ?_
          intro wN AF cf RF hq hb
          have qF := FGe.le hq HS
          (try have nFgN := FNe.fresh hq RN.lt)
          (try have nFgW := FNe.fresh hq RV.lt)
          (try have nFgD := FNe.fresh hq RD.lt)
          clear hq
          (try have hb := undrew hb)
          (try replace RN := RN.below hb)
          (try replace RV := RV.below hb)
          (try replace RD := RD.below hb)
          replace HSF := HSF.next hb
          replace G1 := G1.below hb G1.lt
          clear HY
          have HY := cells5 G1
          replace HB0 := btr HB0 HB0.size hb
          replace HS := Nat.le_trans HS hb.size
          refine hK.out _ _ ?_ (fun hNew => ?_)
          · (first | exact HY | assumption)
          clear hK K hHeld
          have hHeld := hNew
          clear hNew
          try simp only [Act.put, pz1, pz2, pz3]
          refine wpAnyH_ready (rs := [5]) (by kernel_rfl) (by simp) ?_
          refine AllReadyH.cons (o := ⟨some 16, .makeSlice 92 (.tmp 15) (.tmp 15), 92, "ref.go:30", #[⟨4, .data⟩, ⟨4, .data⟩], none⟩) rfl (fun K hK => ?_) AllReadyH.nil
          refine wp_makeI _ _ rfl a NB rfl rfl hNB (by omega) ?_
          intro wN gN RN hq hb
          have qgN := Nat.le_trans HS hq
          (try have ngWgN := Nat.ne_of_lt (Nat.lt_of_lt_of_le RV.lt hq))
          (try have ngDgN := Nat.ne_of_lt (Nat.lt_of_lt_of_le RD.lt hq))
          (try have nFgN := FR.ne RF hq)
          clear hq
          (try have hb := undrew hb)
          (try replace RV := RV.below hb)
          (try replace RD := RD.below hb)
          (try replace RF := FR.below_ RF hb)
          replace HSF := HSF.next hb
          replace G1 := G1.below hb G1.lt
          clear HY
          have HY := cells5 G1
          replace HB0 := btr HB0 HB0.size hb
          replace HS := Nat.le_trans HS hb.size
          refine hK.out _ _ ?_ (fun hNew => ?_)
          · (first | exact HY | assumption)
          clear hK K hHeld
          have hHeld := hNew
          clear hNew
          try simp only [Act.put, pz1, pz2, pz3]
          refine tk 12 ⟨some 23, .build 94 #[(0, .tmp 11), (1, .tmp 13), (3, .tmp 16), (4, .tmp 19), (5, .tmp 22)], 94, "ref.go:30", #[⟨0, .data⟩, ⟨2, .data⟩, ⟨5, .data⟩, ⟨8, .data⟩, ⟨11, .data⟩], none⟩ ?_; try simp only [Act.put, pz1, pz2, pz3]
          refine wpAnyH_ready (rs := [13]) (by kernel_rfl) (by simp) ?_
          refine AllReadyH.cons (o := ⟨some 24, .box 94 (.tmp 23), 30, "ref.go:30", #[⟨12, .data⟩], none⟩) rfl (fun K hK => ?_) AllReadyH.nil
          refine wp_boxR _ rfl rfl ?_
          intro wN m BM hq hb
          have qm := Nat.le_trans HS hq
          have nm1 : m ≠ gN := Nat.ne_of_gt (Nat.lt_of_lt_of_le RN.lt hq)
          have nm2 : m ≠ gW := Nat.ne_of_gt (Nat.lt_of_lt_of_le RV.lt hq)
          have nm3 : m ≠ gD := Nat.ne_of_gt (Nat.lt_of_lt_of_le RD.lt hq)
          have nFm := FR.ne RF hq
          (try have hb := undrew hb)
          (try replace RN := RN.below hb)
          (try replace RV := RV.below hb)
          (try replace RD := RD.below hb)
          (try replace RF := FR.below_ RF hb)
          replace HSF := HSF.next hb
          replace G1 := G1.below hb G1.lt
          clear HY
          have HY := cells5 G1
          replace HB0 := btr HB0 HB0.size hb
          replace HS := Nat.le_trans HS hb.size
          refine hK.out _ _ ?_ (fun hNew => ?_)
          · (first | exact HY | assumption)
          clear hK K hHeld
          have hHeld := hNew
          clear hNew
          try simp only [Act.put, pz1, pz2, pz3]
          refine tk 14 ⟨some 5, .assign (.tmp 24), 30, "ref.go:30", #[⟨13, .data⟩, ⟨2, .chain⟩, ⟨0, .phase⟩, ⟨1, .phase⟩, ⟨2, .phase⟩, ⟨3, .phase⟩, ⟨4, .phase⟩, ⟨5, .phase⟩, ⟨6, .phase⟩, ⟨7, .phase⟩, ⟨8, .phase⟩, ⟨9, .phase⟩, ⟨10, .phase⟩, ⟨11, .phase⟩, ⟨12, .phase⟩, ⟨13, .phase⟩], none⟩ ?_; try simp only [Act.put, pz1, pz2, pz3]
          refine wpAnyH_done (by kernel_rfl) ?_ _
          refine NoPanic.normal ?_
          go_wp2_with fail
          go_meet
          exact ⟨m, gN, gW, gD, AF, cf, rfl, NewL.start BM RN RV RD RF ⟨nm1, nm2, nm3, (by first | exact ngNgW | exact ngWgN.symm), (by first | exact ngNgD | exact ngDgN.symm), (by first | exact ngWgD | exact ngDgW.symm)⟩ ⟨nFm, nFgN, nFgW, nFgD⟩ ⟨by omega, by omega, by omega, by omega⟩ G1 HB0 qF⟩
        · refine wp_makeI _ _ rfl a NB rfl rfl hNB (by omega) ?_
          intro wN gN RN hq hb
          have qgN := Nat.le_trans HS hq
          (try have ngWgN := Nat.ne_of_lt (Nat.lt_of_lt_of_le RV.lt hq))
          (try have ngDgN := Nat.ne_of_lt (Nat.lt_of_lt_of_le RD.lt hq))
          (try have nFgN := FR.ne RF hq)
          clear hq
          (try have hb := undrew hb)
          (try replace RV := RV.below hb)
          (try replace RD := RD.below hb)
          (try replace RF := FR.below_ RF hb)
          replace HSF := HSF.next hb
          replace G1 := G1.below hb G1.lt
          clear HY
          have HY := cells5 G1
          replace HB0 := btr HB0 HB0.size hb
          replace HS := Nat.le_trans HS hb.size
          refine hK.out _ _ ?_ (fun hNew => ?_)
          · (first | exact HY | assumption)
          clear hK K hHeld
          have hHeld := hNew
          clear hNew
          try simp only [Act.put, pz1, pz2, pz3]
          refine wpAnyH_ready (rs := [2]) (by kernel_rfl) (by simp) ?_
          refine AllReadyH.cons (o := ⟨some 13, .call { callee := .builtin .append, args := #[.const (.slice none 0 0), .tmp 12], argTypes := #[24, 24] }, 24, "ref.go:30", #[⟨1, .data⟩], none⟩) rfl (fun K hK => ?_) AllReadyH.nil
          refine wp_appF0 _ rfl rfl fs A c0 rfl HSF hfl ?_
          intro wN AF cf RF hq hb
          have qF := FGe.le hq HS
          (try have nFgN := FNe.fresh hq RN.lt)
          (try have nFgW := FNe.fresh hq RV.lt)
          (try have nFgD := FNe.fresh hq RD.lt)
          clear hq
          (try have hb := undrew hb)
          (try replace RN := RN.below hb)
          (try replace RV := RV.below hb)
          (try replace RD := RD.below hb)
          replace HSF := HSF.next hb
          replace G1 := G1.below hb G1.lt
          clear HY
          have HY := cells5 G1
          replace HB0 := btr HB0 HB0.size hb
          replace HS := Nat.le_trans HS hb.size
          refine hK.out _ _ ?_ (fun hNew => ?_)
          · (first | exact HY | assumption)
          clear hK K hHeld
          have hHeld := hNew
          clear hNew
          try simp only [Act.put, pz1, pz2, pz3]
          refine tk 12 ⟨some 23, .build 94 #[(0, .tmp 11), (1, .tmp 13), (3, .tmp 16), (4, .tmp 19), (5, .tmp 22)], 94, "ref.go:30", #[⟨0, .data⟩, ⟨2, .data⟩, ⟨5, .data⟩, ⟨8, .data⟩, ⟨11, .data⟩], none⟩ ?_; try simp only [Act.put, pz1, pz2, pz3]
          refine wpAnyH_ready (rs := [13]) (by kernel_rfl) (by simp) ?_
          refine AllReadyH.cons (o := ⟨some 24, .box 94 (.tmp 23), 30, "ref.go:30", #[⟨12, .data⟩], none⟩) rfl (fun K hK => ?_) AllReadyH.nil
          refine wp_boxR _ rfl rfl ?_
          intro wN m BM hq hb
          have qm := Nat.le_trans HS hq
          have nm1 : m ≠ gN := Nat.ne_of_gt (Nat.lt_of_lt_of_le RN.lt hq)
          have nm2 : m ≠ gW := Nat.ne_of_gt (Nat.lt_of_lt_of_le RV.lt hq)
          have nm3 : m ≠ gD := Nat.ne_of_gt (Nat.lt_of_lt_of_le RD.lt hq)
          have nFm := FR.ne RF hq
          (try have hb := undrew hb)
          (try replace RN := RN.below hb)
          (try replace RV := RV.below hb)
          (try replace RD := RD.below hb)
          (try replace RF := FR.below_ RF hb)
          replace HSF := HSF.next hb
          replace G1 := G1.below hb G1.lt
          clear HY
          have HY := cells5 G1
          replace HB0 := btr HB0 HB0.size hb
          replace HS := Nat.le_trans HS hb.size
          refine hK.out _ _ ?_ (fun hNew => ?_)
          · (first | exact HY | assumption)
          clear hK K hHeld
          have hHeld := hNew
          clear hNew
          try simp only [Act.put, pz1, pz2, pz3]
          refine tk 14 ⟨some 5, .assign (.tmp 24), 30, "ref.go:30", #[⟨13, .data⟩, ⟨2, .chain⟩, ⟨0, .phase⟩, ⟨1, .phase⟩, ⟨2, .phase⟩, ⟨3, .phase⟩, ⟨4, .phase⟩, ⟨5, .phase⟩, ⟨6, .phase⟩, ⟨7, .phase⟩, ⟨8, .phase⟩, ⟨9, .phase⟩, ⟨10, .phase⟩, ⟨11, .phase⟩, ⟨12, .phase⟩, ⟨13, .phase⟩], none⟩ ?_; try simp only [Act.put, pz1, pz2, pz3]
          refine wpAnyH_done (by kernel_rfl) ?_ _
          refine NoPanic.normal ?_
          go_wp2_with fail
          go_meet
          exact ⟨m, gN, gW, gD, AF, cf, rfl, NewL.start BM RN RV RD RF ⟨nm1, nm2, nm3, (by first | exact ngNgW | exact ngWgN.symm), (by first | exact ngNgD | exact ngDgN.symm), (by first | exact ngWgD | exact ngDgW.symm)⟩ ⟨nFm, nFgN, nFgW, nFgD⟩ ⟨by omega, by omega, by omega, by omega⟩ G1 HB0 qF⟩
    · refine wp_makeI _ _ rfl a NB rfl rfl hNB (by omega) ?_
      intro wN gD RD hq hb
      have qgD := Nat.le_trans HS hq
      (try have ngNgD := Nat.ne_of_lt (Nat.lt_of_lt_of_le RN.lt hq))
      (try have ngWgD := Nat.ne_of_lt (Nat.lt_of_lt_of_le RV.lt hq))
      (try have nFgD := FR.ne RF hq)
      clear hq
      (try have hb := undrew hb)
      (try replace RN := RN.below hb)
      (try replace RV := RV.below hb)
      (try replace RF := FR.below_ RF hb)
      replace HSF := HSF.next hb
      replace G1 := G1.below hb G1.lt
      clear HY
      have HY := cells5 G1
      replace HB0 := btr HB0 HB0.size hb
      replace HS := Nat.le_trans HS hb.size
      refine hK.out _ _ ?_ (fun hNew => ?_)
      · (first | exact HY | assumption)
      clear hK K hHeld
      have hHeld := hNew
      clear hNew
      try simp only [Act.put, pz1, pz2, pz3]
      refine wpAnyH_ready (rs := [2, 5, 8]) (by kernel_rfl) (by simp) ?_
      refine (AllReadyH.cons (o := ⟨some 13, .call { callee := .builtin .append, args := #[.const (.slice none 0 0), .tmp 12], argTypes := #[24, 24] }, 24, "ref.go:30", #[⟨1, .data⟩], none⟩) rfl (fun K hK => ?_) (AllReadyH.cons (o := ⟨some 16, .makeSlice 92 (.tmp 15) (.tmp 15), 92, "ref.go:30", #[⟨4, .data⟩, ⟨4, .data⟩], none⟩) rfl (fun K hK => ?_) (AllReadyH.cons (o := ⟨some 19, .makeSlice 92 (.tmp 18) (.tmp 18), 92, "ref.go:30", #[⟨7, .data⟩, ⟨7, .data⟩], none⟩) rfl (fun K hK => ?_) AllReadyH.nil)))
      · refine wp_appF0 _ rfl rfl fs A c0 rfl HSF hfl ?_
        intro wN AF cf RF hq hb
        have qF := FGe.le hq HS
        (try have nFgN := FNe.fresh hq RN.lt)
        (try have nFgW := FNe.fresh hq RV.lt)
        (try have nFgD := FNe.fresh hq RD.lt)
        clear hq
        (try have hb := undrew hb)
        (try replace RN := RN.below hb)
        (try replace RV := RV.below hb)
        (try replace RD := RD.below hb)
        replace HSF := HSF.next hb
        replace G1 := G1.below hb G1.lt
        clear HY
        have HY := cells5 G1
        replace HB0 := btr HB0 HB0.size hb
        replace HS := Nat.le_trans HS hb.size
        refine hK.out _ _ ?_ (fun hNew => ?_)
        · (first | exact HY | assumption)
        clear hK K hHeld
        have hHeld := hNew
        clear hNew
        try simp only [Act.put, pz1, pz2, pz3]
        refine wpAnyH_ready (rs := [5, 8]) (by kernel_rfl) (by simp) ?_
        refine (AllReadyH.cons (o := ⟨some 16, .makeSlice 92 (.tmp 15) (.tmp 15), 92, "ref.go:30", #[⟨4, .data⟩, ⟨4, .data⟩], none⟩) rfl (fun K hK => ?_) (AllReadyH.cons (o := ⟨some 19, .makeSlice 92 (.tmp 18) (.tmp 18), 92, "ref.go:30", #[⟨7, .data⟩, ⟨7, .data⟩], none⟩) rfl (fun K hK => ?_) AllReadyH.nil))
        · refine wp_makeI _ _ rfl a NB rfl rfl hNB (by omega) ?_
          intro wN gN RN hq hb
          have qgN := Nat.le_trans HS hq
          (try have ngWgN := Nat.ne_of_lt (Nat.lt_of_lt_of_le RV.lt hq))
          (try have ngDgN := Nat.ne_of_lt (Nat.lt_of_lt_of_le RD.lt hq))
          (try have nFgN := FR.ne RF hq)
          clear hq
          (try have hb := undrew hb)
          (try replace RV := RV.below hb)
          (try replace RD := RD.below hb)
          (try replace RF := FR.below_ RF hb)
          replace HSF := HSF.next hb
          replace G1 := G1.below hb G1.lt
          clear HY
          have HY := cells5 G1
          replace HB0 := btr HB0 HB0.size hb
          replace HS := Nat.le_trans HS hb.size
          refine hK.out _ _ ?_ (fun hNew => ?_)
          · (first | exact HY | assumption)
          clear hK K hHeld
          have hHeld := hNew
          clear hNew
          try simp only [Act.put, pz1, pz2, pz3]
          refine wpAnyH_ready (rs := [8]) (by kernel_rfl) (by simp) ?_
          refine AllReadyH.cons (o := ⟨some 19, .makeSlice 92 (.tmp 18) (.tmp 18), 92, "ref.go:30", #[⟨7, .data⟩, ⟨7, .data⟩], none⟩) rfl (fun K hK => ?_) AllReadyH.nil
          refine wp_makeI _ _ rfl a NB rfl rfl hNB (by omega) ?_
          intro wN gW RV hq hb
          have qgW := Nat.le_trans HS hq
          (try have ngNgW := Nat.ne_of_lt (Nat.lt_of_lt_of_le RN.lt hq))
          (try have ngDgW := Nat.ne_of_lt (Nat.lt_of_lt_of_le RD.lt hq))
          (try have nFgW := FR.ne RF hq)
          clear hq
          (try have hb := undrew hb)
          (try replace RN := RN.below hb)
          (try replace RD := RD.below hb)
          (try replace RF := FR.below_ RF hb)
          replace HSF := HSF.next hb
          replace G1 := G1.below hb G1.lt
          clear HY
          have HY := cells5 G1
          replace HB0 := btr HB0 HB0.size hb
          replace HS := Nat.le_trans HS hb.size
          refine hK.out _ _ ?_ (fun hNew => ?_)
          · (first | exact HY | assumption)
          clear hK K hHeld
          have hHeld := hNew
          clear hNew
          try simp only [Act.put, pz1, pz2, pz3]
          refine tk 12 ⟨some 23, .build 94 #[(0, .tmp 11), (1, .tmp 13), (3, .tmp 16), (4, .tmp 19), (5, .tmp 22)], 94, "ref.go:30", #[⟨0, .data⟩, ⟨2, .data⟩, ⟨5, .data⟩, ⟨8, .data⟩, ⟨11, .data⟩], none⟩ ?_; try simp only [Act.put, pz1, pz2, pz3]
          refine wpAnyH_ready (rs := [13]) (by kernel_rfl) (by simp) ?_
          refine AllReadyH.cons (o := ⟨some 24, .box 94 (.tmp 23), 30, "ref.go:30", #[⟨12, .data⟩], none⟩) rfl (fun K hK => ?_) AllReadyH.nil
          refine wp_boxR _ rfl rfl ?_
          intro wN m BM hq hb
          have qm := Nat.le_trans HS hq
          have nm1 : m ≠ gN := Nat.ne_of_gt (Nat.lt_of_lt_of_le RN.lt hq)
          have nm2 : m ≠ gW := Nat.ne_of_gt (Nat.lt_of_lt_of_le RV.lt hq)
          have nm3 : m ≠ gD := Nat.ne_of_gt (Nat.lt_of_lt_of_le RD.lt hq)
          have nFm := FR.ne RF hq
          (try have hb := undrew hb)
          (try replace RN := RN.below hb)
          (try replace RV := RV.below hb)
          (try replace RD := RD.below hb)
          (try replace RF := FR.below_ RF hb)
          replace HSF := HSF.next hb
          replace G1 := G1.below hb G1.lt
          clear HY
          have HY := cells5 G1
          replace HB0 := btr HB0 HB0.size hb
          replace HS := Nat.le_trans HS hb.size
          refine hK.out _ _ ?_ (fun hNew => ?_)
          · (first | exact HY | assumption)
          clear hK K hHeld
          have hHeld := hNew
          clear hNew
          try simp only [Act.put, pz1, pz2, pz3]
          refine tk 14 ⟨some 5, .assign (.tmp 24), 30, "ref.go:30", #[⟨13, .data⟩, ⟨2, .chain⟩, ⟨0, .phase⟩, ⟨1, .phase⟩, ⟨2, .phase⟩, ⟨3, .phase⟩, ⟨4, .phase⟩, ⟨5, .phase⟩, ⟨6, .phase⟩, ⟨7, .phase⟩, ⟨8, .phase⟩, ⟨9, .phase⟩, ⟨10, .phase⟩, ⟨11, .phase⟩, ⟨12, .phase⟩, ⟨13, .phase⟩], none⟩ ?_; try simp only [Act.put, pz1, pz2, pz3]
          refine wpAnyH_done (by kernel_rfl) ?_ _
          refine NoPanic.normal ?_
          go_wp2_with fail
          go_meet
          exact ⟨m, gN, gW, gD, AF, cf, rfl, NewL.start BM RN RV RD RF ⟨nm1, nm2, nm3, (by first | exact ngNgW | exact ngWgN.symm), (by first | exact ngNgD | exact ngDgN.symm), (by first | exact ngWgD | exact ngDgW.symm)⟩ ⟨nFm, nFgN, nFgW, nFgD⟩ ⟨by omega, by omega, by omega, by omega⟩ G1 HB0 qF⟩
        · refine wp_makeI _ _ rfl a NB rfl rfl hNB (by omega) ?_
          intro wN gW RV hq hb
          have qgW := Nat.le_trans HS hq
          (try have ngNgW := Nat.ne_of_lt (Nat.lt_of_lt_of_le RN.lt hq))
          (try have ngDgW := Nat.ne_of_lt (Nat.lt_of_lt_of_le RD.lt hq))
          (try have nFgW := FR.ne RF hq)
          clear hq
          (try have hb := undrew hb)
          (try replace RN := RN.below hb)
          (try replace RD := RD.below hb)
          (try replace RF := FR.below_ RF hb)
          replace HSF := HSF.next hb
          replace G1 := G1.below hb G1.lt
          clear HY
          have HY := cells5 G1
          replace HB0 := btr HB0 HB0.size hb
          replace HS := Nat.le_trans HS hb.size
          refine hK.out _ _ ?_ (fun hNew => ?_)
          · (first | exact HY | assumption)
          clear hK K hHeld
          have hHeld := hNew
          clear hNew
          try simp only [Act.put, pz1, pz2, pz3]
          refine wpAnyH_ready (rs := [5]) (by kernel_rfl) (by simp) ?_
          refine AllReadyH.cons (o := ⟨some 16, .makeSlice 92 (.tmp 15) (.tmp 15), 92, "ref.go:30", #[⟨4, .data⟩, ⟨4, .data⟩], none⟩) rfl (fun K hK => ?_) AllReadyH.nil
          refine wp_makeI _ _ rfl a NB rfl rfl hNB (by omega) ?_
          intro wN gN RN hq hb
          have qgN := Nat.le_trans HS hq
          (try have ngWgN := Nat.ne_of_lt (Nat.lt_of_lt_of_le RV.lt hq))
          (try have ngDgN := Nat.ne_of_lt (Nat.lt_of_lt_of_le RD.lt hq))
          (try have nFgN := FR.ne RF hq)
          clear hq
          (try have hb := undrew hb)
          (try replace RV := RV.below hb)
          (try replace RD := RD.below hb)
          (try replace RF := FR.below_ RF hb)
          replace HSF := HSF.next hb
          replace G1 := G1.below hb G1.lt
          clear HY
          have HY := cells5 G1
          replace HB0 := btr HB0 HB0.size hb
          replace HS := Nat.le_trans HS hb.size
          refine hK.out _ _ ?_ (fun hNew => ?_)
          · (first | exact HY | assumption)
          clear hK K hHeld
          have hHeld := hNew
          clear hNew
          try simp only [Act.put, pz1, pz2, pz3]
          refine tk 12 ⟨some 23, .build 94 #[(0, .tmp 11), (1, .tmp 13), (3, .tmp 16), (4, .tmp 19), (5, .tmp 22)], 94, "ref.go:30", #[⟨0, .data⟩, ⟨2, .data⟩, ⟨5, .data⟩, ⟨8, .data⟩, ⟨11, .data⟩], none⟩ ?_; try simp only [Act.put, pz1, pz2, pz3]
          refine wpAnyH_ready (rs := [13]) (by kernel_rfl) (by simp) ?_
          refine AllReadyH.cons (o := ⟨some 24, .box 94 (.tmp 23), 30, "ref.go:30", #[⟨12, .data⟩], none⟩) rfl (fun K hK => ?_) AllReadyH.nil
          refine wp_boxR _ rfl rfl ?_
          intro wN m BM hq hb
          have qm := Nat.le_trans HS hq
          have nm1 : m ≠ gN := Nat.ne_of_gt (Nat.lt_of_lt_of_le RN.lt hq)
          have nm2 : m ≠ gW := Nat.ne_of_gt (Nat.lt_of_lt_of_le RV.lt hq)
          have nm3 : m ≠ gD := Nat.ne_of_gt (Nat.lt_of_lt_of_le RD.lt hq)
          have nFm := FR.ne RF hq
          (try have hb := undrew hb)
          (try replace RN := RN.below hb)
          (try replace RV := RV.below hb)
          (try replace RD := RD.below hb)
          (try replace RF := FR.below_ RF hb)
          replace HSF := HSF.next hb
          replace G1 := G1.below hb G1.lt
          clear HY
          have HY := cells5 G1
          replace HB0 := btr HB0 HB0.size hb
          replace HS := Nat.le_trans HS hb.size
          refine hK.out _ _ ?_ (fun hNew => ?_)
          · (first | exact HY | assumption)
          clear hK K hHeld
          have hHeld := hNew
          clear hNew
          try simp only [Act.put, pz1, pz2, pz3]
          refine tk 14 ⟨some 5, .assign (.tmp 24), 30, "ref.go:30", #[⟨13, .data⟩, ⟨2, .chain⟩, ⟨0, .phase⟩, ⟨1, .phase⟩, ⟨2, .phase⟩, ⟨3, .phase⟩, ⟨4, .phase⟩, ⟨5, .phase⟩, ⟨6, .phase⟩, ⟨7, .phase⟩, ⟨8, .phase⟩, ⟨9, .phase⟩, ⟨10, .phase⟩, ⟨11, .phase⟩, ⟨12, .phase⟩, ⟨13, .phase⟩], none⟩ ?_; try simp only [Act.put, pz1, pz2, pz3]
          refine wpAnyH_done (by kernel_rfl) ?_ _
          refine NoPanic.normal ?_
          go_wp2_with fail
          go_meet
          exact ⟨m, gN, gW, gD, AF, cf, rfl, NewL.start BM RN RV RD RF ⟨nm1, nm2, nm3, (by first | exact ngNgW | exact ngWgN.symm), (by first | exact ngNgD | exact ngDgN.symm), (by first | exact ngWgD | exact ngDgW.symm)⟩ ⟨nFm, nFgN, nFgW, nFgD⟩ ⟨by omega, by omega, by omega, by omega⟩ G1 HB0 qF⟩
      · refine wp_makeI _ _ rfl a NB rfl rfl hNB (by omega) ?_
        intro wN gN RN hq hb
        have qgN := Nat.le_trans HS hq
        (try have ngWgN := Nat.ne_of_lt (Nat.lt_of_lt_of_le RV.lt hq))
        (try have ngDgN := Nat.ne_of_lt (Nat.lt_of_lt_of_le RD.lt hq))
        (try have nFgN := FR.ne RF hq)
        clear hq
        (try have hb := undrew hb)
        (try replace RV := RV.below hb)
        (try replace RD := RD.below hb)
        (try replace RF := FR.below_ RF hb)
        replace HSF := HSF.next hb
        replace G1 := G1.below hb G1.lt
        clear HY
        have HY := cells5 G1
        replace HB0 := btr HB0 HB0.size hb
        replace HS := Nat.le_trans HS hb.size
        refine hK.out _ _ ?_ (fun hNew => ?_)
        · (first | exact HY | assumption)
        clear hK K hHeld
        have hHeld := hNew
        clear hNew
        try simp only [Act.put, pz1, pz2, pz3]
        refine wpAnyH_ready (rs := [2, 8]) (by kernel_rfl) (by simp) ?_
        refine (AllReadyH.cons (o := ⟨some 13, .call { callee := .builtin .append, args := #[.const (.slice none 0 0), .tmp 12], argTypes := #[24, 24] }, 24, "ref.go:30", #[⟨1, .data⟩], none⟩) rfl (fun K hK => ?_) (AllReadyH.cons (o := ⟨some 19, .makeSlice 92 (.tmp 18) (.tmp 18), 92, "ref.go:30", #[⟨7, .data⟩, ⟨7, .data⟩], none⟩) rfl (fun K hK => ?_) AllReadyH.nil))
        · refine wp_appF0 _ rfl rfl fs A c0 rfl HSF hfl ?_
          intro wN AF cf RF hq hb
          have qF := FGe.le hq HS
          (try have nFgN := FNe.fresh hq RN.lt)
          (try have nFgW := FNe.fresh hq RV.lt)
          (try have nFgD := FNe.fresh hq RD.lt)
          clear hq
          (try have hb := undrew hb)
          (try replace RN := RN.below hb)
          (try replace RV := RV.below hb)
          (try replace RD := RD.below hb)
          replace HSF := HSF.next hb
          replace G1 := G1.below hb G1.lt
          clear HY
          have HY := cells5 G1
          replace HB0 := btr HB0 HB0.size hb
          replace HS := Nat.le_trans HS hb.size
          refine hK.out _ _ ?_ (fun hNew => ?_)
          · (first | exact HY | assumption)
          clear hK K hHeld
          have hHeld := hNew
          clear hNew
          try simp only [Act.put, pz1, pz2, pz3]
          refine wpAnyH_ready (rs := [8]) (by kernel_rfl) (by simp) ?_
          refine AllReadyH.cons (o := ⟨some 19, .makeSlice 92 (.tmp 18) (.tmp 18), 92, "ref.go:30", #[⟨7, .data⟩, ⟨7, .data⟩], none⟩) rfl (fun K hK => ?_) AllReadyH.nil
          refine wp_makeI _ _ rfl a NB rfl rfl hNB (by omega) ?_
          intro wN gW RV hq hb
          have qgW := Nat.le_trans HS hq
          (try have ngNgW := Nat.ne_of_lt (Nat.lt_of_lt_of_le RN.lt hq))
          (try have ngDgW := Nat.ne_of_lt (Nat.lt_of_lt_of_le RD.lt hq))
          (try have nFgW := FR.ne RF hq)
          clear hq
          (try have hb := undrew hb)
          (try replace RN := RN.below hb)
          (try replace RD := RD.below hb)
          (try replace RF := FR.below_ RF hb)
          replace HSF := HSF.next hb
          replace G1 := G1.below hb G1.lt
          clear HY
          have HY := cells5 G1
          replace HB0 := btr HB0 HB0.size hb
          replace HS := Nat.le_trans HS hb.size
          refine hK.out _ _ ?_ (fun hNew => ?_)
          · (first | exact HY | assumption)
          clear hK K hHeld
          have hHeld := hNew
          clear hNew
          try simp only [Act.put, pz1, pz2, pz3]
          refine tk 12 ⟨some 23, .build 94 #[(0, .tmp 11), (1, .tmp 13), (3, .tmp 16), (4, .tmp 19), (5, .tmp 22)], 94, "ref.go:30", #[⟨0, .data⟩, ⟨2, .data⟩, ⟨5, .data⟩, ⟨8, .data⟩, ⟨11, .data⟩], none⟩ ?_; try simp only [Act.put, pz1, pz2, pz3]
          refine wpAnyH_ready (rs := [13]) (by kernel_rfl) (by simp) ?_
          refine AllReadyH.cons (o := ⟨some 24, .box 94 (.tmp 23), 30, "ref.go:30", #[⟨12, .data⟩], none⟩) rfl (fun K hK => ?_) AllReadyH.nil
          refine wp_boxR _ rfl rfl ?_
          intro wN m BM hq hb
          have qm := Nat.le_trans HS hq
          have nm1 : m ≠ gN := Nat.ne_of_gt (Nat.lt_of_lt_of_le RN.lt hq)
          have nm2 : m ≠ gW := Nat.ne_of_gt (Nat.lt_of_lt_of_le RV.lt hq)
          have nm3 : m ≠ gD := Nat.ne_of_gt (Nat.lt_of_lt_of_le RD.lt hq)
          have nFm := FR.ne RF hq
          (try have hb := undrew hb)
          (try replace RN := RN.below hb)
          (try replace RV := RV.below hb)
          (try replace RD := RD.below hb)
          (try replace RF := FR.below_ RF hb)
          replace HSF := HSF.next hb
          replace G1 := G1.below hb G1.lt
          clear HY
          have HY := cells5 G1
          replace HB0 := btr HB0 HB0.size hb
          replace HS := Nat.le_trans HS hb.size
          refine hK.out _ _ ?_ (fun hNew => ?_)
          · (first | exact HY | assumption)
          clear hK K hHeld
          have hHeld := hNew
          clear hNew
          try simp only [Act.put, pz1, pz2, pz3]
          refine tk 14 ⟨some 5, .assign (.tmp 24), 30, "ref.go:30", #[⟨13, .data⟩, ⟨2, .chain⟩, ⟨0, .phase⟩, ⟨1, .phase⟩, ⟨2, .phase⟩, ⟨3, .phase⟩, ⟨4, .phase⟩, ⟨5, .phase⟩, ⟨6, .phase⟩, ⟨7, .phase⟩, ⟨8, .phase⟩, ⟨9, .phase⟩, ⟨10, .phase⟩, ⟨11, .phase⟩, ⟨12, .phase⟩, ⟨13, .phase⟩], none⟩ ?_; try simp only [Act.put, pz1, pz2, pz3]
          refine wpAnyH_done (by kernel_rfl) ?_ _
          refine NoPanic.normal ?_
          go_wp2_with fail
          go_meet
          exact ⟨m, gN, gW, gD, AF, cf, rfl, NewL.start BM RN RV RD RF ⟨nm1, nm2, nm3, (by first | exact ngNgW | exact ngWgN.symm), (by first | exact ngNgD | exact ngDgN.symm), (by first | exact ngWgD | exact ngDgW.symm)⟩ ⟨nFm, nFgN, nFgW, nFgD⟩ ⟨by omega, by omega, by omega, by omega⟩ G1 HB0 qF⟩
        · refine wp_makeI _ _ rfl a NB rfl rfl hNB (by omega) ?_
          intro wN gW RV hq hb
          have qgW := Nat.le_trans HS hq
          (try have ngNgW := Nat.ne_of_lt (Nat.lt_of_lt_of_le RN.lt hq))
          (try have ngDgW := Nat.ne_of_lt (Nat.lt_of_lt_of_le RD.lt hq))
          (try have nFgW := FR.ne RF hq)
          clear hq
          (try have hb := undrew hb)
          (try replace RN := RN.below hb)
          (try replace RD := RD.below hb)
          (try replace RF := FR.below_ RF hb)
          replace HSF := HSF.next hb
          replace G1 := G1.below hb G1.lt
          clear HY
          have HY := cells5 G1
          replace HB0 := btr HB0 HB0.size hb
          replace HS := Nat.le_trans HS hb.size
          refine hK.out _ _ ?_ (fun hNew => ?_)
          · (first | exact HY | assumption)
          clear hK K hHeld
          have hHeld := hNew
          clear hNew
          try simp only [Act.put, pz1, pz2, pz3]
          refine wpAnyH_ready (rs := [2]) (by kernel_rfl) (by simp) ?_
          refine AllReadyH.cons (o := ⟨some 13, .call { callee := .builtin .append, args := #[.const (.slice none 0 0), .tmp 12], argTypes := #[24, 24] }, 24, "ref.go:30", #[⟨1, .data⟩], none⟩) rfl (fun K hK => ?_) AllReadyH.nil
          refine wp_appF0 _ rfl rfl fs A c0 rfl HSF hfl ?_
          intro wN AF cf RF hq hb
          have qF := FGe.le hq HS
          (try have nFgN := FNe.fresh hq RN.lt)
          (try have nFgW := FNe.fresh hq RV.lt)
          (try have nFgD := FNe.fresh hq RD.lt)
          clear hq
          (try have hb := undrew hb)
          (try replace RN := RN.below hb)
          (try replace RV := RV.below hb)
          (try replace RD := RD.below hb)
          replace HSF := HSF.next hb
          replace G1 := G1.below hb G1.lt
          clear HY
          have HY := cells5 G1
          replace HB0 := btr HB0 HB0.size hb
          replace HS := Nat.le_trans HS hb.size
          refine hK.out _ _ ?_ (fun hNew => ?_)
          · (first | exact HY | assumption)
          clear hK K hHeld
          have hHeld := hNew
          clear hNew
          try simp only [Act.put, pz1, pz2, pz3]
          refine tk 12 ⟨some 23, .build 94 #[(0, .tmp 11), (1, .tmp 13), (3, .tmp 16), (4, .tmp 19), (5, .tmp 22)], 94, "ref.go:30", #[⟨0, .data⟩, ⟨2, .data⟩, ⟨5, .data⟩, ⟨8, .data⟩, ⟨11, .data⟩], none⟩ ?_; try simp only [Act.put, pz1, pz2, pz3]
          refine wpAnyH_ready (rs := [13]) (by kernel_rfl) (by simp) ?_
          refine AllReadyH.cons (o := ⟨some 24, .box 94 (.tmp 23), 30, "ref.go:30", #[⟨12, .data⟩], none⟩) rfl (fun K hK => ?_) AllReadyH.nil
          refine wp_boxR _ rfl rfl ?_
          intro wN m BM hq hb
          have qm := Nat.le_trans HS hq
          have nm1 : m ≠ gN := Nat.ne_of_gt (Nat.lt_of_lt_of_le RN.lt hq)
          have nm2 : m ≠ gW := Nat.ne_of_gt (Nat.lt_of_lt_of_le RV.lt hq)
          have nm3 : m ≠ gD := Nat.ne_of_gt (Nat.lt_of_lt_of_le RD.lt hq)
          have nFm := FR.ne RF hq
          (try have hb := undrew hb)
          (try replace RN := RN.below hb)
          (try replace RV := RV.below hb)
          (try replace RD := RD.below hb)
          (try replace RF := FR.below_ RF hb)
          replace HSF := HSF.next hb
          replace G1 := G1.below hb G1.lt
          clear HY
          have HY := cells5 G1
          replace HB0 := btr HB0 HB0.size hb
          replace HS := Nat.le_trans HS hb.size
          refine hK.out _ _ ?_ (fun hNew => ?_)
          · (first | exact HY | assumption)
          clear hK K hHeld
          have hHeld := hNew
          clear hNew
          try simp only [Act.put, pz1, pz2, pz3]
          refine tk 14 ⟨some 5, .assign (.tmp 24), 30, "ref.go:30", #[⟨13, .data⟩, ⟨2, .chain⟩, ⟨0, .phase⟩, ⟨1, .phase⟩, ⟨2, .phase⟩, ⟨3, .phase⟩, ⟨4, .phase⟩, ⟨5, .phase⟩, ⟨6, .phase⟩, ⟨7, .phase⟩, ⟨8, .phase⟩, ⟨9, .phase⟩, ⟨10, .phase⟩, ⟨11, .phase⟩, ⟨12, .phase⟩, ⟨13, .phase⟩], none⟩ ?_; try simp only [Act.put, pz1, pz2, pz3]
          refine wpAnyH_done (by kernel_rfl) ?_ _
          refine NoPanic.normal ?_
          go_wp2_with fail
          go_meet
          exact ⟨m, gN, gW, gD, AF, cf, rfl, NewL.start BM RN RV RD RF ⟨nm1, nm2, nm3, (by first | exact ngNgW | exact ngWgN.symm), (by first | exact ngNgD | exact ngDgN.symm), (by first | exact ngWgD | exact ngDgW.symm)⟩ ⟨nFm, nFgN, nFgW, nFgD⟩ ⟨by omega, by omega, by omega, by omega⟩ G1 HB0 qF⟩
      · refine wp_makeI _ _ rfl a NB rfl rfl hNB (by omega) ?_
        intro wN gW RV hq hb
        have qgW := Nat.le_trans HS hq
        (try have ngNgW := Nat.ne_of_lt (Nat.lt_of_lt_of_le RN.lt hq))
        (try have ngDgW := Nat.ne_of_lt (Nat.lt_of_lt_of_le RD.lt hq))
        (try have nFgW := FR.ne RF hq)
        clear hq
        (try have hb := undrew hb)
        (try replace RN := RN.below hb)
        (try replace RD := RD.below hb)
        (try replace RF := FR.below_ RF hb)
        replace HSF := HSF.next hb
        replace G1 := G1.below hb G1.lt
        clear HY
        have HY := cells5 G1
        replace HB0 := btr HB0 HB0.size hb
        replace HS := Nat.le_trans HS hb.size
        refine hK.out _ _ ?_ (fun hNew => ?_)
        · (first | exact HY | assumption)
        clear hK K hHeld
        have hHeld := hNew
        clear hNew
        try simp only [Act.put, pz1, pz2, pz3]
        refine wpAnyH_ready (rs := [2, 5]) (by kernel_rfl) (by simp) ?_
        refine (AllReadyH.cons (o := ⟨some 13, .call { callee := .builtin .append, args := #[.const (.slice none 0 0), .tmp 12], argTypes := #[24, 24] }, 24, "ref.go:30", #[⟨1, .data⟩], none⟩) rfl (fun K hK => ?_) (AllReadyH.cons (o := ⟨some 16, .makeSlice 92 (.tmp 15) (.tmp 15), 92, "ref.go:30", #[⟨4, .data⟩, ⟨4, .data⟩], none⟩) rfl (fun K hK => ?_) AllReadyH.nil))
        · refine wp_appF0 _ rfl rfl fs A c0 rfl HSF hfl ?_
          intro wN AF cf RF hq hb
          have qF := FGe.le hq HS
          (try have nFgN := FNe.fresh hq RN.lt)
          (try have nFgW := FNe.fresh hq RV.lt)
          (try have nFgD := FNe.fresh hq RD.lt)
          clear hq
          (try have hb := undrew hb)
          (try replace RN := RN.below hb)
          (try replace RV := RV.below hb)
          (try replace RD := RD.below hb)
          replace HSF := HSF.next hb
          replace G1 := G1.below hb G1.lt
          clear HY
          have HY := cells5 G1
          replace HB0 := btr HB0 HB0.size hb
          replace HS := Nat.le_trans HS hb.size
          refine hK.out _ _ ?_ (fun hNew => ?_)
          · (first | exact HY | assumption)
          clear hK K hHeld
          have hHeld := hNew
          clear hNew
          try simp only [Act.put, pz1, pz2, pz3]
          refine wpAnyH_ready (rs := [5]) (by kernel_rfl) (by simp) ?_
          refine AllReadyH.cons (o := ⟨some 16, .makeSlice 92 (.tmp 15) (.tmp 15), 92, "ref.go:30", #[⟨4, .data⟩, ⟨4, .data⟩], none⟩) rfl (fun K hK => ?_) AllReadyH.nil
          refine wp_makeI _ _ rfl a NB rfl rfl hNB (by omega) ?_
          intro wN gN RN hq hb
          have qgN := Nat.le_trans HS hq
          (try have ngWgN := Nat.ne_of_lt (Nat.lt_of_lt_of_le RV.lt hq))
          (try have ngDgN := Nat.ne_of_lt (Nat.lt_of_lt_of_le RD.lt hq))
          (try have nFgN := FR.ne RF hq)
          clear hq
          (try have hb := undrew hb)
          (try replace RV := RV.below hb)
          (try replace RD := RD.below hb)
          (try replace RF := FR.below_ RF hb)
          replace HSF := HSF.next hb
          replace G1 := G1.below hb G1.lt
          clear HY
          have HY := cells5 G1
          replace HB0 := btr HB0 HB0.size hb
          replace HS := Nat.le_trans HS hb.size
          refine hK.out _ _ ?_ (fun hNew => ?_)
          · (first | exact HY | assumption)
          clear hK K hHeld
          have hHeld := hNew
          clear hNew
          try simp only [Act.put, pz1, pz2, pz3]
          refine tk 12 ⟨some 23, .build 94 #[(0, .tmp 11), (1, .tmp 13), (3, .tmp 16), (4, .tmp 19), (5, .tmp 22)], 94, "ref.go:30", #[⟨0, .data⟩, ⟨2, .data⟩, ⟨5, .data⟩, ⟨8, .data⟩, ⟨11, .data⟩], none⟩ ?_; try simp only [Act.put, pz1, pz2, pz3]
          refine wpAnyH_ready (rs := [13]) (by kernel_rfl) (by simp) ?_
          refine AllReadyH.cons (o := ⟨some 24, .box 94 (.tmp 23), 30, "ref.go:30", #[⟨12, .data⟩], none⟩) rfl (fun K hK => ?_) AllReadyH.nil
          refine wp_boxR _ rfl rfl ?_
          intro wN m BM hq hb
          have qm := Nat.le_trans HS hq
          have nm1 : m ≠ gN := Nat.ne_of_gt (Nat.lt_of_lt_of_le RN.lt hq)
          have nm2 : m ≠ gW := Nat.ne_of_gt (Nat.lt_of_lt_of_le RV.lt hq)
          have nm3 : m ≠ gD := Nat.ne_of_gt (Nat.lt_of_lt_of_le RD.lt hq)
          have nFm := FR.ne RF hq
          (try have hb := undrew hb)
          (try replace RN := RN.below hb)
          (try replace RV := RV.below hb)
          (try replace RD := RD.below hb)
          (try replace RF := FR.below_ RF hb)
          replace HSF := HSF.next hb
          replace G1 := G1.below hb G1.lt
          clear HY
          have HY := cells5 G1
          replace HB0 := btr HB0 HB0.size hb
          replace HS := Nat.le_trans HS hb.size
          refine hK.out _ _ ?_ (fun hNew => ?_)
          · (first | exact HY | assumption)
          clear hK K hHeld
          have hHeld := hNew
          clear hNew
          try simp only [Act.put, pz1, pz2, pz3]
          refine tk 14 ⟨some 5, .assign (.tmp 24), 30, "ref.go:30", #[⟨13, .data⟩, ⟨2, .chain⟩, ⟨0, .phase⟩, ⟨1, .phase⟩, ⟨2, .phase⟩, ⟨3, .phase⟩, ⟨4, .phase⟩, ⟨5, .phase⟩, ⟨6, .phase⟩, ⟨7, .phase⟩, ⟨8, .phase⟩, ⟨9, .phase⟩, ⟨10, .phase⟩, ⟨11, .phase⟩, ⟨12, .phase⟩, ⟨13, .phase⟩], none⟩ ?_; try simp only [Act.put, pz1, pz2, pz3]
          refine wpAnyH_done (by kernel_rfl) ?_ _
          refine NoPanic.normal ?_
          go_wp2_with fail
          go_meet
          exact ⟨m, gN, gW, gD, AF, cf, rfl, NewL.start BM RN RV RD RF ⟨nm1, nm2, nm3, (by first | exact ngNgW | exact ngWgN.symm), (by first | exact ngNgD | exact ngDgN.symm), (by first | exact ngWgD | exact ngDgW.symm)⟩ ⟨nFm, nFgN, nFgW, nFgD⟩ ⟨by omega, by omega, by omega, by omega⟩ G1 HB0 qF⟩
        · refine wp_makeI _ _ rfl a NB rfl rfl hNB (by omega) ?_
          intro wN gN RN hq hb
          have qgN := Nat.le_trans HS hq
          (try have ngWgN := Nat.ne_of_lt (Nat.lt_of_lt_of_le RV.lt hq))
          (try have ngDgN := Nat.ne_of_lt (Nat.lt_of_lt_of_le RD.lt hq))
          (try have nFgN := FR.ne RF hq)
          clear hq
          (try have hb := undrew hb)
          (try replace RV := RV.below hb)
          (try replace RD := RD.below hb)
          (try replace RF := FR.below_ RF hb)
          replace HSF := HSF.next hb
          replace G1 := G1.below hb G1.lt
          clear HY
          have HY := cells5 G1
          replace HB0 := btr HB0 HB0.size hb
          replace HS := Nat.le_trans HS hb.size
          refine hK.out _ _ ?_ (fun hNew => ?_)
          · (first | exact HY | assumption)
          clear hK K hHeld
          have hHeld := hNew
          clear hNew
          try simp only [Act.put, pz1, pz2, pz3]
          refine wpAnyH_ready (rs := [2]) (by kernel_rfl) (by simp) ?_
          refine AllReadyH.cons (o := ⟨some 13, .call { callee := .builtin .append, args := #[.const (.slice none 0 0), .tmp 12], argTypes := #[24, 24] }, 24, "ref.go:30", #[⟨1, .data⟩], none⟩) rfl (fun K hK => ?_) AllReadyH.nil
          refine wp_appF0 _ rfl rfl fs A c0 rfl HSF hfl ?_
          intro wN AF cf RF hq hb
          have qF := FGe.le hq HS
          (try have nFgN := FNe.fresh hq RN.lt)
          (try have nFgW := FNe.fresh hq RV.lt)
          (try have nFgD := FNe.fresh hq RD.lt)
          clear hq
          (try have hb := undrew hb)
          (try replace RN := RN.below hb)
          (try replace RV := RV.below hb)
          (try replace RD := RD.below hb)
          replace HSF := HSF.next hb
          replace G1 := G1.below hb G1.lt
          clear HY
          have HY := cells5 G1
          replace HB0 := btr HB0 HB0.size hb
          replace HS := Nat.le_trans HS hb.size
          refine hK.out _ _ ?_ (fun hNew => ?_)
          · (first | exact HY | assumption)
          clear hK K hHeld
          have hHeld := hNew
          clear hNew
          try simp only [Act.put, pz1, pz2, pz3]
          refine tk 12 ⟨some 23, .build 94 #[(0, .tmp 11), (1, .tmp 13), (3, .tmp 16), (4, .tmp 19), (5, .tmp 22)], 94, "ref.go:30", #[⟨0, .data⟩, ⟨2, .data⟩, ⟨5, .data⟩, ⟨8, .data⟩, ⟨11, .data⟩], none⟩ ?_; try simp only [Act.put, pz1, pz2, pz3]
          refine wpAnyH_ready (rs := [13]) (by kernel_rfl) (by simp) ?_
          refine AllReadyH.cons (o := ⟨some 24, .box 94 (.tmp 23), 30, "ref.go:30", #[⟨12, .data⟩], none⟩) rfl (fun K hK => ?_) AllReadyH.nil
          refine wp_boxR _ rfl rfl ?_
          intro wN m BM hq hb
          have qm := Nat.le_trans HS hq
          have nm1 : m ≠ gN := Nat.ne_of_gt (Nat.lt_of_lt_of_le RN.lt hq)
          have nm2 : m ≠ gW := Nat.ne_of_gt (Nat.lt_of_lt_of_le RV.lt hq)
          have nm3 : m ≠ gD := Nat.ne_of_gt (Nat.lt_of_lt_of_le RD.lt hq)
          have nFm := FR.ne RF hq
          (try have hb := undrew hb)
          (try replace RN := RN.below hb)
          (try replace RV := RV.below hb)
          (try replace RD := RD.below hb)
          (try replace RF := FR.below_ RF hb)
          replace HSF := HSF.next hb
          replace G1 := G1.below hb G1.lt
          clear HY
          have HY := cells5 G1
          replace HB0 := btr HB0 HB0.size hb
          replace HS := Nat.le_trans HS hb.size
          refine hK.out _ _ ?_ (fun hNew => ?_)
          · (first | exact HY | assumption)
          clear hK K hHeld
          have hHeld := hNew
          clear hNew
          try simp only [Act.put, pz1, pz2, pz3]
          refine tk 14 ⟨some 5, .assign (.tmp 24), 30, "ref.go:30", #[⟨13, .data⟩, ⟨2, .chain⟩, ⟨0, .phase⟩, ⟨1, .phase⟩, ⟨2, .phase⟩, ⟨3, .phase⟩, ⟨4, .phase⟩, ⟨5, .phase⟩, ⟨6, .phase⟩, ⟨7, .phase⟩, ⟨8, .phase⟩, ⟨9, .phase⟩, ⟨10, .phase⟩, ⟨11, .phase⟩, ⟨12, .phase⟩, ⟨13, .phase⟩], none⟩ ?_; try simp only [Act.put, pz1, pz2, pz3]
          refine wpAnyH_done (by kernel_rfl) ?_ _
          refine NoPanic.normal ?_
          go_wp2_with fail
          go_meet
          exact ⟨m, gN, gW, gD, AF, cf, rfl, NewL.start BM RN RV RD RF ⟨nm1, nm2, nm3, (by first | exact ngNgW | exact ngWgN.symm), (by first | exact ngNgD | exact ngDgN.symm), (by first | exact ngWgD | exact ngDgW.symm)⟩ ⟨nFm, nFgN, nFgW, nFgD⟩ ⟨by omega, by omega, by omega, by omega⟩ G1 HB0 qF⟩
  case rest =>
    clear HY HS HB0 G1 HSF
    obtain ⟨m, gN, gW, gD, AF, cf, rfl, hL0⟩ := hcut
    obtain ⟨NP, hNP⟩ : ∃ NP : Nat, a * b = (NP : Int) := ⟨(a * b).toNat, by omega⟩
    have hw1 : IntKind.i64.wrap (NP : Int) = (NP : Int) := wrapS _ (by omega) (by omega)
    have hNPb : 32 ≤ NP ∧ NP ≤ 160 := by omega
    clear hMb g1 g2 g3 g4
    obtain ⟨g1, -⟩ : True ∧ True := ⟨trivial, trivial⟩
    go_upto_region 4 with fail
    go_wp2_with fail
    go_loopw [6] (fun s6 wr => ∃ (i : Nat) (vB : Value) (P : List (Nat × Nat)), i ≤ NP ∧ s6 = .int .i64 (i : Int) ∧ NewL wr w m gN gW gD AF cf a b c d e fs NB RW i vB P) (fun s6 _ => NP - (intOf s6).toNat)
    case atStart => exact ⟨0, _, _, Nat.zero_le _, rfl, (by first | exact hL0 | exact hL0.like)⟩
    case round =>
      clear hL0
      obtain ⟨i, vB, P, hi, rfl, hL⟩ := hrel
      have HB1 := Below.refl wr.heap.size wr
      have y6 := hL.BM.cell_ 6
      simp at y6
      have G1 := hL.G1
      have HY := cells5 G1
      obtain ⟨HY0, HY1, HY2, HY3, HY4⟩ := cells5 G1
      have hb1 : IntKind.i64.wrap (a * b) = (NP : Int) := by rw [hNP]; exact hw1
      by_cases hlt : i < NP
      · have hlt' : (i : Int) < (NP : Int) := by omega
        go_upto_region 7 with fail
        clear HY0 HY1 HY2 HY3 HY4
        refine wp_region_noPanic ?_
        refine wp_region_held_drew (S := (fun w' => w'.cell? ⟨w.heap.size, 0, none⟩ = some (.int .i64 a) ∧ w'.cell? ⟨w.heap.size, 1, none⟩ = some (.int .i64 b) ∧ w'.cell? ⟨w.heap.size, 2, none⟩ = some (.int .i64 c) ∧ w'.cell? ⟨w.heap.size, 3, none⟩ = some (.int .i64 d) ∧ w'.cell? ⟨w.heap.size, 4, none⟩ = some (.int .i64 e))) (by kernel_rfl) ?_ (fun hHeld => ?_)
        · (first | exact HY | exact HY9 | exact HYe | assumption)
        refine tk 0 ⟨some 34, .move (.tmp 5), 30, "ref.go:32", #[], none⟩ ?_; try simp only [Act.put, pz1, pz2, pz3]
        refine tk 1 ⟨some 35, .move (.tmp 5), 30, "ref.go:32", #[], none⟩ ?_; try simp only [Act.put, pz1, pz2, pz3]
        refine tk 2 ⟨some 36, .nilCheck (.tmp 35), 0, "ref.go:32", #[⟨1, .data⟩], none⟩ ?_; try simp only [Act.put, pz1, pz2, pz3]
        refine tk 3 ⟨some 37, .fieldAddr 94 (.tmp 36) 2, 0, "ref.go:32", #[⟨2, .data⟩], none⟩ ?_; try simp only [Act.put, pz1, pz2, pz3]
        refine tk 5 ⟨some 39, .load 23 (.tmp 2), 23, "ref.go:32", #[], none⟩ ?_; try simp only [Act.put, pz1, pz2, pz3]
        refine wpAnyH_ready (rs := [4, 6]) (by kernel_rfl) (by simp) ?_
        refine (AllReadyH.cons (o := ⟨some 38, .load 91 (.tmp 37), 91, "ref.go:32", #[⟨3, .data⟩], none⟩) rfl (fun K hK => ?_) (AllReadyH.cons (o := ⟨some 40, .call { callee := .value (.func 60), args := #[.tmp 39], argTypes := #[23] }, 3, "ref.go:32", #[⟨5, .data⟩], none⟩) rfl (fun K hK => ?_) AllReadyH.nil))
        · go_simp
          refine hK.out _ _ ?_ (fun hNew => ?_)
          · (first | exact HY | exact HY9 | exact HYe | assumption)
          clear hK K hHeld
          have hHeld := hNew
          clear hNew
          try simp only [Act.put, pz1, pz2, pz3]
          refine wpAnyH_ready (rs := [6]) (by kernel_rfl) (by simp) ?_
          refine AllReadyH.cons (o := ⟨some 40, .call { callee := .value (.func 60), args := #[.tmp 39], argTypes := #[23] }, 3, "ref.go:32", #[⟨5, .data⟩], none⟩) rfl (fun K hK => ?_) AllReadyH.nil
          go_simp
          (first | (go_at_call 60; ((with_reducible refine (rraw_b _ _ _ _ _ RW _ HM HRW).mono ?_); rintro e' wN ⟨rfl, hb⟩; (try have hb := undrew hb); replace y6 := cellOf hb y6; replace G1 := G1.below hb G1.lt; clear HY; have HY := cells5 G1; replace HB1 := btr HB1 HB1.size hb)) | (go_at_call 59; ((with_reducible refine (fill_255 RW _ (by omega)).mono ?_); rintro e' wN ⟨⟨g9, rfl, hR9, hge9⟩, hb⟩; (try replace hge9 : _ := Nat.le_trans HB1.size hge9); (try have hb := undrew hb); replace y6 := cellOf hb y6; replace G1 := G1.below hb G1.lt; clear HY; have HY := cells5 G1; replace HB1 := btr HB1 HB1.size hb)))
          go_wp2_with fail
          refine hK.out _ _ ?_ (fun hNew => ?_)
          · (first | exact HY | exact HY9 | exact HYe | assumption)
          clear hK K hHeld
          have hHeld := hNew
          clear hNew
          try simp only [Act.put, pz1, pz2, pz3]
          refine wpAnyH_ready (rs := [7]) (by kernel_rfl) (by simp) ?_
          refine AllReadyH.cons (o := ⟨some 41, .call { callee := .value (.func 59), args := #[.const (.int .u8 255), .tmp 40], argTypes := #[5, 3] }, 38, "ref.go:32", #[⟨6, .data⟩, ⟨6, .chain⟩], none⟩) rfl (fun K hK => ?_) AllReadyH.nil
          go_simp
          (first | (go_at_call 60; ((with_reducible refine (rraw_b _ _ _ _ _ RW _ HM HRW).mono ?_); rintro e' wN ⟨rfl, hb⟩; (try have hb := undrew hb); replace y6 := cellOf hb y6; replace G1 := G1.below hb G1.lt; clear HY; have HY := cells5 G1; replace HB1 := btr HB1 HB1.size hb)) | (go_at_call 59; ((with_reducible refine (fill_255 RW _ (by omega)).mono ?_); rintro e' wN ⟨⟨g9, rfl, hR9, hge9⟩, hb⟩; (try replace hge9 : _ := Nat.le_trans HB1.size hge9); (try have hb := undrew hb); replace y6 := cellOf hb y6; replace G1 := G1.below hb G1.lt; clear HY; have HY := cells5 G1; replace HB1 := btr HB1 HB1.size hb)))
          go_wp2_with fail
          refine hK.out _ _ ?_ (fun hNew => ?_)
          · (first | exact HY | exact HY9 | exact HYe | assumption)
          clear hK K hHeld
          have hHeld := hNew
          clear hNew
          try simp only [Act.put, pz1, pz2, pz3]
          refine wpAnyH_ready (rs := [8]) (by kernel_rfl) (by simp) ?_
          refine AllReadyH.cons (o := ⟨some 42, .buildSlice 91 1 #[(0, .tmp 41)], 91, "ref.go:32", #[⟨7, .data⟩], none⟩) rfl (fun K hK => ?_) AllReadyH.nil
          refine wp_buildPg _ rfl g9 RW RW rfl ?_
          intro wN b9 B9 hqb hb
          (try have hb := undrew hb)
          replace hR9 := hR9.below hb
          (try have hb := undrew hb)
          replace y6 := cellOf hb y6
          replace G1 := G1.below hb G1.lt
          clear HY
          have HY := cells5 G1
          replace HB1 := btr HB1 HB1.size hb
          have z9 := B9.cell_ 0
          simp at z9
          refine hK.out _ _ ?_ (fun hNew => ?_)
          · (first | exact HY | exact HY9 | exact HYe | assumption)
          clear hK K hHeld
          have hHeld := hNew
          clear hNew
          try simp only [Act.put, pz1, pz2, pz3]
          refine wpAnyH_ready (rs := [9]) (by kernel_rfl) (by simp) ?_
          refine AllReadyH.cons (o := ⟨some 43, .call { callee := .builtin .append, args := #[.tmp 38, .tmp 42], argTypes := #[91, 91] }, 91, "ref.go:32", #[⟨4, .data⟩, ⟨8, .data⟩, ⟨7, .chain⟩], none⟩) rfl (fun K hK => ?_) AllReadyH.nil
          obtain ⟨ti0, hi, hz0, hz1, hz2⟩ := info_parts infoPg
          refine wp_app _ (.tmp 38) (.tmp 42) _ rfl (w.heap.size + 1) 38 ti0 _ 1 24 Try.underlying91 hi hz0 hz1 hz2 rfl (by decide) vB i (P.map (pgV RW)) rfl (own_far hL.own (fun g hg => HB1.block g (hL.own.lt g hg).2)) (some ⟨b9, 0, none⟩) 1 1 [pgV RW (g9, RW)] rfl (Rd.one z9) (by intro u hu; simp at hu; subst hu; rfl) (by unfold maxLen; omega) (by omega) (Nat.le_trans (Nat.succ_le_of_lt hL.G1.lt) HB1.size) ?_
          intro v9 w9 ho9 hg9 hv9
          clear hi hz0 hz1 hz2
          have hST := hL.step HB1 hR9 hge9 (by unfold maxLen; omega) ho9 hg9 hv9
          obtain ⟨-, BM9, G9⟩ := hL.mid HB1 hg9
          have y69 := BM9.cell_ 6
          simp at y69
          obtain ⟨gv, cv, hve, -⟩ := own_rowC ho9 (by omega)
          subst hve
          have fm9 := BM9.free
          clear BM9
          have HY9 := cells5 G9
          refine hK.out _ _ ?_ (fun hNew => ?_)
          · (first | exact HY | exact HY9 | exact HYe | assumption)
          clear hK K hHeld
          have hHeld := hNew
          clear hNew
          try simp only [Act.put, pz1, pz2, pz3]
          refine tk 10 ⟨some 44, .nilCheck (.tmp 34), 0, "ref.go:32", #[⟨0, .data⟩, ⟨0, .phase⟩, ⟨1, .phase⟩, ⟨2, .phase⟩, ⟨3, .phase⟩, ⟨4, .phase⟩, ⟨5, .phase⟩, ⟨6, .phase⟩, ⟨7, .phase⟩, ⟨8, .phase⟩, ⟨9, .phase⟩], none⟩ ?_; try simp only [Act.put, pz1, pz2, pz3]
          refine tk 11 ⟨some 45, .fieldAddr 94 (.tmp 44) 2, 0, "ref.go:32", #[⟨10, .data⟩, ⟨0, .phase⟩, ⟨1, .phase⟩, ⟨2, .phase⟩, ⟨3, .phase⟩, ⟨4, .phase⟩, ⟨5, .phase⟩, ⟨6, .phase⟩, ⟨7, .phase⟩, ⟨8, .phase⟩, ⟨9, .phase⟩], none⟩ ?_; try simp only [Act.put, pz1, pz2, pz3]
          refine wpAnyH_ready (rs := [12]) (by kernel_rfl) (by simp) ?_
          refine AllReadyH.cons (o := ⟨none, .store 91 (.tmp 45) (.tmp 43), 0, "ref.go:32", #[⟨11, .data⟩, ⟨9, .data⟩, ⟨9, .chain⟩, ⟨0, .phase⟩, ⟨1, .phase⟩, ⟨2, .phase⟩, ⟨3, .phase⟩, ⟨4, .phase⟩, ⟨5, .phase⟩, ⟨6, .phase⟩, ⟨7, .phase⟩, ⟨8, .phase⟩, ⟨9, .phase⟩], none⟩) rfl (fun K hK => ?_) AllReadyH.nil
          go_simp
          have HYe := cells5 (G9.far (p := ⟨m, 6, none⟩) hL.nw (.slice (some ⟨gv, 0, none⟩) (i + 1) cv))
          refine hK.out _ _ ?_ (fun hNew => ?_)
          · (first | exact HY | exact HY9 | exact HYe | assumption)
          clear hK K hHeld
          have hHeld := hNew
          clear hNew
          try simp only [Act.put, pz1, pz2, pz3]
          refine wpAnyH_done (by kernel_rfl) ?_ _
          refine NoPanic.normal ?_
          go_wp2_with fail
          go_roundw
          case rel => exact ⟨i + 1, _, _, by omega, by go_num, (by first | exact hST | exact hST.like)⟩
          case measure => simp [intOf]; omega
        · go_simp
          (first | (go_at_call 60; ((with_reducible refine (rraw_b _ _ _ _ _ RW _ HM HRW).mono ?_); rintro e' wN ⟨rfl, hb⟩; (try have hb := undrew hb); replace y6 := cellOf hb y6; replace G1 := G1.below hb G1.lt; clear HY; have HY := cells5 G1; replace HB1 := btr HB1 HB1.size hb)) | (go_at_call 59; ((with_reducible refine (fill_255 RW _ (by omega)).mono ?_); rintro e' wN ⟨⟨g9, rfl, hR9, hge9⟩, hb⟩; (try replace hge9 : _ := Nat.le_trans HB1.size hge9); (try have hb := undrew hb); replace y6 := cellOf hb y6; replace G1 := G1.below hb G1.lt; clear HY; have HY := cells5 G1; replace HB1 := btr HB1 HB1.size hb)))
          go_wp2_with fail
          refine hK.out _ _ ?_ (fun hNew => ?_)
          · (first | exact HY | exact HY9 | exact HYe | assumption)
          clear hK K hHeld
          have hHeld := hNew
          clear hNew
          try simp only [Act.put, pz1, pz2, pz3]
          refine wpAnyH_ready (rs := [4, 7]) (by kernel_rfl) (by simp) ?_
          refine (AllReadyH.cons (o := ⟨some 38, .load 91 (.tmp 37), 91, "ref.go:32", #[⟨3, .data⟩], none⟩) rfl (fun K hK => ?_) (AllReadyH.cons (o := ⟨some 41, .call { callee := .value (.func 59), args := #[.const (.int .u8 255), .tmp 40], argTypes := #[5, 3] }, 38, "ref.go:32", #[⟨6, .data⟩, ⟨6, .chain⟩], none⟩) rfl (fun K hK => ?_) AllReadyH.nil))
          · go_simp
            refine hK.out _ _ ?_ (fun hNew => ?_)
            · (first | exact HY | exact HY9 | exact HYe | assumption)
            clear hK K hHeld
            have hHeld := hNew
            clear hNew
            try simp only [Act.put, pz1, pz2, pz3]
            refine wpAnyH_ready (rs := [7]) (by kernel_rfl) (by simp) ?_
            refine AllReadyH.cons (o := ⟨some 41, .call { callee := .value (.func 59), args := #[.const (.int .u8 255), .tmp 40], argTypes := #[5, 3] }, 38, "ref.go:32", #[⟨6, .data⟩, ⟨6, .chain⟩], none⟩) rfl (fun K hK => ?_) AllReadyH.nil
            go_simp
            (first | (go_at_call 60; ((with_reducible refine (rraw_b _ _ _ _ _ RW _ HM HRW).mono ?_); rintro e' wN ⟨rfl, hb⟩; (try have hb := undrew hb); replace y6 := cellOf hb y6; replace G1 := G1.below hb G1.lt; clear HY; have HY := cells5 G1; replace HB1 := btr HB1 HB1.size hb)) | (go_at_call 59; ((with_reducible refine (fill_255 RW _ (by omega)).mono ?_); rintro e' wN ⟨⟨g9, rfl, hR9, hge9⟩, hb⟩; (try replace hge9 : _ := Nat.le_trans HB1.size hge9); (try have hb := undrew hb); replace y6 := cellOf hb y6; replace G1 := G1.below hb G1.lt; clear HY; have HY := cells5 G1; replace HB1 := btr HB1 HB1.size hb)))
            go_wp2_with fail
            refine hK.out _ _ ?_ (fun hNew => ?_)
            · (first | exact HY | exact HY9 | exact HYe | assumption)
            clear hK K hHeld
            have hHeld := hNew
            clear hNew
            try simp only [Act.put, pz1, pz2, pz3]
            refine wpAnyH_ready (rs := [8]) (by kernel_rfl) (by simp) ?_
            refine AllReadyH.cons (o := ⟨some 42, .buildSlice 91 1 #[(0, .tmp 41)], 91, "ref.go:32", #[⟨7, .data⟩], none⟩) rfl (fun K hK => ?_) AllReadyH.nil
            refine wp_buildPg _ rfl g9 RW RW rfl ?_
            intro wN b9 B9 hqb hb
            (try have hb := undrew hb)
            replace hR9 := hR9.below hb
            (try have hb := undrew hb)
            replace y6 := cellOf hb y6
            replace G1 := G1.below hb G1.lt
            clear HY
            have HY := cells5 G1
            replace HB1 := btr HB1 HB1.size hb
            have z9 := B9.cell_ 0
            simp at z9
            refine hK.out _ _ ?_ (fun hNew => ?_)
            · (first | exact HY | exact HY9 | exact HYe | assumption)
            clear hK K hHeld
            have hHeld := hNew
            clear hNew
            try simp only [Act.put, pz1, pz2, pz3]
            refine wpAnyH_ready (rs := [9]) (by kernel_rfl) (by simp) ?_
            refine AllReadyH.cons (o := ⟨some 43, .call { callee := .builtin .append, args := #[.tmp 38, .tmp 42], argTypes := #[91, 91] }, 91, "ref.go:32", #[⟨4, .data⟩, ⟨8, .data⟩, ⟨7, .chain⟩], none⟩) rfl (fun K hK => ?_) AllReadyH.nil
            obtain ⟨ti0, hi, hz0, hz1, hz2⟩ := info_parts infoPg
            refine wp_app _ (.tmp 38) (.tmp 42) _ rfl (w.heap.size + 1) 38 ti0 _ 1 24 Try.underlying91 hi hz0 hz1 hz2 rfl (by decide) vB i (P.map (pgV RW)) rfl (own_far hL.own (fun g hg => HB1.block g (hL.own.lt g hg).2)) (some ⟨b9, 0, none⟩) 1 1 [pgV RW (g9, RW)] rfl (Rd.one z9) (by intro u hu; simp at hu; subst hu; rfl) (by unfold maxLen; omega) (by omega) (Nat.le_trans (Nat.succ_le_of_lt hL.G1.lt) HB1.size) ?_
            intro v9 w9 ho9 hg9 hv9
            clear hi hz0 hz1 hz2
            have hST := hL.step HB1 hR9 hge9 (by unfold maxLen; omega) ho9 hg9 hv9
            obtain ⟨-, BM9, G9⟩ := hL.mid HB1 hg9
            have y69 := BM9.cell_ 6
            simp at y69
            obtain ⟨gv, cv, hve, -⟩ := own_rowC ho9 (by omega)
            subst hve
            have fm9 := BM9.free
            clear BM9
            have HY9 := cells5 G9
            refine hK.out _ _ ?_ (fun hNew => ?_)
            · (first | exact HY | exact HY9 | exact HYe | assumption)
            clear hK K hHeld
            have hHeld := hNew
            clear hNew
            try simp only [Act.put, pz1, pz2, pz3]
            refine tk 10 ⟨some 44, .nilCheck (.tmp 34), 0, "ref.go:32", #[⟨0, .data⟩, ⟨0, .phase⟩, ⟨1, .phase⟩, ⟨2, .phase⟩, ⟨3, .phase⟩, ⟨4, .phase⟩, ⟨5, .phase⟩, ⟨6, .phase⟩, ⟨7, .phase⟩, ⟨8, .phase⟩, ⟨9, .phase⟩], none⟩ ?_; try simp only [Act.put, pz1, pz2, pz3]
            refine tk 11 ⟨some 45, .fieldAddr 94 (.tmp 44) 2, 0, "ref.go:32", #[⟨10, .data⟩, ⟨0, .phase⟩, ⟨1, .phase⟩, ⟨2, .phase⟩, ⟨3, .phase⟩, ⟨4, .phase⟩, ⟨5, .phase⟩, ⟨6, .phase⟩, ⟨7, .phase⟩, ⟨8, .phase⟩, ⟨9, .phase⟩], none⟩ ?_; try simp only [Act.put, pz1, pz2, pz3]
            refine wpAnyH_ready (rs := [12]) (by kernel_rfl) (by simp) ?_
            refine AllReadyH.cons (o := ⟨none, .store 91 (.tmp 45) (.tmp 43), 0, "ref.go:32", #[⟨11, .data⟩, ⟨9, .data⟩, ⟨9, .chain⟩, ⟨0, .phase⟩, ⟨1, .phase⟩, ⟨2, .phase⟩, ⟨3, .phase⟩, ⟨4, .phase⟩, ⟨5, .phase⟩, ⟨6, .phase⟩, ⟨7, .phase⟩, ⟨8, .phase⟩, ⟨9, .phase⟩], none⟩) rfl (fun K hK => ?_) AllReadyH.nil
            go_simp
            have HYe := cells5 (G9.far (p := ⟨m, 6, none⟩) hL.nw (.slice (some ⟨gv, 0, none⟩) (i + 1) cv))
            refine hK.out _ _ ?_ (fun hNew => ?_)
            · (first | exact HY | exact HY9 | exact HYe | assumption)
            clear hK K hHeld
            have hHeld := hNew
            clear hNew
            try simp only [Act.put, pz1, pz2, pz3]
            refine wpAnyH_done (by kernel_rfl) ?_ _
            refine NoPanic.normal ?_
            go_wp2_with fail
            go_roundw
            case rel => exact ⟨i + 1, _, _, by omega, by go_num, (by first | exact hST | exact hST.like)⟩
            case measure => simp [intOf]; omega
          · go_simp
            (first | (go_at_call 60; ((with_reducible refine (rraw_b _ _ _ _ _ RW _ HM HRW).mono ?_); rintro e' wN ⟨rfl, hb⟩; (try have hb := undrew hb); replace y6 := cellOf hb y6; replace G1 := G1.below hb G1.lt; clear HY; have HY := cells5 G1; replace HB1 := btr HB1 HB1.size hb)) | (go_at_call 59; ((with_reducible refine (fill_255 RW _ (by omega)).mono ?_); rintro e' wN ⟨⟨g9, rfl, hR9, hge9⟩, hb⟩; (try replace hge9 : _ := Nat.le_trans HB1.size hge9); (try have hb := undrew hb); replace y6 := cellOf hb y6; replace G1 := G1.below hb G1.lt; clear HY; have HY := cells5 G1; replace HB1 := btr HB1 HB1.size hb)))
            go_wp2_with fail
            refine hK.out _ _ ?_ (fun hNew => ?_)
            · (first | exact HY | exact HY9 | exact HYe | assumption)
            clear hK K hHeld
            have hHeld := hNew
            clear hNew
            try simp only [Act.put, pz1, pz2, pz3]
            refine wpAnyH_ready (rs := [4, 8]) (by kernel_rfl) (by simp) ?_
            refine (AllReadyH.cons (o := ⟨some 38, .load 91 (.tmp 37), 91, "ref.go:32", #[⟨3, .data⟩], none⟩) rfl (fun K hK => ?_) (AllReadyH.cons (o := ⟨some 42, .buildSlice 91 1 #[(0, .tmp 41)], 91, "ref.go:32", #[⟨7, .data⟩], none⟩) rfl (fun K hK => ?_) AllReadyH.nil))
            · go_simp
              refine hK.out _ _ ?_ (fun hNew => ?_)
              · (first | exact HY | exact HY9 | exact HYe | assumption)
              clear hK K hHeld
              have hHeld := hNew
              clear hNew
              try simp only [Act.put, pz1, pz2, pz3]
              refine wpAnyH_ready (rs := [8]) (by kernel_rfl) (by simp) ?_
              refine AllReadyH.cons (o := ⟨some 42, .buildSlice 91 1 #[(0, .tmp 41)], 91, "ref.go:32", #[⟨7, .data⟩], none⟩) rfl (fun K hK => ?_) AllReadyH.nil
              refine wp_buildPg _ rfl g9 RW RW rfl ?_
              intro wN b9 B9 hqb hb
              (try have hb := undrew hb)
              replace hR9 := hR9.below hb
              (try have hb := undrew hb)
              replace y6 := cellOf hb y6
              replace G1 := G1.below hb G1.lt
              clear HY
              have HY := cells5 G1
              replace HB1 := btr HB1 HB1.size hb
              have z9 := B9.cell_ 0
              simp at z9
              refine hK.out _ _ ?_ (fun hNew => ?_)
              · (first | exact HY | exact HY9 | exact HYe | assumption)
              clear hK K hHeld
              have hHeld := hNew
              clear hNew
              try simp only [Act.put, pz1, pz2, pz3]
              refine wpAnyH_ready (rs := [9]) (by kernel_rfl) (by simp) ?_
              refine AllReadyH.cons (o := ⟨some 43, .call { callee := .builtin .append, args := #[.tmp 38, .tmp 42], argTypes := #[91, 91] }, 91, "ref.go:32", #[⟨4, .data⟩, ⟨8, .data⟩, ⟨7, .chain⟩], none⟩) rfl (fun K hK => ?_) AllReadyH.nil
              obtain ⟨ti0, hi, hz0, hz1, hz2⟩ := info_parts infoPg
              refine wp_app _ (.tmp 38) (.tmp 42) _ rfl (w.heap.size + 1) 38 ti0 _ 1 24 Try.underlying91 hi hz0 hz1 hz2 rfl (by decide) vB i (P.map (pgV RW)) rfl (own_far hL.own (fun g hg => HB1.block g (hL.own.lt g hg).2)) (some ⟨b9, 0, none⟩) 1 1 [pgV RW (g9, RW)] rfl (Rd.one z9) (by intro u hu; simp at hu; subst hu; rfl) (by unfold maxLen; omega) (by omega) (Nat.le_trans (Nat.succ_le_of_lt hL.G1.lt) HB1.size) ?_
              intro v9 w9 ho9 hg9 hv9
              clear hi hz0 hz1 hz2
              have hST := hL.step HB1 hR9 hge9 (by unfold maxLen; omega) ho9 hg9 hv9
              obtain ⟨-, BM9, G9⟩ := hL.mid HB1 hg9
              have y69 := BM9.cell_ 6
              simp at y69
              obtain ⟨gv, cv, hve, -⟩ := own_rowC ho9 (by omega)
              subst hve
              have fm9 := BM9.free
              clear BM9
              have HY9 := cells5 G9
              refine hK.out _ _ ?_ (fun hNew => ?_)
              · (first | exact HY | exact HY9 | exact HYe | assumption)
              clear hK K hHeld
              have hHeld := hNew
              clear hNew
              try simp only [Act.put, pz1, pz2, pz3]
              refine tk 10 ⟨some 44, .nilCheck (.tmp 34), 0, "ref.go:32", #[⟨0, .data⟩, ⟨0, .phase⟩, ⟨1, .phase⟩, ⟨2, .phase⟩, ⟨3, .phase⟩, ⟨4, .phase⟩, ⟨5, .phase⟩, ⟨6, .phase⟩, ⟨7, .phase⟩, ⟨8, .phase⟩, ⟨9, .phase⟩], none⟩ ?_; try simp only [Act.put, pz1, pz2, pz3]
              refine tk 11 ⟨some 45, .fieldAddr 94 (.tmp 44) 2, 0, "ref.go:32", #[⟨10, .data⟩, ⟨0, .phase⟩, ⟨1, .phase⟩, ⟨2, .phase⟩, ⟨3, .phase⟩, ⟨4, .phase⟩, ⟨5, .phase⟩, ⟨6, .phase⟩, ⟨7, .phase⟩, ⟨8, .phase⟩, ⟨9, .phase⟩], none⟩ ?_; try simp only [Act.put, pz1, pz2, pz3]
              refine wpAnyH_ready (rs := [12]) (by kernel_rfl) (by simp) ?_
              refine AllReadyH.cons (o := ⟨none, .store 91 (.tmp 45) (.tmp 43), 0, "ref.go:32", #[⟨11, .data⟩, ⟨9, .data⟩, ⟨9, .chain⟩, ⟨0, .phase⟩, ⟨1, .phase⟩, ⟨2, .phase⟩, ⟨3, .phase⟩, ⟨4, .phase⟩, ⟨5, .phase⟩, ⟨6, .phase⟩, ⟨7, .phase⟩, ⟨8, .phase⟩, ⟨9, .phase⟩], none⟩) rfl (fun K hK => ?_) AllReadyH.nil
              go_simp
              have HYe := cells5 (G9.far (p := ⟨m, 6, none⟩) hL.nw (.slice (some ⟨gv, 0, none⟩) (i + 1) cv))
              refine hK.out _ _ ?_ (fun hNew => ?_)
              · (first | exact HY | exact HY9 | exact HYe | assumption)
              clear hK K hHeld
              have hHeld := hNew
              clear hNew
              try simp only [Act.put, pz1, pz2, pz3]
              refine wpAnyH_done (by kernel_rfl) ?_ _
              refine NoPanic.normal ?_
              go_wp2_with fail
              go_roundw
              case rel => exact ⟨i + 1, _, _, by omega, by go_num, (by first | exact hST | exact hST.like)⟩
              case measure => simp [intOf]; omega
            · refine wp_buildPg _ rfl g9 RW RW rfl ?_
              intro wN b9 B9 hqb hb
              (try have hb := undrew hb)
              replace hR9 := hR9.below hb
              (try have hb := undrew hb)
              replace y6 := cellOf hb y6
              replace G1 := G1.below hb G1.lt
              clear HY
              have HY := cells5 G1
              replace HB1 := btr HB1 HB1.size hb
              have z9 := B9.cell_ 0
              simp at z9
              refine hK.out _ _ ?_ (fun hNew => ?_)
              · (first | exact HY | exact HY9 | exact HYe | assumption)
              clear hK K hHeld
              have hHeld := hNew
              clear hNew
              try simp only [Act.put, pz1, pz2, pz3]
              refine wpAnyH_ready (rs := [4]) (by kernel_rfl) (by simp) ?_
              refine AllReadyH.cons (o := ⟨some 38, .load 91 (.tmp 37), 91, "ref.go:32", #[⟨3, .data⟩], none⟩) rfl (fun K hK => ?_) AllReadyH.nil
              go_simp
              refine hK.out _ _ ?_ (fun hNew => ?_)
              · (first | exact HY | exact HY9 | exact HYe | assumption)
              clear hK K hHeld
              have hHeld := hNew
              clear hNew
              try simp only [Act.put, pz1, pz2, pz3]
              refine wpAnyH_ready (rs := [9]) (by kernel_rfl) (by simp) ?_
              refine AllReadyH.cons (o := ⟨some 43, .call { callee := .builtin .append, args := #[.tmp 38, .tmp 42], argTypes := #[91, 91] }, 91, "ref.go:32", #[⟨4, .data⟩, ⟨8, .data⟩, ⟨7, .chain⟩], none⟩) rfl (fun K hK => ?_) AllReadyH.nil
              obtain ⟨ti0, hi, hz0, hz1, hz2⟩ := info_parts infoPg
              refine wp_app _ (.tmp 38) (.tmp 42) _ rfl (w.heap.size + 1) 38 ti0 _ 1 24 Try.underlying91 hi hz0 hz1 hz2 rfl (by decide) vB i (P.map (pgV RW)) rfl (own_far hL.own (fun g hg => HB1.block g (hL.own.lt g hg).2)) (some ⟨b9, 0, none⟩) 1 1 [pgV RW (g9, RW)] rfl (Rd.one z9) (by intro u hu; simp at hu; subst hu; rfl) (by unfold maxLen; omega) (by omega) (Nat.le_trans (Nat.succ_le_of_lt hL.G1.lt) HB1.size) ?_
              intro v9 w9 ho9 hg9 hv9
              clear hi hz0 hz1 hz2
              have hST := hL.step HB1 hR9 hge9 (by unfold maxLen; omega) ho9 hg9 hv9
              obtain ⟨-, BM9, G9⟩ := hL.mid HB1 hg9
              have y69 := BM9.cell_ 6
              simp at y69
              obtain ⟨gv, cv, hve, -⟩ := own_rowC ho9 (by omega)
              subst hve
              have fm9 := BM9.free
              clear BM9
              have HY9 := cells5 G9
              refine hK.out _ _ ?_ (fun hNew => ?_)
              · (first | exact HY | exact HY9 | exact HYe | assumption)
              clear hK K hHeld
              have hHeld := hNew
              clear hNew
              try simp only [Act.put, pz1, pz2, pz3]
              refine tk 10 ⟨some 44, .nilCheck (.tmp 34), 0, "ref.go:32", #[⟨0, .data⟩, ⟨0, .phase⟩, ⟨1, .phase⟩, ⟨2, .phase⟩, ⟨3, .phase⟩, ⟨4, .phase⟩, ⟨5, .phase⟩, ⟨6, .phase⟩, ⟨7, .phase⟩, ⟨8, .phase⟩, ⟨9, .phase⟩], none⟩ ?_; try simp only [Act.put, pz1, pz2, pz3]
              refine tk 11 ⟨some 45, .fieldAddr 94 (.tmp 44) 2, 0, "ref.go:32", #[⟨10, .data⟩, ⟨0, .phase⟩, ⟨1, .phase⟩, ⟨2, .phase⟩, ⟨3, .phase⟩, ⟨4, .phase⟩, ⟨5, .phase⟩, ⟨6, .phase⟩, ⟨7, .phase⟩, ⟨8, .phase⟩, ⟨9, .phase⟩], none⟩ ?_; try simp only [Act.put, pz1, pz2, pz3]
              refine wpAnyH_ready (rs := [12]) (by kernel_rfl) (by simp) ?_
              refine AllReadyH.cons (o := ⟨none, .store 91 (.tmp 45) (.tmp 43), 0, "ref.go:32", #[⟨11, .data⟩, ⟨9, .data⟩, ⟨9, .chain⟩, ⟨0, .phase⟩, ⟨1, .phase⟩, ⟨2, .phase⟩, ⟨3, .phase⟩, ⟨4, .phase⟩, ⟨5, .phase⟩, ⟨6, .phase⟩, ⟨7, .phase⟩, ⟨8, .phase⟩, ⟨9, .phase⟩], none⟩) rfl (fun K hK => ?_) AllReadyH.nil
              go_simp
              have HYe := cells5 (G9.far (p := ⟨m, 6, none⟩) hL.nw (.slice (some ⟨gv, 0, none⟩) (i + 1) cv))
              refine hK.out _ _ ?_ (fun hNew => ?_)
              · (first | exact HY | exact HY9 | exact HYe | assumption)
              clear hK K hHeld
              have hHeld := hNew
              clear hNew
              try simp only [Act.put, pz1, pz2, pz3]
              refine wpAnyH_done (by kernel_rfl) ?_ _
              refine NoPanic.normal ?_
              go_wp2_with fail
              go_roundw
              case rel => exact ⟨i + 1, _, _, by omega, by go_num, (by first | exact hST | exact hST.like)⟩
              case measure => simp [intOf]; omega
      · have hlt' : ¬ (i : Int) < (NP : Int) := by omega
        obtain rfl : NP = i := by omega
        go_wp2_with fail
        go_ret
        obtain ⟨gB, hR⟩ := hL.fin hNP.symm (by omega) hNB HRW.out HNX.out HP.out
        first
        | exact ⟨m, gB, gN, gW, gD, AF, cf, rfl, (by first | exact hR | exact hR.like), (by first | exact hL.HB | exact hL.HB.drew)⟩
        | exact ⟨gB, gN, gW, gD, AF, cf, (by first | exact hR | exact hR.like), (by first | exact hL.HB | exact hL.HB.drew)⟩
        | exact ⟨m, rfl, ⟨gB, gN, gW, gD, AF, cf, (by first | exact hR | exact hR.like)⟩, (by first | exact hL.HB | exact hL.HB.drew)⟩
end Go.Proofs.Ytcpniplfkillbaa
namespace Go.Proofs.Ytcpniplfkillbaa
open Go.ChangeShapes Go.WideShapes Go.ChangeAt Go.RowKit
attribute [local go_sem ↓] Go.wp_at_zero Go.wp_at_succ
theorem blk_new {w : World} {t : TypeId} {cs : Array Value} {g : Nat} (hg : g = w.heap.size) : Blk (w.alloc (.cells cs t)) g t cs := by
  subst hg
  exact Blk.new_ _ _ _
def st6 (w : World) (g : Nat) (u0 u1 u2 u3 u4 u5 : Value) : World := (((((w.setCell ⟨g, 0, none⟩ u0).setCell ⟨g, 1, none⟩ u1).setCell ⟨g, 2, none⟩ u2).setCell ⟨g, 3, none⟩ u3).setCell ⟨g, 4, none⟩ u4).setCell ⟨g, 5, none⟩ u5
theorem st6_blk {w : World} {g : Nat} {T : TypeId} {a b c d e f : Value} (h : Blk w g T #[a, b, c, d, e, f]) (u0 u1 u2 u3 u4 u5 : Value) : Blk (st6 w g u0 u1 u2 u3 u4 u5) g T #[u0, u1, u2, u3, u4, u5] := by
  have := (((((h.set_ 0 u0).set_ 1 u1).set_ 2 u2).set_ 3 u3).set_ 4 u4).set_ 5 u5
  exact this
theorem st6_tch (w : World) (g : Nat) (u0 u1 u2 u3 u4 u5 : Value) : Tch (fun x => x = g) w (st6 w g u0 u1 u2 u3 u4 u5) :=
  (((((Tch.setm w g 0 u0).trans (Tch.setm _ g 1 u1)).trans (Tch.setm _ g 2 u2)).trans (Tch.setm _ g 3 u3)).trans (Tch.setm _ g 4 u4)).trans (Tch.setm _ g 5 u5)
theorem cells6 {w : World} {g : Nat} {T : TypeId} {a b c d e f : Value} (h : Blk w g T #[a, b, c, d, e, f]) : w.cell? ⟨g, 0, none⟩ = some a ∧ w.cell? ⟨g, 1, none⟩ = some b ∧ w.cell? ⟨g, 2, none⟩ = some c ∧ w.cell? ⟨g, 3, none⟩ = some d ∧ w.cell? ⟨g, 4, none⟩ = some e ∧ w.cell? ⟨g, 5, none⟩ = some f :=
  ⟨h.cell_ 0, h.cell_ 1, h.cell_ 2, h.cell_ 3, h.cell_ 4, h.cell_ 5⟩
structure ChN (w : World) (L : Nat) (m gx gb : Nat) (Af : Option Addr) (nf cf : Nat) (a b c d e : Int) (fs : List Flt) (s : ChS) : Prop where
  chip : ChipW w m gx gb Af nf cf a b c d e fs s
  low : ∀ g, chB m gx gb g → g < L
  lowF : fs = [] ∨ ∃ g off, Af = some ⟨g, off, none⟩ ∧ g < L
theorem ChN.far {w w' : World} {L : Nat} {m gx gb : Nat} {Af : Option Addr} {nf cf : Nat} {a b c d e : Int} {fs : List Flt} {s : ChS} (h : ChN w L m gx gb Af nf cf a b c d e fs s) {S : Nat → Prop} (hT : Tch S w w') (hs : ∀ g, S g → L ≤ g) : ChN w' L m gx gb Af nf cf a b c d e fs s := by
  have hn : ∀ g, g < L → ¬ S g := fun g hg h1 => by have := hs g h1; omega
  obtain ⟨⟨⟨cx, cb, NX, NB, hX, hN, hcx, hB⟩, r1, r2, r3, n1, n2, n3, l1, l2, l3, l4⟩, lo, lf⟩ := h
  refine ⟨⟨⟨cx, cb, NX, NB, hX, hN, hcx, (hT.far m hB.lt (hn m (lo m (Or.inl rfl)))).trans hB⟩, r1.keep (hT.far gx r1.lt (hn gx (lo gx (Or.inr (Or.inl rfl))))), r2.keep (hT.far gb r2.lt (hn gb (lo gb (Or.inr (Or.inr rfl))))), ?_, n1, n2, n3, l1, l2, l3, l4⟩, lo, lf⟩
  rcases lf with lf | ⟨g, off, e, hg⟩
  · exact Or.inl lf
  · rcases r3 with r3 | ⟨g', off', e', hlt, h1, h2, h3, hc⟩
    · exact Or.inl r3
    · rw [e] at e'
      obtain ⟨rfl, rfl⟩ : g = g' ∧ off = off' := by cases e'; exact ⟨rfl, rfl⟩
      have hq : ∀ o, w'.cell? ⟨g, o, none⟩ = w.cell? ⟨g, o, none⟩ := fun o => World.cell?_of_block (w := w) (hT.far g hlt (hn g hg))
      exact Or.inr ⟨g, off, e, by have := hT.size; omega, h1, h2, h3, fun k f hf => by rw [hq, hq, hq]; exact hc k f hf⟩
theorem ChN.next {w w' : World} {L : Nat} {m gx gb : Nat} {Af : Option Addr} {nf cf : Nat} {a b c d e : Int} {fs : List Flt} {s s' : ChS} (h : ChN w L m gx gb Af nf cf a b c d e fs s) (hC : ChipW w' m gx gb Af nf cf a b c d e fs s') : ChN w' L m gx gb Af nf cf a b c d e fs s' := ⟨hC, h.low, h.lowF⟩
theorem ChN.start {w : World} {m gx gb : Nat} {Af : Option Addr} {nf cf : Nat} {a b c d e : Int} {fs : List Flt} {s : ChS} (hC : ChipW w m gx gb Af nf cf a b c d e fs s) : ChN w w.heap.size m gx gb Af nf cf a b c d e fs s := by
  have hlt := hC.lt
  refine ⟨hC, fun g hg => ?_, ?_⟩
  · rcases hg with rfl | rfl | rfl
    · exact hlt.1
    · exact hlt.2.1
    · exact hlt.2.2
  · rcases hC.flt with h1 | ⟨g, off, e, hl, _⟩
    · exact Or.inl h1
    · exact Or.inr ⟨g, off, e, hl⟩
theorem look_no (m gx gb : Nat) (Af : Option Addr) (nf cf : Nat) (a b c d e : Int) (fs : List Flt) (x y : Int) (n0 : Int) (w : World) (s : ChS) (hC : ChipW w m gx gb Af nf cf a b c d e fs s) (hs : Fine s n0) (hn0 : n0 ≤ 900000000) (Z : Int) (S1 : ChS) (hZ : Hid (s.readZ a b x y = Z ∧ True ∧ s.readS a b x y = S1)) (hne : Z ≠ 0) : Calls Try.prog 34 #[.pointer (some ⟨m, 0, none⟩), .agg #[.int .i64 x, .int .i64 y]] w fun e' w' => e' = .returned (.tuple #[.agg #[.slice none 0 0, .int .i64 0, .int .i64 0, .int .i64 0, .int .i64 0, .int .i64 0], .int .i64 Z]) ∧ ChipW w' m gx gb Af nf cf a b c d e fs S1 ∧ Tch (chB m gx gb) w w' := by
  have hlt := hC.lt
  have HLN := ChN.start hC
  obtain ⟨W1, hW1⟩ : ∃ W : World, W = (w.alloc (.cells #[.int .i64 x, .int .i64 y] 27)).alloc (.cells #[.slice none 0 0, .int .i64 0, .int .i64 0, .int .i64 0, .int .i64 0, .int .i64 0] 83) := ⟨_, rfl⟩
  have HB1 : Below w.heap.size w W1 := by rw [hW1]; exact ((Below.refl _ _).alloc (Nat.le_refl _) _).alloc (by simp) _
  have G3 : Blk W1 w.heap.size 27 #[.int .i64 x, .int .i64 y] := by rw [hW1]; exact (Blk.new_ w _ _).alloc_ _
  have G4 : Blk W1 (w.heap.size + 1) 83 #[.slice none 0 0, .int .i64 0, .int .i64 0, .int .i64 0, .int .i64 0, .int .i64 0] := by rw [hW1]; exact blk_new (by simp)
  have hC1 := hC.below HB1
  have hr := read_allO m gx gb Af nf cf a b c d e fs x y n0 W1 s hC1 hs hn0
  have z0 := G3.cell_ 0
  have z1 := G3.cell_ 1
  simp at z0 z1
  rw [hZ.out.1, hZ.out.2.2] at hr
  obtain ⟨bq, hbq⟩ : ∃ q, s.readB a b c x y = q := ⟨_, rfl⟩
  rw [hbq] at hr
  obtain ⟨q, hq⟩ : ∃ q, bq.length = q := ⟨_, rfl⟩
  rw [hq] at hr
  have HBQ := Lib.hid (And.intro hbq hq)
  clear hq hbq
  have HW1 := Lib.hid hW1
  clear hW1
  go_enter Try.func34, Try.ntmps34
  go_upto_region 1 with fail
  rw [← HW1.out]
  have hz1 : (Z == 0) = false := by simpa using hne
  have hz2 : (Z != 0) = true := by simpa using hne
  go_wp2_with (go_at_call 63; go_loud (((with_reducible refine (hr).mono ?_); rintro e' wR ⟨⟨A1, c1, rfl, hrow⟩, hCR, hTR⟩; have hnb : ∀ g, chB m gx gb g → g < w.heap.size := fun g hg => (by rcases hg with rfl | rfl | rfl; exact hlt.1; exact hlt.2.1; exact hlt.2.2); have G4R := hTR.blk G4 (fun hc => by have := hnb _ hc; omega); obtain ⟨y0, y1, y2, y3, y4, y5⟩ := cells6 G4R; have y9 := G4R.free; have HTR := (Tch.of_below (S := chB m gx gb) HB1).trans hTR)))
  obtain ⟨wz, hwz⟩ : ∃ V : World, V = st6 wR (w.heap.size + 1) (.slice none 0 0) (.int .i64 0) (.int .i64 0) (.int .i64 0) (.int .i64 0) (.int .i64 0) := ⟨_, rfl⟩
  have HZ := st6_blk G4R (.slice none 0 0) (.int .i64 0) (.int .i64 0) (.int .i64 0) (.int .i64 0) (.int .i64 0)
  have TZ := st6_tch wR (w.heap.size + 1) (.slice none 0 0) (.int .i64 0) (.int .i64 0) (.int .i64 0) (.int .i64 0) (.int .i64 0)
  rw [← hwz] at HZ TZ
  show bodyPost _ _ _ _ _ (st6 wR (w.heap.size + 1) (.slice none 0 0) (.int .i64 0) (.int .i64 0) (.int .i64 0) (.int .i64 0) (.int .i64 0))
  rw [← hwz]
  have hCZ := ((HLN.next hCR).far TZ (fun g hg => by subst hg; omega)).chip
  have hTZ : Tch (chB m gx gb) w wz := ((HTR.mono (S' := fun g => chB m gx gb g ∨ w.heap.size ≤ g) (fun g hg => Or.inl hg)).trans (TZ.mono (fun g hg => by subst hg; exact Or.inr (Nat.le_succ _)))).monoL (fun g hg h => by rcases h with h | h; exact h; omega)
  obtain ⟨x0, x1, x2, x3, x4, x5⟩ := cells6 HZ
  refine bodyPost_ret (v := .tuple #[.agg #[.slice none 0 0, .int .i64 0, .int .i64 0, .int .i64 0, .int .i64 0, .int .i64 0], .int .i64 Z]) (by simp [results, Try.results34, go_sem, x0, x1, x2, x3, x4, x5]) rfl ⟨rfl, ?_, ?_⟩
  · exact hCZ
  · exact hTZ
theorem own_keepT {w w' : World} {base n size g : Nat} {e : TypeId} {v : Value} {xs : List Value} (h : w.ownsRow base e size v n xs) (hT : Tch (fun x => x = g) w w') (hg : g < base) : w'.ownsRow base e size v n xs := by
  obtain ⟨h1, h2⟩ := h
  refine ⟨h1, ?_⟩
  rcases h2 with h2 | ⟨g', cap, cur, rfl, hb, hh, hr⟩
  · exact Or.inl h2
  · have hlt : g' < w.heap.size := by
      rcases Nat.lt_or_ge g' w.heap.size with hx | hx
      · exact hx
      · rw [Array.getElem?_eq_none hx] at hh
        cases hh
    exact Or.inr ⟨g', cap, cur, rfl, hb, (hT.far g' hlt (by omega)).trans hh, hr⟩
theorem row_cap {w : World} {B q c1 : Nat} {A1 : Option Addr} {bs : List Nat} (hq : bs.length = q) (h : bs = [] ∧ A1 = none ∧ c1 = 0 ∨ ∃ g, A1 = some ⟨g, 0, none⟩ ∧ RowT w g 5 (bs.map byteV) ∧ B ≤ g ∧ w.ownsRow B 5 1 (.slice (some ⟨g, 0, none⟩) q c1) q (bs.map byteV)) : w.ownsRow B 5 1 (.slice A1 q c1) q (bs.map byteV) ∧ q ≤ c1 ∧ c1 ≤ maxLen := by
  rcases h with ⟨rfl, rfl, rfl⟩ | ⟨g, rfl, _, _, ho⟩
  · subst hq
    exact ⟨World.ownsRow_nil _ _ _ _, Nat.le_refl _, Nat.zero_le _⟩
  · have ho2 := ho
    rcases ho2.2 with ⟨h1, _⟩ | ⟨g', cap, cur, h1, h2, h3, h4, h5, _⟩
    · cases h1
    · cases h1
      exact ⟨ho, h4, h5⟩
theorem look_yes (m gx gb : Nat) (Af : Option Addr) (nf cf : Nat) (a b c d e : Int) (fs : List Flt) (x y : Int) (n0 : Int) (w : World) (s : ChS) (hC : ChipW w m gx gb Af nf cf a b c d e fs s) (hs : Fine s n0) (hn0 : n0 ≤ 900000000) (D : List Nat) (n K P S E st : Nat) (S1 : ChS) (bs : List Nat) (h8 : Bytes8 bs) (hl : bs.length ≤ 1000000) (hZ : Hid (s.readZ a b x y = 0 ∧ s.readB a b c x y = bs ∧ s.readS a b x y = S1)) (hk : Hid (Lk bs D n K P S E st)) : Calls Try.prog 34 #[.pointer (some ⟨m, 0, none⟩), .agg #[.int .i64 x, .int .i64 y]] w fun e' w' => (∃ A' c', e' = .returned (.tuple #[.agg #[.slice A' n c', .int .i64 (K : Nat), .int .i64 (P : Nat), .int .i64 (S : Nat), .int .i64 (E : Nat), .int .i64 (st : Nat)], .int .i64 0]) ∧ w'.ownsRow w.heap.size 5 1 (.slice A' n c') n (D.map byteV)) ∧ ChipW w' m gx gb Af nf cf a b c d e fs S1 ∧ Tch (chB m gx gb) w w' := by
  have hlt := hC.lt
  have HLN := ChN.start hC
  obtain ⟨W1, hW1⟩ : ∃ W : World, W = (w.alloc (.cells #[.int .i64 x, .int .i64 y] 27)).alloc (.cells #[.slice none 0 0, .int .i64 0, .int .i64 0, .int .i64 0, .int .i64 0, .int .i64 0] 83) := ⟨_, rfl⟩
  have HB1 : Below w.heap.size w W1 := by rw [hW1]; exact ((Below.refl _ _).alloc (Nat.le_refl _) _).alloc (by simp) _
  have G3 : Blk W1 w.heap.size 27 #[.int .i64 x, .int .i64 y] := by rw [hW1]; exact (Blk.new_ w _ _).alloc_ _
  have G4 : Blk W1 (w.heap.size + 1) 83 #[.slice none 0 0, .int .i64 0, .int .i64 0, .int .i64 0, .int .i64 0, .int .i64 0] := by rw [hW1]; exact blk_new (by simp)
  have hC1 := hC.below HB1
  have hr := read_allO m gx gb Af nf cf a b c d e fs x y n0 W1 s hC1 hs hn0
  have z0 := G3.cell_ 0
  have z1 := G3.cell_ 1
  simp at z0 z1
  rw [hZ.out.1, hZ.out.2.1, hZ.out.2.2] at hr
  obtain ⟨q, hq⟩ : ∃ q, bs.length = q := ⟨_, rfl⟩
  rw [hq] at hr
  have HQ := Lib.hid hq
  have hq9 : q ≤ 1000000 := by omega
  clear hq
  have HW1 := Lib.hid hW1
  clear hW1
  go_enter Try.func34, Try.ntmps34
  go_upto_region 1 with fail
  rw [← HW1.out]
  go_wp2_with (first | (go_at_call 63; go_loud (((with_reducible refine (hr).mono ?_); rintro e' wR ⟨⟨A1, c1, rfl, hrow⟩, hCR, hTR⟩; have hnb : ∀ g, chB m gx gb g → g < w.heap.size := fun g hg => (by rcases hg with rfl | rfl | rfl; exact hlt.1; exact hlt.2.1; exact hlt.2.2); have G4R := hTR.blk G4 (fun hc => by have := hnb _ hc; omega); obtain ⟨y0, y1, y2, y3, y4, y5⟩ := cells6 G4R; have y9 := G4R.free; have HTR := (Tch.of_below (S := chB m gx gb) HB1).trans hTR; obtain ⟨hoR, hcc1, hcc2⟩ : wR.ownsRow W1.heap.size 5 1 (.slice A1 q c1) q (bs.map byteV) ∧ q ≤ c1 ∧ c1 ≤ maxLen := row_cap HQ.out hrow; have hsR := Sl.of_own hoR; clear hrow))) | (go_at_call 64; go_loud (((with_reducible refine (tread_any bs D n K P S E st hk.out q HQ.out A1 c1 wR hsR h8 hcc1 hcc2 hq9).mono ?_); rintro e' wT ⟨⟨A2, c2, rfl, hoT⟩, hbT⟩; have hszR := hTR.size; have HG := G4.lt; have G4T := G4R.below hbT G4R.lt; have HTT := HTR.then hbT; have hCT := hCR.below hbT; have G4X := G4T.alloc_ (.cells #[.int .i64 (K : Nat), .int .i64 (P : Nat), .int .i64 (S : Nat), .int .i64 (E : Nat)] 40); have HTX := HTT.then ((Below.refl _ _).alloc (Nat.le_refl _) (.cells #[.int .i64 (K : Nat), .int .i64 (P : Nat), .int .i64 (S : Nat), .int .i64 (E : Nat)] 40)); have hCX := hCT.below ((Below.refl _ _).alloc (Nat.le_refl _) (.cells #[.int .i64 (K : Nat), .int .i64 (P : Nat), .int .i64 (S : Nat), .int .i64 (E : Nat)] 40)); have hoX := hoT.alloc (.cells #[.int .i64 (K : Nat), .int .i64 (P : Nat), .int .i64 (S : Nat), .int .i64 (E : Nat)] 40); obtain ⟨y0, y1, y2, y3, y4, y5⟩ := cells6 G4X; have y9 := G4X.free))))
  obtain ⟨wz, hwz⟩ : ∃ V : World, V = st6 (wT.alloc (.cells #[.int .i64 (K : Nat), .int .i64 (P : Nat), .int .i64 (S : Nat), .int .i64 (E : Nat)] 40)) (w.heap.size + 1) (.slice A2 n c2) (.int .i64 (K : Nat)) (.int .i64 (P : Nat)) (.int .i64 (S : Nat)) (.int .i64 (E : Nat)) (.int .i64 (st : Nat)) := ⟨_, rfl⟩
  have HZ := st6_blk G4X (.slice A2 n c2) (.int .i64 (K : Nat)) (.int .i64 (P : Nat)) (.int .i64 (S : Nat)) (.int .i64 (E : Nat)) (.int .i64 (st : Nat))
  have TZ := st6_tch (wT.alloc (.cells #[.int .i64 (K : Nat), .int .i64 (P : Nat), .int .i64 (S : Nat), .int .i64 (E : Nat)] 40)) (w.heap.size + 1) (.slice A2 n c2) (.int .i64 (K : Nat)) (.int .i64 (P : Nat)) (.int .i64 (S : Nat)) (.int .i64 (E : Nat)) (.int .i64 (st : Nat))
  rw [← hwz] at HZ TZ
  show bodyPost _ _ _ _ _ (st6 (wT.alloc (.cells #[.int .i64 (K : Nat), .int .i64 (P : Nat), .int .i64 (S : Nat), .int .i64 (E : Nat)] 40)) (w.heap.size + 1) (.slice A2 n c2) (.int .i64 (K : Nat)) (.int .i64 (P : Nat)) (.int .i64 (S : Nat)) (.int .i64 (E : Nat)) (.int .i64 (st : Nat)))
  rw [← hwz]
  have hCZ := ((HLN.next hCX).far TZ (fun g hg => by subst hg; omega)).chip
  have hTZ : Tch (chB m gx gb) w wz := ((HTX.mono (S' := fun g => chB m gx gb g ∨ w.heap.size ≤ g) (fun g hg => Or.inl hg)).trans (TZ.mono (fun g hg => by subst hg; exact Or.inr (Nat.le_succ _)))).monoL (fun g hg h => by rcases h with h | h; exact h; omega)
  obtain ⟨x0, x1, x2, x3, x4, x5⟩ := cells6 HZ
  refine bodyPost_ret (v := .tuple #[.agg #[.slice A2 n c2, .int .i64 (K : Nat), .int .i64 (P : Nat), .int .i64 (S : Nat), .int .i64 (E : Nat), .int .i64 (st : Nat)], .int .i64 0]) (by simp [results, Try.results34, go_sem, x0, x1, x2, x3, x4, x5]) rfl ⟨⟨_, _, rfl, ?_⟩, ?_, ?_⟩
  · exact own_base (own_keepT hoX TZ (by have := G4R.lt; omega)) (by have := G4R.lt; omega)
  · exact hCZ
  · exact hTZ
end Go.Proofs.Ytcpniplfkillbaa
namespace Go.Proofs.Ytcpniplfkillbaa
structure Fd where
  b : Int
  g : Int
  k : Int
  p : Int
  s : Int
  e : Int
def lastS (n : Int) (f : Fd) : Int := if f.k = 3 then max n f.e else n
def lastZ (fs : List Fd) : Int := fs.foldl lastS 0
def newer (a b : Fd) : Bool := if a.e = b.e then decide (b.s < a.s) else decide (b.e < a.e)
def counts (last : Int) (f : Fd) : Bool := (decide (f.k = 1) || decide (f.k = 2)) && decide (f.e ≤ last)
def stepN (last p : Int) (o : Option Fd) (f : Fd) : Option Fd :=
  if counts last f = true ∧ f.p = p then
    match o with
    | none => some f
    | some x => if newer f x = true then some f else some x
  else o
def newestZ (last : Int) (fs : List Fd) (p : Int) : Option Fd := fs.foldl (stepN last p) none
def staleZ (fs : List Fd) : List Fd := fs.filter (fun f => decide (lastZ fs < f.e))
def IsAll (fs L : List Fd) : Prop := L.Pairwise (fun x y => x.p < y.p) ∧ ∀ x, x ∈ L ↔ (newestZ (lastZ fs) fs x.p = some x ∧ x.k = 1)
/-! ### last -/
/-! ### newer -/
/-! ### newest -/
def Cand (last p : Int) (x : Fd) : Prop := counts last x = true ∧ x.p = p
/-! ### all -/
theorem sorted_unique : ∀ (a b : List Fd), a.Pairwise (fun x y => x.p < y.p) → b.Pairwise (fun x y => x.p < y.p) → (∀ x, x ∈ a ↔ x ∈ b) → a = b
  | [], [], _, _, _ => rfl
  | [], y :: b, _, _, h => by have := (h y).2 (by simp); simp at this
  | x :: a, [], _, _, h => by have := (h x).1 (by simp); simp at this
  | x :: a, y :: b, ha, hb, h => by
    obtain ⟨ha1, ha2⟩ := List.pairwise_cons.1 ha
    obtain ⟨hb1, hb2⟩ := List.pairwise_cons.1 hb
    have exy : x = y := by
      rcases List.mem_cons.1 ((h x).1 (by simp)) with e | e
      · exact e
      · rcases List.mem_cons.1 ((h y).2 (by simp)) with e2 | e2
        · exact e2.symm
        · have := hb1 x e
          have := ha1 y e2
          omega
    subst exy
    congr 1
    refine sorted_unique a b ha2 hb2 (fun z => ?_)
    constructor
    · intro hz
      rcases List.mem_cons.1 ((h z).1 (by simp [hz])) with e | e
      · subst e
        have := ha1 z hz
        omega
      · exact e
    · intro hz
      rcases List.mem_cons.1 ((h z).2 (by simp [hz])) with e | e
      · subst e
        have := hb1 z hz
        omega
      · exact e
theorem IsAll.congr {fs gs a b : List Fd} (ha : IsAll fs a) (hb : IsAll gs b) (h : ∀ p, newestZ (lastZ fs) fs p = newestZ (lastZ gs) gs p) : a = b :=
  sorted_unique a b ha.1 hb.1 (fun x => by rw [ha.2 x, hb.2 x, h x.p])
/-! ### the laws -/
def lastOf (p : Int) (o : Option Fd) (f : Fd) : Option Fd := if f.p = p then some f else o
end Go.Proofs.Ytcpniplfkillbaa
namespace Go.Proofs.Ytcpniplfkillbaa
open Go.ChangeShapes Go.WideShapes Go.ChangeAt Go.RowKit Go.Deep
def LeafOk : Option IntKind → Value → Prop
  | some k, v => ∃ z, v = .int k z ∧ (Lit.int k z).wf = true
  | none, v => ∃ b, v = .bool b
def Flat : List (Option IntKind) → List Value → Prop
  | [], cs => cs = []
  | l :: ls, cs => ∃ v r, cs = v :: r ∧ LeafOk l v ∧ Flat ls r
theorem Flat.append : ∀ {ls ms : List (Option IntKind)} {cs ds : List Value}, Flat ls cs → Flat ms ds → Flat (ls ++ ms) (cs ++ ds)
  | [], _, cs, ds, h, k => by
    obtain rfl : cs = [] := h
    exact k
  | _ :: ls, _, _, _, h, k => by
    obtain ⟨v, r, rfl, h1, h2⟩ := h
    exact ⟨v, r ++ _, rfl, h1, h2.append k⟩
theorem Flat.length : ∀ {ls : List (Option IntKind)} {cs : List Value}, Flat ls cs → cs.length = ls.length
  | [], cs, h => by
    obtain rfl : cs = [] := h
    rfl
  | _ :: ls, _, h => by
    obtain ⟨v, r, rfl, _, h2⟩ := h
    simp [h2.length]
def flatFields (P : Program) (sh : TypeId → Option (List (Option IntKind))) : List Field → Nat → Option (List (Option IntKind))
  | [], _ => some []
  | f :: fs, o =>
    if f.offset = o then
      match sh f.type with
      | some l => if P.cellsOf f.type = l.length then
          match flatFields P sh fs (o + l.length) with
          | some r => some (l ++ r)
          | none => none
        else none
      | none => none
    else none
def flatShape (P : Program) : Nat → TypeId → Option (List (Option IntKind))
  | 0, _ => none
  | n + 1, t => match P.underlying t with
    | some (.int k) => some [some k]
    | some .bool => some [none]
    | some (.struct fs) => match flatFields P (flatShape P n) fs.toList 0 with
      | some l => if P.cellsOf t = l.length then some l else none
      | none => none
    | _ => none
section
variable {H : Type} {enc : TypeId × Value → H} {P : Program} {w : World} {base : Nat} {spare : Nat → Bool} {held : Bool}
theorem flat_fields {sh : TypeId → Option (List (Option IntKind))} {n : Nat} (hsh : ∀ t ls cs x, sh t = some ls → DataW.trod enc P w base spare held n t cs = some x → Flat ls cs) (cs : List Value) :
    ∀ (fs : List Field) (o : Nat) (ls : List (Option IntKind)), flatFields P sh fs o = some ls → (∀ f ∈ fs, ∃ y, DataW.trod enc P w base spare held n f.type ((cs.drop f.offset).take (P.cellsOf f.type)) = some y) → cs.length = o + ls.length → Flat ls (cs.drop o)
  | [], o, ls, h, _, hl => by
    simp only [flatFields, Option.some.injEq] at h
    subst h
    show cs.drop o = []
    rw [List.drop_eq_nil_iff]
    simp at hl
    omega
  | f :: fs, o, ls, h, hf, hl => by
    unfold flatFields at h
    split at h
    · rename_i ho
      cases hs : sh f.type with
      | none => rw [hs] at h; cases h
      | some l =>
        rw [hs] at h
        dsimp only at h
        split at h
        · rename_i hc
          cases hr : flatFields P sh fs (o + l.length) with
          | none => rw [hr] at h; cases h
          | some r =>
            rw [hr] at h
            simp only [Option.some.injEq] at h
            subst h
            rw [List.length_append] at hl
            have h1 := flat_fields hsh cs fs (o + l.length) r hr (fun g hg => hf g (List.mem_cons_of_mem _ hg)) (by omega)
            obtain ⟨y, hy⟩ := hf f (List.mem_cons_self)
            have h2 := hsh _ _ _ _ hs hy
            rw [ho, hc] at h2
            have h3 := h2.append h1
            rw [← List.drop_drop, List.take_append_drop] at h3
            exact h3
        · cases h
    · cases h
theorem flat_trod : ∀ (m n : Nat) (t : TypeId) (ls : List (Option IntKind)) (cs : List Value) (x : DataW H × List MemPlace), flatShape P m t = some ls → DataW.trod enc P w base spare held n t cs = some x → Flat ls cs
  | 0, _, _, _, _, _, h, _ => by
    unfold flatShape at h
    cases h
  | m + 1, n, t, ls, cs, x, h, hx => by
    unfold flatShape at h
    split at h
    · rename_i k hk
      simp only [Option.some.injEq] at h
      subst h
      obtain ⟨z, rfl, _, hw⟩ := DataW.trod_int hk hx
      exact ⟨_, _, rfl, ⟨z, rfl, hw⟩, rfl⟩
    · rename_i hk
      simp only [Option.some.injEq] at h
      subst h
      obtain ⟨z, rfl, _⟩ := DataW.trod_bool hk hx
      exact ⟨_, _, rfl, ⟨z, rfl⟩, rfl⟩
    · rename_i fs hk
      obtain ⟨ys, n', rfl, _, hlen, hyl, hf⟩ := DataW.trod_struct hk hx
      cases hr : flatFields P (flatShape P m) fs.toList 0 with
      | none => rw [hr] at h; cases h
      | some l =>
        rw [hr] at h
        dsimp only at h
        split at h
        · rename_i hc
          simp only [Option.some.injEq] at h
          subst h
          have := flat_fields (sh := flatShape P m) (n := n') (fun t ls cs x h k => flat_trod m n' t ls cs x h k) cs fs.toList 0 l hr (by
            intro f hfm
            obtain ⟨i, hi, he⟩ := List.getElem_of_mem hfm
            have hi' : i < fs.size := by simpa using hi
            have hfi : fs[i]? = some f := by
              rw [Array.getElem?_eq_getElem hi', ← he]
              simp
            have h1 := hf i f hfi
            rw [List.getElem?_eq_getElem (by omega)] at h1
            exact ⟨_, h1⟩) (by omega)
          simpa using this
        · cases h
    · cases h
end
def SlE (C : Nat) (w : World) (B : Nat) (A : Option Addr) (es : List (List Value)) : Prop :=
  es = [] ∨ ∃ b off, A = some ⟨b, off, none⟩ ∧ b < B ∧ ∀ k x, es[k]? = some x → ∀ j u, x[j]? = some u → w.cell? ⟨b, off + k * C + j, none⟩ = some u
theorem SlE.at_ {C : Nat} {w : World} {B : Nat} {A : Option Addr} {es : List (List Value)} (h : SlE C w B A es) (hn : 0 < es.length) :
    ∃ b off, A = some ⟨b, off, none⟩ ∧ b < B ∧ ∀ k x, es[k]? = some x → ∀ j u, x[j]? = some u → w.cell? ⟨b, off + k * C + j, none⟩ = some u := by
  rcases h with rfl | h
  · simp at hn
  · exact h
theorem SlE.below {C : Nat} {w w' : World} {B : Nat} {A : Option Addr} {es : List (List Value)} (h : SlE C w B A es) (hb : Below B w w') : SlE C w' B A es := by
  rcases h with h | ⟨b, off, e, hlt, hc⟩
  · exact Or.inl h
  · exact Or.inr ⟨b, off, e, hlt, fun k x hx j u hu => (hb.cell (p := ⟨b, _, none⟩) hlt).trans (hc k x hx j u hu)⟩
theorem SlE.mono {C : Nat} {w : World} {B B' : Nat} {A : Option Addr} {es : List (List Value)} (h : SlE C w B A es) (hB : B ≤ B') : SlE C w B' A es := by
  rcases h with h | ⟨b, off, e, hlt, hc⟩
  · exact Or.inl h
  · exact Or.inr ⟨b, off, e, by omega, hc⟩
theorem SlE.next {C : Nat} {w w' : World} {A : Option Addr} {es : List (List Value)} (h : SlE C w w.heap.size A es) (hb : Below w.heap.size w w') : SlE C w' w'.heap.size A es := (h.below hb).mono hb.size
section
variable {H : Type} {enc : TypeId × Value → H} {P : Program} {w : World} {base : Nat} {spare : Nat → Bool} {held : Bool}
def eltOf (w : World) (b off C i : Nat) : List Value := (List.range C).map fun j => (w.cell? ⟨b, off + i * C + j, none⟩).getD undef
theorem flats_value {r : Reach} {b0 : Nat} {t e : TypeId} {ls : List (Option IntKind)} {n : Nat} {v : Value} {d : DataW H} {p : List MemPlace} (ht : P.underlying t = some (.slice e)) (hsh : flatShape P n e = some ls) (hC : P.cellsOf e = ls.length) (hpos : 0 < ls.length)
    (hv : Value.okWide P w r b0 t v) (h : DataW.Trod enc P w base spare held t v d p) :
    ∃ (A : Option Addr) (len cap : Nat) (es : List (List Value)), v = .slice A len cap ∧ len = es.length ∧ len ≤ cap ∧ cap ≤ maxLen ∧ SlE ls.length w w.heap.size A es ∧ ∀ x ∈ es, Flat ls x := by
  obtain ⟨a0, len, cap, rfl⟩ := okWide_slice ht hv
  obtain ⟨fuel, hf⟩ := h
  rcases open_slice ht hf with hcs | ⟨a, len', cap', m, n', D, Pl, hcs, hb, hl, hm', hm, hx, hi⟩
  · have hcs := hcs.1
    simp [Value.cells] at hcs
    obtain ⟨rfl, rfl, rfl⟩ := hcs
    exact ⟨none, 0, 0, [], rfl, rfl, Nat.le_refl _, by unfold maxLen; omega, Or.inl rfl, by simp⟩
  · simp [Value.cells] at hcs
    obtain ⟨rfl, rfl, rfl⟩ := hcs
    have hlm : len ≤ m := by rw [hm]; split <;> omega
    have key : ∀ i, i < len → ∃ cs', cs'.length = ls.length ∧ Flat ls cs' ∧ ∀ j u, cs'[j]? = some u → w.cell? (a.add (i * ls.length + j)) = some u := by
      intro i hlt
      obtain ⟨cs', hc, ht'⟩ := hi i (by omega)
      rw [hC] at hc
      obtain ⟨_, hcl, hat⟩ := World.cells?_some hc
      refine ⟨cs', hcl, flat_trod n n' e ls cs' _ hsh ht', fun j u hu => ?_⟩
      have hj : j < cs'.length := (List.getElem?_eq_some_iff.1 hu).1
      have := hat j (by omega)
      rw [← Go.Deep.add_add, this, hu]
    rcases Nat.eq_zero_or_pos len with h0 | h0
    · subst h0
      exact ⟨some a, 0, cap, [], rfl, rfl, hl, hm', Or.inl rfl, by simp⟩
    · obtain ⟨b, off, spot⟩ := a
      obtain ⟨c0, hc0, _, hu0⟩ := key 0 h0
      have hu0 := hu0 0 (c0[0]'(by omega)) (List.getElem?_eq_getElem (by omega))
      have hsp : spot = none := by simpa [Addr.add] using World.cell?_spot hu0
      subst hsp
      have hb : b < w.heap.size := by simpa [Addr.add] using World.block_lt_of_cell? _ _ hu0
      have hel : ∀ i, i < len → Flat ls (eltOf w b off ls.length i) ∧ ∀ j u, (eltOf w b off ls.length i)[j]? = some u → w.cell? ⟨b, off + i * ls.length + j, none⟩ = some u := by
        intro i hlt
        obtain ⟨cs', hcl, hfl, hat⟩ := key i hlt
        have heq : eltOf w b off ls.length i = cs' := by
          apply List.ext_getElem
          · simp [eltOf, hcl]
          · intro j h1 h2
            have := hat j (cs'[j]) (List.getElem?_eq_getElem h2)
            rw [add_plain] at this
            simp only [eltOf, List.getElem_map, List.getElem_range]
            rw [Nat.add_assoc, this]
            rfl
        rw [heq]
        refine ⟨hfl, fun j u hu => ?_⟩
        have := hat j u hu
        rwa [add_plain, ← Nat.add_assoc] at this
      refine ⟨some ⟨b, off, none⟩, len, cap, (List.range len).map (eltOf w b off ls.length), rfl, by simp, hl, hm', ?_, ?_⟩
      · right
        refine ⟨b, off, rfl, hb, fun i f hv j u hu => ?_⟩
        obtain ⟨hlt, rfl⟩ := List.getElem?_eq_some_iff.1 hv
        have hlt' : i < len := by simpa using hlt
        simp only [List.getElem_map, List.getElem_range] at hu
        exact (hel i hlt').2 j u hu
      · intro f hf
        obtain ⟨i, hi', rfl⟩ := List.mem_map.1 hf
        exact (hel i (by simpa using hi')).1
end
theorem Flat.int {k : IntKind} {ls : List (Option IntKind)} {cs : List Value} (h : Flat (some k :: ls) cs) : ∃ z r, cs = .int k z :: r ∧ (Lit.int k z).wf = true ∧ Flat ls r := by
  obtain ⟨v, r, rfl, ⟨z, rfl, hw⟩, h2⟩ := h
  exact ⟨z, r, rfl, hw, h2⟩
theorem Flat.bool {ls : List (Option IntKind)} {cs : List Value} (h : Flat (none :: ls) cs) : ∃ z r, cs = .bool z :: r ∧ Flat ls r := by
  obtain ⟨v, r, rfl, ⟨z, rfl⟩, h2⟩ := h
  exact ⟨z, r, rfl, h2⟩
theorem Flat.nil {cs : List Value} (h : Flat [] cs) : cs = [] := h
end Go.Proofs.Ytcpniplfkillbaa
namespace Go.Proofs.Ytcpniplfkillbaa
open Go.ChangeShapes Go.WideShapes Go.ChangeAt Go.RowKit
def iOf : Value → Int
  | .int _ q => q
  | _ => 0
def fCs (x : Fd) : List Value := [.int .i64 x.b, .int .i64 x.g, .int .i64 x.k, .int .i64 x.p, .int .i64 x.s, .int .i64 x.e]
def FdOk (x : Fd) : Prop := i64in x.b ∧ i64in x.g ∧ i64in x.k ∧ i64in x.p ∧ i64in x.s ∧ i64in x.e
def SlFd (w : World) (B : Nat) (A : Option Addr) (fs : List Fd) : Prop := SlE 6 w B A (fs.map fCs)
theorem SlFd.next {w w' : World} {A : Option Addr} {fs : List Fd} (h : SlFd w w.heap.size A fs) (hb : Below w.heap.size w w') : SlFd w' w'.heap.size A fs := SlE.next h hb
theorem SlFd.below {w w' : World} {B : Nat} {A : Option Addr} {fs : List Fd} (h : SlFd w B A fs) (hb : Below B w w') : SlFd w' B A fs := SlE.below h hb
theorem SlFd.mono {w : World} {B B' : Nat} {A : Option Addr} {fs : List Fd} (h : SlFd w B A fs) (hB : B ≤ B') : SlFd w B' A fs := SlE.mono h hB
theorem SlFd.nil_ {w : World} {B : Nat} {A : Option Addr} : SlFd w B A [] := Or.inl rfl
theorem SlFd.at_ {w : World} {B : Nat} {A : Option Addr} {fs : List Fd} (h : SlFd w B A fs) (hn : 0 < fs.length) :
    ∃ b off, A = some ⟨b, off, none⟩ ∧ b < B ∧ ∀ (k : Nat) (x : Fd), fs[k]? = some x →
      w.cell? ⟨b, off + k * 6, none⟩ = some (.int .i64 x.b) ∧ w.cell? ⟨b, off + k * 6 + 1, none⟩ = some (.int .i64 x.g) ∧ w.cell? ⟨b, off + k * 6 + 2, none⟩ = some (.int .i64 x.k) ∧ w.cell? ⟨b, off + k * 6 + 3, none⟩ = some (.int .i64 x.p) ∧ w.cell? ⟨b, off + k * 6 + 4, none⟩ = some (.int .i64 x.s) ∧ w.cell? ⟨b, off + k * 6 + 5, none⟩ = some (.int .i64 x.e) := by
  obtain ⟨b, off, e, hb, hc⟩ := SlE.at_ h (by simpa using hn)
  refine ⟨b, off, e, hb, fun k x hk => ?_⟩
  have hx : (fs.map fCs)[k]? = some (fCs x) := by simp [hk]
  exact ⟨hc k _ hx 0 _ rfl, hc k _ hx 1 _ rfl, hc k _ hx 2 _ rfl, hc k _ hx 3 _ rfl, hc k _ hx 4 _ rfl, hc k _ hx 5 _ rfl⟩
theorem flat_get : ∀ (L : List Fd) (k j : Nat) (x : Fd), L[k]? = some x → j < 6 → (L.flatMap fCs)[k * 6 + j]? = (fCs x)[j]?
  | y :: L, 0, j, x, h, hj => by
    simp at h
    subst h
    rw [List.flatMap_cons, List.getElem?_append_left (by simp [fCs]; omega)]
    simp
  | y :: L, k + 1, j, x, h, hj => by
    rw [List.flatMap_cons, List.getElem?_append_right (by simp [fCs]; omega), show (k + 1) * 6 + j - (fCs y).length = k * 6 + j by simp [fCs]; omega]
    exact flat_get L k j x (by simpa using h) hj
theorem flat_one1 (x : Fd) : ∀ u ∈ fCs x, u.oneCell' = true := by
  intro u hu
  simp [fCs] at hu
  rcases hu with rfl | rfl | rfl | rfl | rfl | rfl <;> rfl
def RowFd (w : World) (base : Nat) (v : Value) (L : List Fd) : Prop := w.ownsRow base 65 6 v L.length (L.flatMap fCs)
theorem RowFd.nil_ (w : World) (base : Nat) : RowFd w base (.slice none 0 0) [] := World.ownsRow_nil w base _ _
theorem RowFd.below {w w' : World} {base : Nat} {v : Value} {L : List Fd} (h : RowFd w base v L) (hb : Below w.heap.size w w') : RowFd w' base v L :=
  World.ownsRow.kept h (row := none) ⟨hb.os, hb.tape, hb.output, hb.size, fun k hk _ => hb.block k hk⟩ (by cases v.ownBlock <;> simp)
theorem RowFd.base {w : World} {B B' : Nat} {v : Value} {L : List Fd} (h : RowFd w B v L) (hB : B' ≤ B) : RowFd w B' v L := by
  obtain ⟨h1, h2⟩ := h
  refine ⟨h1, ?_⟩
  rcases h2 with h2 | ⟨g, cap, cur, hv, hb, h⟩
  · exact Or.inl h2
  · exact Or.inr ⟨g, cap, cur, hv, by omega, h⟩
theorem RowFd.sl {w : World} {base : Nat} {v : Value} {L : List Fd} (h : RowFd w base v L) : ∃ A c, v = .slice A L.length c ∧ SlFd w w.heap.size A L ∧ L.length ≤ c ∧ c ≤ maxLen := by
  obtain ⟨hl, h2⟩ := h
  rcases h2 with ⟨rfl, h0⟩ | ⟨g, cap, cur, hv, hb, hh, hnc, hcm, hsz, ht⟩
  · obtain rfl := List.eq_nil_of_length_eq_zero h0
    exact ⟨none, 0, rfl, SlFd.nil_, Nat.le_refl _, by unfold maxLen; omega⟩
  · refine ⟨_, cap, hv, Or.inr ⟨g, 0, rfl, ?_, fun k x hx j u hu => ?_⟩, hnc, hcm⟩
    · rcases Nat.lt_or_ge g w.heap.size with hx | hx
      · exact hx
      · rw [Array.getElem?_eq_none hx] at hh
        cases hh
    · rw [List.getElem?_map] at hx
      obtain ⟨y, hy, rfl⟩ := Option.map_eq_some_iff.1 hx
      have hj : j < 6 := (List.getElem?_eq_some_iff.1 hu).1
      have hk : k < L.length := (List.getElem?_eq_some_iff.1 hy).1
      have e := flat_get L k j y hy hj
      rw [hu, ← ht, List.getElem?_take_of_lt (by omega)] at e
      rw [Joins.cell_of_block hh, Nat.zero_add]
      simpa using e
def newerZ (e s e' s' : Int) : Bool := if e = e' then decide (s' < s) else decide (e' < e)
end Go.Proofs.Ytcpniplfkillbaa
namespace Go.Proofs.Ytcpniplfkillbaa
open Go.ChangeShapes Go.WideShapes Go.ChangeAt Go.RowKit
attribute [local go_sem ↓] Go.wp_at_zero Go.wp_at_succ
theorem RowFd.snoc {w : World} {base : Nat} {v : Value} {L : List Fd} {x : Fd} (h : w.ownsRow base 65 6 v (L.length + 1) (L.flatMap fCs ++ fCs x)) : RowFd w base v (L ++ [x]) := by
  unfold RowFd
  rw [List.length_append, List.flatMap_append]
  simpa using h
theorem same_yes (L : List Fd) (A B : Option Addr) (n c d : Nat) (w : World) (hn : L.length = n) (n1 : n ≤ 1000000) (h1 : SlFd w w.heap.size A L) (h2 : SlFd w w.heap.size B L) : Calls Try.prog 20 #[.slice A n c, .slice B n d] w fun e' w' => e' = .returned (.bool true) ∧ Below w.heap.size w w' := by
  have HN := Lib.hid hn
  have H1 := Lib.hid h1
  have H2 := Lib.hid h2
  clear hn h1 h2
  go_enter Try.func20, Try.ntmps20
  go_wp2
  go_loopw [5] (fun s5 wr => ∃ k : Nat, k ≤ n ∧ s5 = .int .i64 (k : Int) ∧ Below w.heap.size w wr) (fun s5 _ => n - (iOf s5).toNat)
  case atStart => exact ⟨0, Nat.zero_le _, rfl, Below.refl _ _⟩
  case round =>
    obtain ⟨k, hk, rfl, hB⟩ := hrel
    by_cases hlt : k < n
    · obtain ⟨b1, o1, rfl, l1, q1⟩ := (H1.out.below hB).at_ (by have := HN.out; omega)
      obtain ⟨b2, o2, rfl, l2, q2⟩ := (H2.out.below hB).at_ (by have := HN.out; omega)
      obtain ⟨x, hx⟩ : ∃ x, L[k]? = some x := ⟨_, List.getElem?_eq_getElem (by have := HN.out; omega)⟩
      obtain ⟨x0, x1, x2, x3, x4, x5⟩ := q1 k x hx
      obtain ⟨y0, y1, y2, y3, y4, y5⟩ := q2 k x hx
      have k0 : (0 : Int) ≤ (k : Int) := by omega
      have k1 : (k : Int) < (n : Int) := by omega
      clear hx q1 q2
      go_upto_region 6 with fail
      refine wp_region_noPanic ?_
      refine wp_region_held_drew (S := (fun w' => w'.cell? ⟨b1, o1 + k * 6, none⟩ = some (.int .i64 x.b) ∧ w'.cell? ⟨b1, o1 + k * 6 + 1, none⟩ = some (.int .i64 x.g) ∧ w'.cell? ⟨b1, o1 + k * 6 + 2, none⟩ = some (.int .i64 x.k) ∧ w'.cell? ⟨b1, o1 + k * 6 + 3, none⟩ = some (.int .i64 x.p) ∧ w'.cell? ⟨b1, o1 + k * 6 + 4, none⟩ = some (.int .i64 x.s) ∧ w'.cell? ⟨b1, o1 + k * 6 + 5, none⟩ = some (.int .i64 x.e) ∧ w'.cell? ⟨b2, o2 + k * 6, none⟩ = some (.int .i64 x.b) ∧ w'.cell? ⟨b2, o2 + k * 6 + 1, none⟩ = some (.int .i64 x.g) ∧ w'.cell? ⟨b2, o2 + k * 6 + 2, none⟩ = some (.int .i64 x.k) ∧ w'.cell? ⟨b2, o2 + k * 6 + 3, none⟩ = some (.int .i64 x.p) ∧ w'.cell? ⟨b2, o2 + k * 6 + 4, none⟩ = some (.int .i64 x.s) ∧ w'.cell? ⟨b2, o2 + k * 6 + 5, none⟩ = some (.int .i64 x.e))) (by kernel_rfl) ?_ (fun hHeld => ?_)
      · (first | exact ⟨x0, x1, x2, x3, x4, x5, y0, y1, y2, y3, y4, y5⟩ | assumption)
      refine tk 0 ⟨some 17, .move (.tmp 0), 51, "same.go:148", #[], none⟩ ?_; try simp only [Act.put, pz1, pz2, pz3]
      refine tk 1 ⟨some 18, .move (.tmp 5), 3, "same.go:148", #[], none⟩ ?_; try simp only [Act.put, pz1, pz2, pz3]
      refine tk 2 ⟨some 19, .indexAddr 51 (.tmp 17) (.tmp 18), 0, "same.go:148", #[⟨0, .data⟩, ⟨1, .data⟩], none⟩ ?_; try simp only [Act.put, pz1, pz2, pz3]
      refine tk 3 ⟨some 20, .load 65 (.tmp 19), 65, "same.go:148", #[⟨2, .data⟩], none⟩ ?_; try simp only [Act.put, pz1, pz2, pz3]
      refine tk 4 ⟨some 21, .move (.tmp 1), 51, "same.go:148", #[], none⟩ ?_; try simp only [Act.put, pz1, pz2, pz3]
      refine tk 5 ⟨some 22, .move (.tmp 5), 3, "same.go:148", #[], none⟩ ?_; try simp only [Act.put, pz1, pz2, pz3]
      refine tk 6 ⟨some 23, .indexAddr 51 (.tmp 21) (.tmp 22), 0, "same.go:148", #[⟨4, .data⟩, ⟨5, .data⟩], none⟩ ?_; try simp only [Act.put, pz1, pz2, pz3]
      refine tk 7 ⟨some 24, .load 65 (.tmp 23), 65, "same.go:148", #[⟨6, .data⟩], none⟩ ?_; try simp only [Act.put, pz1, pz2, pz3]
      refine tk 8 ⟨some 25, .binOp .neq 65 (.tmp 20) (.tmp 24) 65, 4, "same.go:148", #[⟨3, .data⟩, ⟨7, .data⟩], none⟩ ?_; try simp only [Act.put, pz1, pz2, pz3]
      refine wpAnyH_done (by kernel_rfl) ?_ _
      refine NoPanic.normal ?_
      go_wp2_with fail
      go_roundw
      case rel => exact ⟨k + 1, by omega, by go_num, (by first | exact hB | exact hB.drew)⟩
      case measure => simp [iOf]; omega
    · obtain rfl : k = n := by omega
      go_wp2
      go_ret
      exact ⟨rfl, hB⟩
end Go.Proofs.Ytcpniplfkillbaa
