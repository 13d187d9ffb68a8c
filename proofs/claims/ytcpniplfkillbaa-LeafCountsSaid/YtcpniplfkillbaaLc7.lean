/- New of chapter 7's own chip: what it makes first; its pages. -/
import Derived.Test.YtcpniplfkillbaaLc6
import Derived.Test.YtcpniplfkillbaaLc3
set_option linter.unusedSimpArgs false
set_option linter.unusedVariables false
set_option maxRecDepth 100000
set_option maxHeartbeats 16000000
namespace Go.Proofs.Ytcpniplfkillbaa
open Go.ChangeShapes Go.WideShapes Go.ChangeAt Go.RowKit
theorem rnew_yes (a b c d e : Int) (fs : List Flt) (A : Option Addr) (c0 : Nat) (w : World) (hs : SlF w w.heap.size A fs) (NB NX RW : Nat) (hNB : (NB : Int) = a) (hNX : NX = (a * b * (c + 16)).toNat) (HRW : Hid ((RW : Int) = c + 16)) (hfl : fs.length ≤ 100000) (HP : Hid (planMay a b c d e fs = true)) : Calls Try.prog 31 #[.agg #[.int .i64 a, .int .i64 b, .int .i64 c, .int .i64 d, .int .i64 e], .slice A fs.length c0] w fun e' w' => ∃ (m gB gN gW gD : Nat) (AF : Option Addr) (cf : Nat), e' = .returned (.pointer (some ⟨m, 0, none⟩)) ∧ RefW w' m gB gN gW gD w.heap.size AF fs.length cf a b c d e fs (ChS.new NX NB) ∧ Below w.heap.size w w' := by
  have HB0 : Below w.heap.size w (w.alloc (.cells #[.int .i64 a, .int .i64 b, .int .i64 c, .int .i64 d, .int .i64 e] 23)) := (Below.refl _ _).alloc (Nat.le_refl _) _
  have G1 : Blk (w.alloc (.cells #[.int .i64 a, .int .i64 b, .int .i64 c, .int .i64 d, .int .i64 e] 23)) w.heap.size 23 #[.int .i64 a, .int .i64 b, .int .i64 c, .int .i64 d, .int .i64 e] := Blk.new_ _ _ _
  have HSF := hs.next HB0
  have HNX := Lib.hid hNX
  clear hNX
  obtain ⟨g1, g2, g3, g4, g5, g6, -⟩ := may_bd (planMay_bd HP.out).1
  have hRWb : RW ≤ 1000 := by have := HRW.out; omega
  have hMb := mul_bd (x := a) (y := b) (lo := 8) (hi := 20) g1 g2 g3 g4 (by omega) (by omega)
  have HM := Lib.hid (planMay_bd HP.out).1
  clear g5 g6
  have HS : w.heap.size ≤ (w.alloc (.cells #[.int .i64 a, .int .i64 b, .int .i64 c, .int .i64 d, .int .i64 e] 23)).heap.size := HB0.size
  go_enter Try.func31, Try.ntmps31
  go_upto_region 3 with (go_at_call 58; ((with_reducible refine (rpmay_b a b c d e fs _ _ _ _ HSF HP).mono ?_); rintro e' wN ⟨rfl, hb⟩; replace HSF := HSF.next hb; replace HB0 := btr HB0 HB0.size hb; replace G1 := G1.below hb G1.lt))
  replace HS := HB0.size
  have HY := cells5 G1
  go_cut [5] (fun s5 wx => ∃ (m gN gW gD : Nat) (AF : Option Addr) (cf : Nat), s5 = .pointer (some ⟨m, 0, none⟩) ∧ NewL wx w m gN gW gD AF cf a b c d e fs NB RW 0 (.slice none 0 0) [])
  case first =>
    refine wp_region_noPanic ?_
    refine wp_region_held_drew (S := (fun w' => w'.cell? ⟨w.heap.size, 0, none⟩ = some (.int .i64 a) ∧ w'.cell? ⟨w.heap.size, 1, none⟩ = some (.int .i64 b) ∧ w'.cell? ⟨w.heap.size, 2, none⟩ = some (.int .i64 c) ∧ w'.cell? ⟨w.heap.size, 3, none⟩ = some (.int .i64 d) ∧ w'.cell? ⟨w.heap.size, 4, none⟩ = some (.int .i64 e))) (by kernel_rfl) ?_ (fun hHeld => ?_)
    · (first | exact HY | assumption)
    refine wpAnyH_take (i := 0) (oi := ⟨some 11, .load 23 (.tmp 2), 23, "ref.go:30", #[], none⟩) (v := ?_) rfl (by kernel_rfl) (by kernel_rfl) (by kernel_rfl) (fun _ _ _ h => h) (Or.inl ⟨by rfl, ?_⟩) (by assumption) ?_; rotate_left; (· (intro wS hSw; (try dsimp only at hSw); go_simp; (try with_reducible rfl))); try simp only [Act.put, pz1, pz2, pz3]
    refine wpAnyH_take (i := 1) (oi := ⟨some 12, .move (.tmp 1), 24, "ref.go:30", #[], none⟩) (v := ?_) rfl (by kernel_rfl) (by kernel_rfl) (by kernel_rfl) (fun _ _ _ h => h) (Or.inl ⟨by rfl, ?_⟩) (by assumption) ?_; rotate_left; (· (intro wS hSw; (try dsimp only at hSw); go_simp; (try with_reducible rfl))); try simp only [Act.put, pz1, pz2, pz3]
    refine wpAnyH_take (i := 3) (oi := ⟨some 14, .fieldAddr 23 (.tmp 2) 0, 0, "ref.go:30", #[], none⟩) (v := ?_) rfl (by kernel_rfl) (by kernel_rfl) (by kernel_rfl) (fun _ _ _ h => h) (Or.inl ⟨by rfl, ?_⟩) (by assumption) ?_; rotate_left; (· (intro wS hSw; (try dsimp only at hSw); go_simp; (try with_reducible rfl))); try simp only [Act.put, pz1, pz2, pz3]
    refine wpAnyH_take (i := 4) (oi := ⟨some 15, .load 3 (.tmp 14), 3, "ref.go:30", #[⟨3, .data⟩], none⟩) (v := ?_) rfl (by kernel_rfl) (by kernel_rfl) (by kernel_rfl) (fun _ _ _ h => h) (Or.inl ⟨by rfl, ?_⟩) (by assumption) ?_; rotate_left; (· (intro wS hSw; (try dsimp only at hSw); go_simp; (try with_reducible rfl))); try simp only [Act.put, pz1, pz2, pz3]
    refine wpAnyH_take (i := 6) (oi := ⟨some 17, .fieldAddr 23 (.tmp 2) 0, 0, "ref.go:30", #[], none⟩) (v := ?_) rfl (by kernel_rfl) (by kernel_rfl) (by kernel_rfl) (fun _ _ _ h => h) (Or.inl ⟨by rfl, ?_⟩) (by assumption) ?_; rotate_left; (· (intro wS hSw; (try dsimp only at hSw); go_simp; (try with_reducible rfl))); try simp only [Act.put, pz1, pz2, pz3]
    refine wpAnyH_take (i := 7) (oi := ⟨some 18, .load 3 (.tmp 17), 3, "ref.go:30", #[⟨6, .data⟩], none⟩) (v := ?_) rfl (by kernel_rfl) (by kernel_rfl) (by kernel_rfl) (fun _ _ _ h => h) (Or.inl ⟨by rfl, ?_⟩) (by assumption) ?_; rotate_left; (· (intro wS hSw; (try dsimp only at hSw); go_simp; (try with_reducible rfl))); try simp only [Act.put, pz1, pz2, pz3]
    refine wpAnyH_take (i := 9) (oi := ⟨some 20, .fieldAddr 23 (.tmp 2) 0, 0, "ref.go:30", #[], none⟩) (v := ?_) rfl (by kernel_rfl) (by kernel_rfl) (by kernel_rfl) (fun _ _ _ h => h) (Or.inl ⟨by rfl, ?_⟩) (by assumption) ?_; rotate_left; (· (intro wS hSw; (try dsimp only at hSw); go_simp; (try with_reducible rfl))); try simp only [Act.put, pz1, pz2, pz3]
    refine wpAnyH_take (i := 10) (oi := ⟨some 21, .load 3 (.tmp 20), 3, "ref.go:30", #[⟨9, .data⟩], none⟩) (v := ?_) rfl (by kernel_rfl) (by kernel_rfl) (by kernel_rfl) (fun _ _ _ h => h) (Or.inl ⟨by rfl, ?_⟩) (by assumption) ?_; rotate_left; (· (intro wS hSw; (try dsimp only at hSw); go_simp; (try with_reducible rfl))); try simp only [Act.put, pz1, pz2, pz3]
    refine wpAnyH_ready (rs := [2, 5, 8, 11]) (by kernel_rfl) (by simp) ?_
    refine (AllReadyH.cons (o := ⟨some 13, .call { callee := .builtin .append, args := #[.const (.slice none 0 0), .tmp 12], argTypes := #[24, 24] }, 24, "ref.go:30", #[⟨1, .data⟩], none⟩) rfl (fun K hK => ?_) (AllReadyH.cons (o := ⟨some 16, .makeSlice 92 (.tmp 15) (.tmp 15), 92, "ref.go:30", #[⟨4, .data⟩, ⟨4, .data⟩], none⟩) rfl (fun K hK => ?_) (AllReadyH.cons (o := ⟨some 19, .makeSlice 92 (.tmp 18) (.tmp 18), 92, "ref.go:30", #[⟨7, .data⟩, ⟨7, .data⟩], none⟩) rfl (fun K hK => ?_) (AllReadyH.cons (o := ⟨some 22, .makeSlice 92 (.tmp 21) (.tmp 21), 92, "ref.go:30", #[⟨10, .data⟩, ⟨10, .data⟩], none⟩) rfl (fun K hK => ?_) AllReadyH.nil))))
    · refine wp_appF0 _ rfl rfl fs A c0 rfl HSF hfl ?_
      intro wN AF cf RF hq hb
      have qF := FGe.le hq HS
      (try have nFgN := FNe.fresh hq RN.lt)
      (try have nFgW := FNe.fresh hq RV.lt)
      (try have nFgD := FNe.fresh hq RD.lt)
      clear hq
      (try have hb := undrew hb)
      (try replace RN := RN.below hb)
      (try replace RV := RV.below hb)
      (try replace RD := RD.below hb)
      replace HSF := HSF.next hb
      replace G1 := G1.below hb G1.lt
      clear HY
      have HY := cells5 G1
      replace HB0 := btr HB0 HB0.size hb
      replace HS := Nat.le_trans HS hb.size
      refine hK.out _ _ ?_ (fun hNew => ?_)
      · (first | exact HY | assumption)
      clear hK K hHeld
      have hHeld := hNew
      clear hNew
      try simp only [Act.put, pz1, pz2, pz3]
      refine wpAnyH_ready (rs := [5, 8, 11]) (by kernel_rfl) (by simp) ?_
      refine (AllReadyH.cons (o := ⟨some 16, .makeSlice 92 (.tmp 15) (.tmp 15), 92, "ref.go:30", #[⟨4, .data⟩, ⟨4, .data⟩], none⟩) rfl (fun K hK => ?_) (AllReadyH.cons (o := ⟨some 19, .makeSlice 92 (.tmp 18) (.tmp 18), 92, "ref.go:30", #[⟨7, .data⟩, ⟨7, .data⟩], none⟩) rfl (fun K hK => ?_) (AllReadyH.cons (o := ⟨some 22, .makeSlice 92 (.tmp 21) (.tmp 21), 92, "ref.go:30", #[⟨10, .data⟩, ⟨10, .data⟩], none⟩) rfl (fun K hK => ?_) AllReadyH.nil)))
      · refine wp_makeI _ _ rfl a NB rfl rfl hNB (by omega) ?_
        intro wN gN RN hq hb
        have qgN := Nat.le_trans HS hq
        (try have ngWgN := Nat.ne_of_lt (Nat.lt_of_lt_of_le RV.lt hq))
        (try have ngDgN := Nat.ne_of_lt (Nat.lt_of_lt_of_le RD.lt hq))
        (try have nFgN := FR.ne RF hq)
        clear hq
        (try have hb := undrew hb)
        (try replace RV := RV.below hb)
        (try replace RD := RD.below hb)
        (try replace RF := FR.below_ RF hb)
        replace HSF := HSF.next hb
        replace G1 := G1.below hb G1.lt
        clear HY
        have HY := cells5 G1
        replace HB0 := btr HB0 HB0.size hb
        replace HS := Nat.le_trans HS hb.size
        refine hK.out _ _ ?_ (fun hNew => ?_)
        · (first | exact HY | assumption)
        clear hK K hHeld
        have hHeld := hNew
        clear hNew
        try simp only [Act.put, pz1, pz2, pz3]
        refine wpAnyH_ready (rs := [8, 11]) (by kernel_rfl) (by simp) ?_
        refine (AllReadyH.cons (o := ⟨some 19, .makeSlice 92 (.tmp 18) (.tmp 18), 92, "ref.go:30", #[⟨7, .data⟩, ⟨7, .data⟩], none⟩) rfl (fun K hK => ?_) (AllReadyH.cons (o := ⟨some 22, .makeSlice 92 (.tmp 21) (.tmp 21), 92, "ref.go:30", #[⟨10, .data⟩, ⟨10, .data⟩], none⟩) rfl (fun K hK => ?_) AllReadyH.nil))
        · refine wp_makeI _ _ rfl a NB rfl rfl hNB (by omega) ?_
          intro wN gW RV hq hb
          have qgW := Nat.le_trans HS hq
          (try have ngNgW := Nat.ne_of_lt (Nat.lt_of_lt_of_le RN.lt hq))
          (try have ngDgW := Nat.ne_of_lt (Nat.lt_of_lt_of_le RD.lt hq))
          (try have nFgW := FR.ne RF hq)
          clear hq
          (try have hb := undrew hb)
          (try replace RN := RN.below hb)
          (try replace RD := RD.below hb)
          (try replace RF := FR.below_ RF hb)
          replace HSF := HSF.next hb
          replace G1 := G1.below hb G1.lt
          clear HY
          have HY := cells5 G1
          replace HB0 := btr HB0 HB0.size hb
          replace HS := Nat.le_trans HS hb.size
          refine hK.out _ _ ?_ (fun hNew => ?_)
          · (first | exact HY | assumption)
          clear hK K hHeld
          have hHeld := hNew
          clear hNew
          try simp only [Act.put, pz1, pz2, pz3]
          refine wpAnyH_ready (rs := [11]) (by kernel_rfl) (by simp) ?_
          refine AllReadyH.cons (o := ⟨some 22, .makeSlice 92 (.tmp 21) (.tmp 21), 92, "ref.go:30", #[⟨10, .data⟩, ⟨10, .data⟩], none⟩) rfl (fun K hK => ?_) AllReadyH.nil
          refine wp_makeI _ _ rfl a NB rfl rfl hNB (by omega) ?_
          intro wN gD RD hq hb
          have qgD := Nat.le_trans HS hq
          (try have ngNgD := Nat.ne_of_lt (Nat.lt_of_lt_of_le RN.lt hq))
          (try have ngWgD := Nat.ne_of_lt (Nat.lt_of_lt_of_le RV.lt hq))
          (try have nFgD := FR.ne RF hq)
          clear hq
          (try have hb := undrew hb)
          (try replace RN := RN.below hb)
          (try replace RV := RV.below hb)
          (try replace RF := FR.below_ RF hb)
          replace HSF := HSF.next hb
          replace G1 := G1.below hb G1.lt
          clear HY
          have HY := cells5 G1
          replace HB0 := btr HB0 HB0.size hb
          replace HS := Nat.le_trans HS hb.size
          refine hK.out _ _ ?_ (fun hNew => ?_)
          · (first | exact HY | assumption)
          clear hK K hHeld
          have hHeld := hNew
          clear hNew
          try simp only [Act.put, pz1, pz2, pz3]
          refine wpAnyH_take (i := 12) (oi := ⟨some 23, .build 94 #[(0, .tmp 11), (1, .tmp 13), (3, .tmp 16), (4, .tmp 19), (5, .tmp 22)], 94, "ref.go:30", #[⟨0, .data⟩, ⟨2, .data⟩, ⟨5, .data⟩, ⟨8, .data⟩, ⟨11, .data⟩], none⟩) (v := ?_) rfl (by kernel_rfl) (by kernel_rfl) (by kernel_rfl) (fun _ _ _ h => h) (Or.inl ⟨by rfl, ?_⟩) (by assumption) ?_; rotate_left; (· (intro wS hSw; (try dsimp only at hSw); go_simp; (try with_reducible rfl))); try simp only [Act.put, pz1, pz2, pz3]
          refine wpAnyH_ready (rs := [13]) (by kernel_rfl) (by simp) ?_
          refine AllReadyH.cons (o := ⟨some 24, .box 94 (.tmp 23), 30, "ref.go:30", #[⟨12, .data⟩], none⟩) rfl (fun K hK => ?_) AllReadyH.nil
          refine wp_boxR _ rfl rfl ?_
          intro wN m BM hq hb
          have qm := Nat.le_trans HS hq
          have nm1 : m ≠ gN := Nat.ne_of_gt (Nat.lt_of_lt_of_le RN.lt hq)
          have nm2 : m ≠ gW := Nat.ne_of_gt (Nat.lt_of_lt_of_le RV.lt hq)
          have nm3 : m ≠ gD := Nat.ne_of_gt (Nat.lt_of_lt_of_le RD.lt hq)
          have nFm := FR.ne RF hq
          (try have hb := undrew hb)
          (try replace RN := RN.below hb)
          (try replace RV := RV.below hb)
          (try replace RD := RD.below hb)
          (try replace RF := FR.below_ RF hb)
          replace HSF := HSF.next hb
          replace G1 := G1.below hb G1.lt
          clear HY
          have HY := cells5 G1
          replace HB0 := btr HB0 HB0.size hb
          replace HS := Nat.le_trans HS hb.size
          refine hK.out _ _ ?_ (fun hNew => ?_)
          · (first | exact HY | assumption)
          clear hK K hHeld
          have hHeld := hNew
          clear hNew
          try simp only [Act.put, pz1, pz2, pz3]
          refine wpAnyH_take (i := 14) (oi := ⟨some 5, .assign (.tmp 24), 30, "ref.go:30", #[⟨13, .data⟩, ⟨2, .chain⟩, ⟨0, .phase⟩, ⟨1, .phase⟩, ⟨2, .phase⟩, ⟨3, .phase⟩, ⟨4, .phase⟩, ⟨5, .phase⟩, ⟨6, .phase⟩, ⟨7, .phase⟩, ⟨8, .phase⟩, ⟨9, .phase⟩, ⟨10, .phase⟩, ⟨11, .phase⟩, ⟨12, .phase⟩, ⟨13, .phase⟩], none⟩) (v := ?_) rfl (by kernel_rfl) (by kernel_rfl) (by kernel_rfl) (fun _ _ _ h => h) (Or.inl ⟨by rfl, ?_⟩) (by assumption) ?_; rotate_left; (· (intro wS hSw; (try dsimp only at hSw); go_simp; (try with_reducible rfl))); try simp only [Act.put, pz1, pz2, pz3]
          refine wpAnyH_done (by kernel_rfl) ?_ _
          refine NoPanic.normal ?_
          go_wp2_with fail
          go_meet
          exact ⟨m, gN, gW, gD, AF, cf, rfl, NewL.start BM RN RV RD RF ⟨nm1, nm2, nm3, (by first | exact ngNgW | exact ngWgN.symm), (by first | exact ngNgD | exact ngDgN.symm), (by first | exact ngWgD | exact ngDgW.symm)⟩ ⟨nFm, nFgN, nFgW, nFgD⟩ ⟨by omega, by omega, by omega, by omega⟩ G1 HB0 qF⟩
        · refine wp_makeI _ _ rfl a NB rfl rfl hNB (by omega) ?_
          intro wN gD RD hq hb
          have qgD := Nat.le_trans HS hq
          (try have ngNgD := Nat.ne_of_lt (Nat.lt_of_lt_of_le RN.lt hq))
          (try have ngWgD := Nat.ne_of_lt (Nat.lt_of_lt_of_le RV.lt hq))
          (try have nFgD := FR.ne RF hq)
          clear hq
          (try have hb := undrew hb)
          (try replace RN := RN.below hb)
          (try replace RV := RV.below hb)
          (try replace RF := FR.below_ RF hb)
          replace HSF := HSF.next hb
          replace G1 := G1.below hb G1.lt
          clear HY
          have HY := cells5 G1
          replace HB0 := btr HB0 HB0.size hb
          replace HS := Nat.le_trans HS hb.size
          refine hK.out _ _ ?_ (fun hNew => ?_)
          · (first | exact HY | assumption)
          clear hK K hHeld
          have hHeld := hNew
          clear hNew
          try simp only [Act.put, pz1, pz2, pz3]
          refine wpAnyH_ready (rs := [8]) (by kernel_rfl) (by simp) ?_
          refine AllReadyH.cons (o := ⟨some 19, .makeSlice 92 (.tmp 18) (.tmp 18), 92, "ref.go:30", #[⟨7, .data⟩, ⟨7, .data⟩], none⟩) rfl (fun K hK => ?_) AllReadyH.nil
          refine wp_makeI _ _ rfl a NB rfl rfl hNB (by omega) ?_
          intro wN gW RV hq hb
          have qgW := Nat.le_trans HS hq
          (try have ngNgW := Nat.ne_of_lt (Nat.lt_of_lt_of_le RN.lt hq))
          (try have ngDgW := Nat.ne_of_lt (Nat.lt_of_lt_of_le RD.lt hq))
          (try have nFgW := FR.ne RF hq)
          clear hq
          (try have hb := undrew hb)
          (try replace RN := RN.below hb)
          (try replace RD := RD.below hb)
          (try replace RF := FR.below_ RF hb)
          replace HSF := HSF.next hb
          replace G1 := G1.below hb G1.lt
          clear HY
          have HY := cells5 G1
          replace HB0 := btr HB0 HB0.size hb
          replace HS := Nat.le_trans HS hb.size
          refine hK.out _ _ ?_ (fun hNew => ?_)
          · (first | exact HY | assumption)
          clear hK K hHeld
          have hHeld := hNew
          clear hNew
          try simp only [Act.put, pz1, pz2, pz3]
          refine wpAnyH_take (i := 12) (oi := ⟨some 23, .build 94 #[(0, .tmp 11), (1, .tmp 13), (3, .tmp 16), (4, .tmp 19), (5, .tmp 22)], 94, "ref.go:30", #[⟨0, .data⟩, ⟨2, .data⟩, ⟨5, .data⟩, ⟨8, .data⟩, ⟨11, .data⟩], none⟩) (v := ?_) rfl (by kernel_rfl) (by kernel_rfl) (by kernel_rfl) (fun _ _ _ h => h) (Or.inl ⟨by rfl, ?_⟩) (by assumption) ?_; rotate_left; (· (intro wS hSw; (try dsimp only at hSw); go_simp; (try with_reducible rfl))); try simp only [Act.put, pz1, pz2, pz3]
          refine wpAnyH_ready (rs := [13]) (by kernel_rfl) (by simp) ?_
          refine AllReadyH.cons (o := ⟨some 24, .box 94 (.tmp 23), 30, "ref.go:30", #[⟨12, .data⟩], none⟩) rfl (fun K hK => ?_) AllReadyH.nil
          refine wp_boxR _ rfl rfl ?_
          intro wN m BM hq hb
          have qm := Nat.le_trans HS hq
          have nm1 : m ≠ gN := Nat.ne_of_gt (Nat.lt_of_lt_of_le RN.lt hq)
          have nm2 : m ≠ gW := Nat.ne_of_gt (Nat.lt_of_lt_of_le RV.lt hq)
          have nm3 : m ≠ gD := Nat.ne_of_gt (Nat.lt_of_lt_of_le RD.lt hq)
          have nFm := FR.ne RF hq
          (try have hb := undrew hb)
          (try replace RN := RN.below hb)
          (try replace RV := RV.below hb)
          (try replace RD := RD.below hb)
          (try replace RF := FR.below_ RF hb)
          replace HSF := HSF.next hb
          replace G1 := G1.below hb G1.lt
          clear HY
          have HY := cells5 G1
          replace HB0 := btr HB0 HB0.size hb
          replace HS := Nat.le_trans HS hb.size
          refine hK.out _ _ ?_ (fun hNew => ?_)
          · (first | exact HY | assumption)
          clear hK K hHeld
          have hHeld := hNew
          clear hNew
          try simp only [Act.put, pz1, pz2, pz3]
          refine wpAnyH_take (i := 14) (oi := ⟨some 5, .assign (.tmp 24), 30, "ref.go:30", #[⟨13, .data⟩, ⟨2, .chain⟩, ⟨0, .phase⟩, ⟨1, .phase⟩, ⟨2, .phase⟩, ⟨3, .phase⟩, ⟨4, .phase⟩, ⟨5, .phase⟩, ⟨6, .phase⟩, ⟨7, .phase⟩, ⟨8, .phase⟩, ⟨9, .phase⟩, ⟨10, .phase⟩, ⟨11, .phase⟩, ⟨12, .phase⟩, ⟨13, .phase⟩], none⟩) (v := ?_) rfl (by kernel_rfl) (by kernel_rfl) (by kernel_rfl) (fun _ _ _ h => h) (Or.inl ⟨by rfl, ?_⟩) (by assumption) ?_; rotate_left; (· (intro wS hSw; (try dsimp only at hSw); go_simp; (try with_reducible rfl))); try simp only [Act.put, pz1, pz2, pz3]
          refine wpAnyH_done (by kernel_rfl) ?_ _
          refine NoPanic.normal ?_
          go_wp2_with fail
          go_meet
          exact ⟨m, gN, gW, gD, AF, cf, rfl, NewL.start BM RN RV RD RF ⟨nm1, nm2, nm3, (by first | exact ngNgW | exact ngWgN.symm), (by first | exact ngNgD | exact ngDgN.symm), (by first | exact ngWgD | exact ngDgW.symm)⟩ ⟨nFm, nFgN, nFgW, nFgD⟩ ⟨by omega, by omega, by omega, by omega⟩ G1 HB0 qF⟩
      · refine wp_makeI _ _ rfl a NB rfl rfl hNB (by omega) ?_
        intro wN gW RV hq hb
        have qgW := Nat.le_trans HS hq
        (try have ngNgW := Nat.ne_of_lt (Nat.lt_of_lt_of_le RN.lt hq))
        (try have ngDgW := Nat.ne_of_lt (Nat.lt_of_lt_of_le RD.lt hq))
        (try have nFgW := FR.ne RF hq)
        clear hq
        (try have hb := undrew hb)
        (try replace RN := RN.below hb)
        (try replace RD := RD.below hb)
        (try replace RF := FR.below_ RF hb)
        replace HSF := HSF.next hb
        replace G1 := G1.below hb G1.lt
        clear HY
        have HY := cells5 G1
        replace HB0 := btr HB0 HB0.size hb
        replace HS := Nat.le_trans HS hb.size
        refine hK.out _ _ ?_ (fun hNew => ?_)
        · (first | exact HY | assumption)
        clear hK K hHeld
        have hHeld := hNew
        clear hNew
        try simp only [Act.put, pz1, pz2, pz3]
        refine wpAnyH_ready (rs := [5, 11]) (by kernel_rfl) (by simp) ?_
        refine (AllReadyH.cons (o := ⟨some 16, .makeSlice 92 (.tmp 15) (.tmp 15), 92, "ref.go:30", #[⟨4, .data⟩, ⟨4, .data⟩], none⟩) rfl (fun K hK => ?_) (AllReadyH.cons (o := ⟨some 22, .makeSlice 92 (.tmp 21) (.tmp 21), 92, "ref.go:30", #[⟨10, .data⟩, ⟨10, .data⟩], none⟩) rfl (fun K hK => ?_) AllReadyH.nil))
        · refine wp_makeI _ _ rfl a NB rfl rfl hNB (by omega) ?_
          intro wN gN RN hq hb
          have qgN := Nat.le_trans HS hq
          (try have ngWgN := Nat.ne_of_lt (Nat.lt_of_lt_of_le RV.lt hq))
          (try have ngDgN := Nat.ne_of_lt (Nat.lt_of_lt_of_le RD.lt hq))
          (try have nFgN := FR.ne RF hq)
          clear hq
          (try have hb := undrew hb)
          (try replace RV := RV.below hb)
          (try replace RD := RD.below hb)
          (try replace RF := FR.below_ RF hb)
          replace HSF := HSF.next hb
          replace G1 := G1.below hb G1.lt
          clear HY
          have HY := cells5 G1
          replace HB0 := btr HB0 HB0.size hb
          replace HS := Nat.le_trans HS hb.size
          refine hK.out _ _ ?_ (fun hNew => ?_)
          · (first | exact HY | assumption)
          clear hK K hHeld
          have hHeld := hNew
          clear hNew
          try simp only [Act.put, pz1, pz2, pz3]
          refine wpAnyH_ready (rs := [11]) (by kernel_rfl) (by simp) ?_
          refine AllReadyH.cons (o := ⟨some 22, .makeSlice 92 (.tmp 21) (.tmp 21), 92, "ref.go:30", #[⟨10, .data⟩, ⟨10, .data⟩], none⟩) rfl (fun K hK => ?_) AllReadyH.nil
          refine wp_makeI _ _ rfl a NB rfl rfl hNB (by omega) ?_
          intro wN gD RD hq hb
          have qgD := Nat.le_trans HS hq
          (try have ngNgD := Nat.ne_of_lt (Nat.lt_of_lt_of_le RN.lt hq))
          (try have ngWgD := Nat.ne_of_lt (Nat.lt_of_lt_of_le RV.lt hq))
          (try have nFgD := FR.ne RF hq)
          clear hq
          (try have hb := undrew hb)
          (try replace RN := RN.below hb)
          (try replace RV := RV.below hb)
          (try replace RF := FR.below_ RF hb)
          replace HSF := HSF.next hb
          replace G1 := G1.below hb G1.lt
          clear HY
          have HY := cells5 G1
          replace HB0 := btr HB0 HB0.size hb
          replace HS := Nat.le_trans HS hb.size
          refine hK.out _ _ ?_ (fun hNew => ?_)
          · (first | exact HY | assumption)
          clear hK K hHeld
          have hHeld := hNew
          clear hNew
          try simp only [Act.put, pz1, pz2, pz3]
          refine wpAnyH_take (i := 12) (oi := ⟨some 23, .build 94 #[(0, .tmp 11), (1, .tmp 13), (3, .tmp 16), (4, .tmp 19), (5, .tmp 22)], 94, "ref.go:30", #[⟨0, .data⟩, ⟨2, .data⟩, ⟨5, .data⟩, ⟨8, .data⟩, ⟨11, .data⟩], none⟩) (v := ?_) rfl (by kernel_rfl) (by kernel_rfl) (by kernel_rfl) (fun _ _ _ h => h) (Or.inl ⟨by rfl, ?_⟩) (by assumption) ?_; rotate_left; (· (intro wS hSw; (try dsimp only at hSw); go_simp; (try with_reducible rfl))); try simp only [Act.put, pz1, pz2, pz3]
          refine wpAnyH_ready (rs := [13]) (by kernel_rfl) (by simp) ?_
          refine AllReadyH.cons (o := ⟨some 24, .box 94 (.tmp 23), 30, "ref.go:30", #[⟨12, .data⟩], none⟩) rfl (fun K hK => ?_) AllReadyH.nil
          refine wp_boxR _ rfl rfl ?_
          intro wN m BM hq hb
          have qm := Nat.le_trans HS hq
          have nm1 : m ≠ gN := Nat.ne_of_gt (Nat.lt_of_lt_of_le RN.lt hq)
          have nm2 : m ≠ gW := Nat.ne_of_gt (Nat.lt_of_lt_of_le RV.lt hq)
          have nm3 : m ≠ gD := Nat.ne_of_gt (Nat.lt_of_lt_of_le RD.lt hq)
          have nFm := FR.ne RF hq
          (try have hb := undrew hb)
          (try replace RN := RN.below hb)
          (try replace RV := RV.below hb)
          (try replace RD := RD.below hb)
          (try replace RF := FR.below_ RF hb)
          replace HSF := HSF.next hb
          replace G1 := G1.below hb G1.lt
          clear HY
          have HY := cells5 G1
          replace HB0 := btr HB0 HB0.size hb
          replace HS := Nat.le_trans HS hb.size
          refine hK.out _ _ ?_ (fun hNew => ?_)
          · (first | exact HY | assumption)
          clear hK K hHeld
          have hHeld := hNew
          clear hNew
          try simp only [Act.put, pz1, pz2, pz3]
          refine wpAnyH_take (i := 14) (oi := ⟨some 5, .assign (.tmp 24), 30, "ref.go:30", #[⟨13, .data⟩, ⟨2, .chain⟩, ⟨0, .phase⟩, ⟨1, .phase⟩, ⟨2, .phase⟩, ⟨3, .phase⟩, ⟨4, .phase⟩, ⟨5, .phase⟩, ⟨6, .phase⟩, ⟨7, .phase⟩, ⟨8, .phase⟩, ⟨9, .phase⟩, ⟨10, .phase⟩, ⟨11, .phase⟩, ⟨12, .phase⟩, ⟨13, .phase⟩], none⟩) (v := ?_) rfl (by kernel_rfl) (by kernel_rfl) (by kernel_rfl) (fun _ _ _ h => h) (Or.inl ⟨by rfl, ?_⟩) (by assumption) ?_; rotate_left; (· (intro wS hSw; (try dsimp only at hSw); go_simp; (try with_reducible rfl))); try simp only [Act.put, pz1, pz2, pz3]
          refine wpAnyH_done (by kernel_rfl) ?_ _
          refine NoPanic.normal ?_
          go_wp2_with fail
          go_meet
          exact ⟨m, gN, gW, gD, AF, cf, rfl, NewL.start BM RN RV RD RF ⟨nm1, nm2, nm3, (by first | exact ngNgW | exact ngWgN.symm), (by first | exact ngNgD | exact ngDgN.symm), (by first | exact ngWgD | exact ngDgW.symm)⟩ ⟨nFm, nFgN, nFgW, nFgD⟩ ⟨by omega, by omega, by omega, by omega⟩ G1 HB0 qF⟩
        · refine wp_makeI _ _ rfl a NB rfl rfl hNB (by omega) ?_
          intro wN gD RD hq hb
          have qgD := Nat.le_trans HS hq
          (try have ngNgD := Nat.ne_of_lt (Nat.lt_of_lt_of_le RN.lt hq))
          (try have ngWgD := Nat.ne_of_lt (Nat.lt_of_lt_of_le RV.lt hq))
          (try have nFgD := FR.ne RF hq)
          clear hq
          (try have hb := undrew hb)
          (try replace RN := RN.below hb)
          (try replace RV := RV.below hb)
          (try replace RF := FR.below_ RF hb)
          replace HSF := HSF.next hb
          replace G1 := G1.below hb G1.lt
          clear HY
          have HY := cells5 G1
          replace HB0 := btr HB0 HB0.size hb
          replace HS := Nat.le_trans HS hb.size
          refine hK.out _ _ ?_ (fun hNew => ?_)
          · (first | exact HY | assumption)
          clear hK K hHeld
          have hHeld := hNew
          clear hNew
          try simp only [Act.put, pz1, pz2, pz3]
          refine wpAnyH_ready (rs := [5]) (by kernel_rfl) (by simp) ?_
          refine AllReadyH.cons (o := ⟨some 16, .makeSlice 92 (.tmp 15) (.tmp 15), 92, "ref.go:30", #[⟨4, .data⟩, ⟨4, .data⟩], none⟩) rfl (fun K hK => ?_) AllReadyH.nil
          refine wp_makeI _ _ rfl a NB rfl rfl hNB (by omega) ?_
          intro wN gN RN hq hb
          have qgN := Nat.le_trans HS hq
          (try have ngWgN := Nat.ne_of_lt (Nat.lt_of_lt_of_le RV.lt hq))
          (try have ngDgN := Nat.ne_of_lt (Nat.lt_of_lt_of_le RD.lt hq))
          (try have nFgN := FR.ne RF hq)
          clear hq
          (try have hb := undrew hb)
          (try replace RV := RV.below hb)
          (try replace RD := RD.below hb)
          (try replace RF := FR.below_ RF hb)
          replace HSF := HSF.next hb
          replace G1 := G1.below hb G1.lt
          clear HY
          have HY := cells5 G1
          replace HB0 := btr HB0 HB0.size hb
          replace HS := Nat.le_trans HS hb.size
          refine hK.out _ _ ?_ (fun hNew => ?_)
          · (first | exact HY | assumption)
          clear hK K hHeld
          have hHeld := hNew
          clear hNew
          try simp only [Act.put, pz1, pz2, pz3]
          refine wpAnyH_take (i := 12) (oi := ⟨some 23, .build 94 #[(0, .tmp 11), (1, .tmp 13), (3, .tmp 16), (4, .tmp 19), (5, .tmp 22)], 94, "ref.go:30", #[⟨0, .data⟩, ⟨2, .data⟩, ⟨5, .data⟩, ⟨8, .data⟩, ⟨11, .data⟩], none⟩) (v := ?_) rfl (by kernel_rfl) (by kernel_rfl) (by kernel_rfl) (fun _ _ _ h => h) (Or.inl ⟨by rfl, ?_⟩) (by assumption) ?_; rotate_left; (· (intro wS hSw; (try dsimp only at hSw); go_simp; (try with_reducible rfl))); try simp only [Act.put, pz1, pz2, pz3]
          refine wpAnyH_ready (rs := [13]) (by kernel_rfl) (by simp) ?_
          refine AllReadyH.cons (o := ⟨some 24, .box 94 (.tmp 23), 30, "ref.go:30", #[⟨12, .data⟩], none⟩) rfl (fun K hK => ?_) AllReadyH.nil
          refine wp_boxR _ rfl rfl ?_
          intro wN m BM hq hb
          have qm := Nat.le_trans HS hq
          have nm1 : m ≠ gN := Nat.ne_of_gt (Nat.lt_of_lt_of_le RN.lt hq)
          have nm2 : m ≠ gW := Nat.ne_of_gt (Nat.lt_of_lt_of_le RV.lt hq)
          have nm3 : m ≠ gD := Nat.ne_of_gt (Nat.lt_of_lt_of_le RD.lt hq)
          have nFm := FR.ne RF hq
          (try have hb := undrew hb)
          (try replace RN := RN.below hb)
          (try replace RV := RV.below hb)
          (try replace RD := RD.below hb)
          (try replace RF := FR.below_ RF hb)
          replace HSF := HSF.next hb
          replace G1 := G1.below hb G1.lt
          clear HY
          have HY := cells5 G1
          replace HB0 := btr HB0 HB0.size hb
          replace HS := Nat.le_trans HS hb.size
          refine hK.out _ _ ?_ (fun hNew => ?_)
          · (first | exact HY | assumption)
          clear hK K hHeld
          have hHeld := hNew
          clear hNew
          try simp only [Act.put, pz1, pz2, pz3]
          refine wpAnyH_take (i := 14) (oi := ⟨some 5, .assign (.tmp 24), 30, "ref.go:30", #[⟨13, .data⟩, ⟨2, .chain⟩, ⟨0, .phase⟩, ⟨1, .phase⟩, ⟨2, .phase⟩, ⟨3, .phase⟩, ⟨4, .phase⟩, ⟨5, .phase⟩, ⟨6, .phase⟩, ⟨7, .phase⟩, ⟨8, .phase⟩, ⟨9, .phase⟩, ⟨10, .phase⟩, ⟨11, .phase⟩, ⟨12, .phase⟩, ⟨13, .phase⟩], none⟩) (v := ?_) rfl (by kernel_rfl) (by kernel_rfl) (by kernel_rfl) (fun _ _ _ h => h) (Or.inl ⟨by rfl, ?_⟩) (by assumption) ?_; rotate_left; (· (intro wS hSw; (try dsimp only at hSw); go_simp; (try with_reducible rfl))); try simp only [Act.put, pz1, pz2, pz3]
          refine wpAnyH_done (by kernel_rfl) ?_ _
          refine NoPanic.normal ?_
          go_wp2_with fail
          go_meet
          exact ⟨m, gN, gW, gD, AF, cf, rfl, NewL.start BM RN RV RD RF ⟨nm1, nm2, nm3, (by first | exact ngNgW | exact ngWgN.symm), (by first | exact ngNgD | exact ngDgN.symm), (by first | exact ngWgD | exact ngDgW.symm)⟩ ⟨nFm, nFgN, nFgW, nFgD⟩ ⟨by omega, by omega, by omega, by omega⟩ G1 HB0 qF⟩
      · refine wp_makeI _ _ rfl a NB rfl rfl hNB (by omega) ?_
        intro wN gD RD hq hb
        have qgD := Nat.le_trans HS hq
        (try have ngNgD := Nat.ne_of_lt (Nat.lt_of_lt_of_le RN.lt hq))
        (try have ngWgD := Nat.ne_of_lt (Nat.lt_of_lt_of_le RV.lt hq))
        (try have nFgD := FR.ne RF hq)
        clear hq
        (try have hb := undrew hb)
        (try replace RN := RN.below hb)
        (try replace RV := RV.below hb)
        (try replace RF := FR.below_ RF hb)
        replace HSF := HSF.next hb
        replace G1 := G1.below hb G1.lt
        clear HY
        have HY := cells5 G1
        replace HB0 := btr HB0 HB0.size hb
        replace HS := Nat.le_trans HS hb.size
        refine hK.out _ _ ?_ (fun hNew => ?_)
        · (first | exact HY | assumption)
        clear hK K hHeld
        have hHeld := hNew
        clear hNew
        try simp only [Act.put, pz1, pz2, pz3]
        refine wpAnyH_ready (rs := [5, 8]) (by kernel_rfl) (by simp) ?_
        refine (AllReadyH.cons (o := ⟨some 16, .makeSlice 92 (.tmp 15) (.tmp 15), 92, "ref.go:30", #[⟨4, .data⟩, ⟨4, .data⟩], none⟩) rfl (fun K hK => ?_) (AllReadyH.cons (o := ⟨some 19, .makeSlice 92 (.tmp 18) (.tmp 18), 92, "ref.go:30", #[⟨7, .data⟩, ⟨7, .data⟩], none⟩) rfl (fun K hK => ?_) AllReadyH.nil))
        · refine wp_makeI _ _ rfl a NB rfl rfl hNB (by omega) ?_
          intro wN gN RN hq hb
          have qgN := Nat.le_trans HS hq
          (try have ngWgN := Nat.ne_of_lt (Nat.lt_of_lt_of_le RV.lt hq))
          (try have ngDgN := Nat.ne_of_lt (Nat.lt_of_lt_of_le RD.lt hq))
          (try have nFgN := FR.ne RF hq)
          clear hq
          (try have hb := undrew hb)
          (try replace RV := RV.below hb)
          (try replace RD := RD.below hb)
          (try replace RF := FR.below_ RF hb)
          replace HSF := HSF.next hb
          replace G1 := G1.below hb G1.lt
          clear HY
          have HY := cells5 G1
          replace HB0 := btr HB0 HB0.size hb
          replace HS := Nat.le_trans HS hb.size
          refine hK.out _ _ ?_ (fun hNew => ?_)
          · (first | exact HY | assumption)
          clear hK K hHeld
          have hHeld := hNew
          clear hNew
          try simp only [Act.put, pz1, pz2, pz3]
          refine wpAnyH_ready (rs := [8]) (by kernel_rfl) (by simp) ?_
          refine AllReadyH.cons (o := ⟨some 19, .makeSlice 92 (.tmp 18) (.tmp 18), 92, "ref.go:30", #[⟨7, .data⟩, ⟨7, .data⟩], none⟩) rfl (fun K hK => ?_) AllReadyH.nil
          refine wp_makeI _ _ rfl a NB rfl rfl hNB (by omega) ?_
          intro wN gW RV hq hb
          have qgW := Nat.le_trans HS hq
          (try have ngNgW := Nat.ne_of_lt (Nat.lt_of_lt_of_le RN.lt hq))
          (try have ngDgW := Nat.ne_of_lt (Nat.lt_of_lt_of_le RD.lt hq))
          (try have nFgW := FR.ne RF hq)
          clear hq
          (try have hb := undrew hb)
          (try replace RN := RN.below hb)
          (try replace RD := RD.below hb)
          (try replace RF := FR.below_ RF hb)
          replace HSF := HSF.next hb
          replace G1 := G1.below hb G1.lt
          clear HY
          have HY := cells5 G1
          replace HB0 := btr HB0 HB0.size hb
          replace HS := Nat.le_trans HS hb.size
          refine hK.out _ _ ?_ (fun hNew => ?_)
          · (first | exact HY | assumption)
          clear hK K hHeld
          have hHeld := hNew
          clear hNew
          try simp only [Act.put, pz1, pz2, pz3]
          refine wpAnyH_take (i := 12) (oi := ⟨some 23, .build 94 #[(0, .tmp 11), (1, .tmp 13), (3, .tmp 16), (4, .tmp 19), (5, .tmp 22)], 94, "ref.go:30", #[⟨0, .data⟩, ⟨2, .data⟩, ⟨5, .data⟩, ⟨8, .data⟩, ⟨11, .data⟩], none⟩) (v := ?_) rfl (by kernel_rfl) (by kernel_rfl) (by kernel_rfl) (fun _ _ _ h => h) (Or.inl ⟨by rfl, ?_⟩) (by assumption) ?_; rotate_left; (· (intro wS hSw; (try dsimp only at hSw); go_simp; (try with_reducible rfl))); try simp only [Act.put, pz1, pz2, pz3]
          refine wpAnyH_ready (rs := [13]) (by kernel_rfl) (by simp) ?_
          refine AllReadyH.cons (o := ⟨some 24, .box 94 (.tmp 23), 30, "ref.go:30", #[⟨12, .data⟩], none⟩) rfl (fun K hK => ?_) AllReadyH.nil
          refine wp_boxR _ rfl rfl ?_
          intro wN m BM hq hb
          have qm := Nat.le_trans HS hq
          have nm1 : m ≠ gN := Nat.ne_of_gt (Nat.lt_of_lt_of_le RN.lt hq)
          have nm2 : m ≠ gW := Nat.ne_of_gt (Nat.lt_of_lt_of_le RV.lt hq)
          have nm3 : m ≠ gD := Nat.ne_of_gt (Nat.lt_of_lt_of_le RD.lt hq)
          have nFm := FR.ne RF hq
          (try have hb := undrew hb)
          (try replace RN := RN.below hb)
          (try replace RV := RV.below hb)
          (try replace RD := RD.below hb)
          (try replace RF := FR.below_ RF hb)
          replace HSF := HSF.next hb
          replace G1 := G1.below hb G1.lt
          clear HY
          have HY := cells5 G1
          replace HB0 := btr HB0 HB0.size hb
          replace HS := Nat.le_trans HS hb.size
          refine hK.out _ _ ?_ (fun hNew => ?_)
          · (first | exact HY | assumption)
          clear hK K hHeld
          have hHeld := hNew
          clear hNew
          try simp only [Act.put, pz1, pz2, pz3]
          refine wpAnyH_take (i := 14) (oi := ⟨some 5, .assign (.tmp 24), 30, "ref.go:30", #[⟨13, .data⟩, ⟨2, .chain⟩, ⟨0, .phase⟩, ⟨1, .phase⟩, ⟨2, .phase⟩, ⟨3, .phase⟩, ⟨4, .phase⟩, ⟨5, .phase⟩, ⟨6, .phase⟩, ⟨7, .phase⟩, ⟨8, .phase⟩, ⟨9, .phase⟩, ⟨10, .phase⟩, ⟨11, .phase⟩, ⟨12, .phase⟩, ⟨13, .phase⟩], none⟩) (v := ?_) rfl (by kernel_rfl) (by kernel_rfl) (by kernel_rfl) (fun _ _ _ h => h) (Or.inl ⟨by rfl, ?_⟩) (by assumption) ?_; rotate_left; (· (intro wS hSw; (try dsimp only at hSw); go_simp; (try with_reducible rfl))); try simp only [Act.put, pz1, pz2, pz3]
          refine wpAnyH_done (by kernel_rfl) ?_ _
          refine NoPanic.normal ?_
          go_wp2_with fail
          go_meet
          exact ⟨m, gN, gW, gD, AF, cf, rfl, NewL.start BM RN RV RD RF ⟨nm1, nm2, nm3, (by first | exact ngNgW | exact ngWgN.symm), (by first | exact ngNgD | exact ngDgN.symm), (by first | exact ngWgD | exact ngDgW.symm)⟩ ⟨nFm, nFgN, nFgW, nFgD⟩ ⟨by omega, by omega, by omega, by omega⟩ G1 HB0 qF⟩
        · refine wp_makeI _ _ rfl a NB rfl rfl hNB (by omega) ?_
          intro wN gW RV hq hb
          have qgW := Nat.le_trans HS hq
          (try have ngNgW := Nat.ne_of_lt (Nat.lt_of_lt_of_le RN.lt hq))
          (try have ngDgW := Nat.ne_of_lt (Nat.lt_of_lt_of_le RD.lt hq))
          (try have nFgW := FR.ne RF hq)
          clear hq
          (try have hb := undrew hb)
          (try replace RN := RN.below hb)
          (try replace RD := RD.below hb)
          (try replace RF := FR.below_ RF hb)
          replace HSF := HSF.next hb
          replace G1 := G1.below hb G1.lt
          clear HY
          have HY := cells5 G1
          replace HB0 := btr HB0 HB0.size hb
          replace HS := Nat.le_trans HS hb.size
          refine hK.out _ _ ?_ (fun hNew => ?_)
          · (first | exact HY | assumption)
          clear hK K hHeld
          have hHeld := hNew
          clear hNew
          try simp only [Act.put, pz1, pz2, pz3]
          refine wpAnyH_ready (rs := [5]) (by kernel_rfl) (by simp) ?_
          refine AllReadyH.cons (o := ⟨some 16, .makeSlice 92 (.tmp 15) (.tmp 15), 92, "ref.go:30", #[⟨4, .data⟩, ⟨4, .data⟩], none⟩) rfl (fun K hK => ?_) AllReadyH.nil
          refine wp_makeI _ _ rfl a NB rfl rfl hNB (by omega) ?_
          intro wN gN RN hq hb
          have qgN := Nat.le_trans HS hq
          (try have ngWgN := Nat.ne_of_lt (Nat.lt_of_lt_of_le RV.lt hq))
          (try have ngDgN := Nat.ne_of_lt (Nat.lt_of_lt_of_le RD.lt hq))
          (try have nFgN := FR.ne RF hq)
          clear hq
          (try have hb := undrew hb)
          (try replace RV := RV.below hb)
          (try replace RD := RD.below hb)
          (try replace RF := FR.below_ RF hb)
          replace HSF := HSF.next hb
          replace G1 := G1.below hb G1.lt
          clear HY
          have HY := cells5 G1
          replace HB0 := btr HB0 HB0.size hb
          replace HS := Nat.le_trans HS hb.size
          refine hK.out _ _ ?_ (fun hNew => ?_)
          · (first | exact HY | assumption)
          clear hK K hHeld
          have hHeld := hNew
          clear hNew
          try simp only [Act.put, pz1, pz2, pz3]
          refine wpAnyH_take (i := 12) (oi := ⟨some 23, .build 94 #[(0, .tmp 11), (1, .tmp 13), (3, .tmp 16), (4, .tmp 19), (5, .tmp 22)], 94, "ref.go:30", #[⟨0, .data⟩, ⟨2, .data⟩, ⟨5, .data⟩, ⟨8, .data⟩, ⟨11, .data⟩], none⟩) (v := ?_) rfl (by kernel_rfl) (by kernel_rfl) (by kernel_rfl) (fun _ _ _ h => h) (Or.inl ⟨by rfl, ?_⟩) (by assumption) ?_; rotate_left; (· (intro wS hSw; (try dsimp only at hSw); go_simp; (try with_reducible rfl))); try simp only [Act.put, pz1, pz2, pz3]
          refine wpAnyH_ready (rs := [13]) (by kernel_rfl) (by simp) ?_
          refine AllReadyH.cons (o := ⟨some 24, .box 94 (.tmp 23), 30, "ref.go:30", #[⟨12, .data⟩], none⟩) rfl (fun K hK => ?_) AllReadyH.nil
          refine wp_boxR _ rfl rfl ?_
          intro wN m BM hq hb
          have qm := Nat.le_trans HS hq
          have nm1 : m ≠ gN := Nat.ne_of_gt (Nat.lt_of_lt_of_le RN.lt hq)
          have nm2 : m ≠ gW := Nat.ne_of_gt (Nat.lt_of_lt_of_le RV.lt hq)
          have nm3 : m ≠ gD := Nat.ne_of_gt (Nat.lt_of_lt_of_le RD.lt hq)
          have nFm := FR.ne RF hq
          (try have hb := undrew hb)
          (try replace RN := RN.below hb)
          (try replace RV := RV.below hb)
          (try replace RD := RD.below hb)
          (try replace RF := FR.below_ RF hb)
          replace HSF := HSF.next hb
          replace G1 := G1.below hb G1.lt
          clear HY
          have HY := cells5 G1
          replace HB0 := btr HB0 HB0.size hb
          replace HS := Nat.le_trans HS hb.size
          refine hK.out _ _ ?_ (fun hNew => ?_)
          · (first | exact HY | assumption)
          clear hK K hHeld
          have hHeld := hNew
          clear hNew
          try simp only [Act.put, pz1, pz2, pz3]
          refine wpAnyH_take (i := 14) (oi := ⟨some 5, .assign (.tmp 24), 30, "ref.go:30", #[⟨13, .data⟩, ⟨2, .chain⟩, ⟨0, .phase⟩, ⟨1, .phase⟩, ⟨2, .phase⟩, ⟨3, .phase⟩, ⟨4, .phase⟩, ⟨5, .phase⟩, ⟨6, .phase⟩, ⟨7, .phase⟩, ⟨8, .phase⟩, ⟨9, .phase⟩, ⟨10, .phase⟩, ⟨11, .phase⟩, ⟨12, .phase⟩, ⟨13, .phase⟩], none⟩) (v := ?_) rfl (by kernel_rfl) (by kernel_rfl) (by kernel_rfl) (fun _ _ _ h => h) (Or.inl ⟨by rfl, ?_⟩) (by assumption) ?_; rotate_left; (· (intro wS hSw; (try dsimp only at hSw); go_simp; (try with_reducible rfl))); try simp only [Act.put, pz1, pz2, pz3]
          refine wpAnyH_done (by kernel_rfl) ?_ _
          refine NoPanic.normal ?_
          go_wp2_with fail
          go_meet
          exact ⟨m, gN, gW, gD, AF, cf, rfl, NewL.start BM RN RV RD RF ⟨nm1, nm2, nm3, (by first | exact ngNgW | exact ngWgN.symm), (by first | exact ngNgD | exact ngDgN.symm), (by first | exact ngWgD | exact ngDgW.symm)⟩ ⟨nFm, nFgN, nFgW, nFgD⟩ ⟨by omega, by omega, by omega, by omega⟩ G1 HB0 qF⟩
    · refine wp_makeI _ _ rfl a NB rfl rfl hNB (by omega) ?_
      intro wN gN RN hq hb
      have qgN := Nat.le_trans HS hq
      (try have ngWgN := Nat.ne_of_lt (Nat.lt_of_lt_of_le RV.lt hq))
      (try have ngDgN := Nat.ne_of_lt (Nat.lt_of_lt_of_le RD.lt hq))
      (try have nFgN := FR.ne RF hq)
      clear hq
      (try have hb := undrew hb)
      (try replace RV := RV.below hb)
      (try replace RD := RD.below hb)
      (try replace RF := FR.below_ RF hb)
      replace HSF := HSF.next hb
      replace G1 := G1.below hb G1.lt
      clear HY
      have HY := cells5 G1
      replace HB0 := btr HB0 HB0.size hb
      replace HS := Nat.le_trans HS hb.size
      refine hK.out _ _ ?_ (fun hNew => ?_)
      · (first | exact HY | assumption)
      clear hK K hHeld
      have hHeld := hNew
      clear hNew
      try simp only [Act.put, pz1, pz2, pz3]
      refine wpAnyH_ready (rs := [2, 8, 11]) (by kernel_rfl) (by simp) ?_
      refine (AllReadyH.cons (o := ⟨some 13, .call { callee := .builtin .append, args := #[.const (.slice none 0 0), .tmp 12], argTypes := #[24, 24] }, 24, "ref.go:30", #[⟨1, .data⟩], none⟩) rfl (fun K hK => ?_) (AllReadyH.cons (o := ⟨some 19, .makeSlice 92 (.tmp 18) (.tmp 18), 92, "ref.go:30", #[⟨7, .data⟩, ⟨7, .data⟩], none⟩) rfl (fun K hK => ?_) (AllReadyH.cons (o := ⟨some 22, .makeSlice 92 (.tmp 21) (.tmp 21), 92, "ref.go:30", #[⟨10, .data⟩, ⟨10, .data⟩], none⟩) rfl (fun K hK => ?_) AllReadyH.nil)))
      · refine wp_appF0 _ rfl rfl fs A c0 rfl HSF hfl ?_
        intro wN AF cf RF hq hb
        have qF := FGe.le hq HS
        (try have nFgN := FNe.fresh hq RN.lt)
        (try have nFgW := FNe.fresh hq RV.lt)
        (try have nFgD := FNe.fresh hq RD.lt)
        clear hq
        (try have hb := undrew hb)
        (try replace RN := RN.below hb)
        (try replace RV := RV.below hb)
        (try replace RD := RD.below hb)
        replace HSF := HSF.next hb
        replace G1 := G1.below hb G1.lt
        clear HY
        have HY := cells5 G1
        replace HB0 := btr HB0 HB0.size hb
        replace HS := Nat.le_trans HS hb.size
        refine hK.out _ _ ?_ (fun hNew => ?_)
        · (first | exact HY | assumption)
        clear hK K hHeld
        have hHeld := hNew
        clear hNew
        try simp only [Act.put, pz1, pz2, pz3]
        refine wpAnyH_ready (rs := [8, 11]) (by kernel_rfl) (by simp) ?_
        refine (AllReadyH.cons (o := ⟨some 19, .makeSlice 92 (.tmp 18) (.tmp 18), 92, "ref.go:30", #[⟨7, .data⟩, ⟨7, .data⟩], none⟩) rfl (fun K hK => ?_) (AllReadyH.cons (o := ⟨some 22, .makeSlice 92 (.tmp 21) (.tmp 21), 92, "ref.go:30", #[⟨10, .data⟩, ⟨10, .data⟩], none⟩) rfl (fun K hK => ?_) AllReadyH.nil))
        · refine wp_makeI _ _ rfl a NB rfl rfl hNB (by omega) ?_
          intro wN gW RV hq hb
          have qgW := Nat.le_trans HS hq
          (try have ngNgW := Nat.ne_of_lt (Nat.lt_of_lt_of_le RN.lt hq))
          (try have ngDgW := Nat.ne_of_lt (Nat.lt_of_lt_of_le RD.lt hq))
          (try have nFgW := FR.ne RF hq)
          clear hq
          (try have hb := undrew hb)
          (try replace RN := RN.below hb)
          (try replace RD := RD.below hb)
          (try replace RF := FR.below_ RF hb)
          replace HSF := HSF.next hb
          replace G1 := G1.below hb G1.lt
          clear HY
          have HY := cells5 G1
          replace HB0 := btr HB0 HB0.size hb
          replace HS := Nat.le_trans HS hb.size
          refine hK.out _ _ ?_ (fun hNew => ?_)
          · (first | exact HY | assumption)
          clear hK K hHeld
          have hHeld := hNew
          clear hNew
          try simp only [Act.put, pz1, pz2, pz3]
          refine wpAnyH_ready (rs := [11]) (by kernel_rfl) (by simp) ?_
          refine AllReadyH.cons (o := ⟨some 22, .makeSlice 92 (.tmp 21) (.tmp 21), 92, "ref.go:30", #[⟨10, .data⟩, ⟨10, .data⟩], none⟩) rfl (fun K hK => ?_) AllReadyH.nil
          refine wp_makeI _ _ rfl a NB rfl rfl hNB (by omega) ?_
          intro wN gD RD hq hb
          have qgD := Nat.le_trans HS hq
          (try have ngNgD := Nat.ne_of_lt (Nat.lt_of_lt_of_le RN.lt hq))
          (try have ngWgD := Nat.ne_of_lt (Nat.lt_of_lt_of_le RV.lt hq))
          (try have nFgD := FR.ne RF hq)
          clear hq
          (try have hb := undrew hb)
          (try replace RN := RN.below hb)
          (try replace RV := RV.below hb)
          (try replace RF := FR.below_ RF hb)
          replace HSF := HSF.next hb
          replace G1 := G1.below hb G1.lt
          clear HY
          have HY := cells5 G1
          replace HB0 := btr HB0 HB0.size hb
          replace HS := Nat.le_trans HS hb.size
          refine hK.out _ _ ?_ (fun hNew => ?_)
          · (first | exact HY | assumption)
          clear hK K hHeld
          have hHeld := hNew
          clear hNew
          try simp only [Act.put, pz1, pz2, pz3]
          refine wpAnyH_take (i := 12) (oi := ⟨some 23, .build 94 #[(0, .tmp 11), (1, .tmp 13), (3, .tmp 16), (4, .tmp 19), (5, .tmp 22)], 94, "ref.go:30", #[⟨0, .data⟩, ⟨2, .data⟩, ⟨5, .data⟩, ⟨8, .data⟩, ⟨11, .data⟩], none⟩) (v := ?_) rfl (by kernel_rfl) (by kernel_rfl) (by kernel_rfl) (fun _ _ _ h => h) (Or.inl ⟨by rfl, ?_⟩) (by assumption) ?_; rotate_left; (· (intro wS hSw; (try dsimp only at hSw); go_simp; (try with_reducible rfl))); try simp only [Act.put, pz1, pz2, pz3]
          refine wpAnyH_ready (rs := [13]) (by kernel_rfl) (by simp) ?_
          refine AllReadyH.cons (o := ⟨some 24, .box 94 (.tmp 23), 30, "ref.go:30", #[⟨12, .data⟩], none⟩) rfl (fun K hK => ?_) AllReadyH.nil
          refine wp_boxR _ rfl rfl ?_
          intro wN m BM hq hb
          have qm := Nat.le_trans HS hq
          have nm1 : m ≠ gN := Nat.ne_of_gt (Nat.lt_of_lt_of_le RN.lt hq)
          have nm2 : m ≠ gW := Nat.ne_of_gt (Nat.lt_of_lt_of_le RV.lt hq)
          have nm3 : m ≠ gD := Nat.ne_of_gt (Nat.lt_of_lt_of_le RD.lt hq)
          have nFm := FR.ne RF hq
          (try have hb := undrew hb)
          (try replace RN := RN.below hb)
          (try replace RV := RV.below hb)
          (try replace RD := RD.below hb)
          (try replace RF := FR.below_ RF hb)
          replace HSF := HSF.next hb
          replace G1 := G1.below hb G1.lt
          clear HY
          have HY := cells5 G1
          replace HB0 := btr HB0 HB0.size hb
          replace HS := Nat.le_trans HS hb.size
          refine hK.out _ _ ?_ (fun hNew => ?_)
          · (first | exact HY | assumption)
          clear hK K hHeld
          have hHeld := hNew
          clear hNew
          try simp only [Act.put, pz1, pz2, pz3]
          refine wpAnyH_take (i := 14) (oi := ⟨some 5, .assign (.tmp 24), 30, "ref.go:30", #[⟨13, .data⟩, ⟨2, .chain⟩, ⟨0, .phase⟩, ⟨1, .phase⟩, ⟨2, .phase⟩, ⟨3, .phase⟩, ⟨4, .phase⟩, ⟨5, .phase⟩, ⟨6, .phase⟩, ⟨7, .phase⟩, ⟨8, .phase⟩, ⟨9, .phase⟩, ⟨10, .phase⟩, ⟨11, .phase⟩, ⟨12, .phase⟩, ⟨13, .phase⟩], none⟩) (v := ?_) rfl (by kernel_rfl) (by kernel_rfl) (by kernel_rfl) (fun _ _ _ h => h) (Or.inl ⟨by rfl, ?_⟩) (by assumption) ?_; rotate_left; (· (intro wS hSw; (try dsimp only at hSw); go_simp; (try with_reducible rfl))); try simp only [Act.put, pz1, pz2, pz3]
          refine wpAnyH_done (by kernel_rfl) ?_ _
          refine NoPanic.normal ?_
          go_wp2_with fail
          go_meet
          exact ⟨m, gN, gW, gD, AF, cf, rfl, NewL.start BM RN RV RD RF ⟨nm1, nm2, nm3, (by first | exact ngNgW | exact ngWgN.symm), (by first | exact ngNgD | exact ngDgN.symm), (by first | exact ngWgD | exact ngDgW.symm)⟩ ⟨nFm, nFgN, nFgW, nFgD⟩ ⟨by omega, by omega, by omega, by omega⟩ G1 HB0 qF⟩
        · refine wp_makeI _ _ rfl a NB rfl rfl hNB (by omega) ?_
          intro wN gD RD hq hb
          have qgD := Nat.le_trans HS hq
          (try have ngNgD := Nat.ne_of_lt (Nat.lt_of_lt_of_le RN.lt hq))
          (try have ngWgD := Nat.ne_of_lt (Nat.lt_of_lt_of_le RV.lt hq))
          (try have nFgD := FR.ne RF hq)
          clear hq
          (try have hb := undrew hb)
          (try replace RN := RN.below hb)
          (try replace RV := RV.below hb)
          (try replace RF := FR.below_ RF hb)
          replace HSF := HSF.next hb
          replace G1 := G1.below hb G1.lt
          clear HY
          have HY := cells5 G1
          replace HB0 := btr HB0 HB0.size hb
          replace HS := Nat.le_trans HS hb.size
          refine hK.out _ _ ?_ (fun hNew => ?_)
          · (first | exact HY | assumption)
          clear hK K hHeld
          have hHeld := hNew
          clear hNew
          try simp only [Act.put, pz1, pz2, pz3]
          refine wpAnyH_ready (rs := [8]) (by kernel_rfl) (by simp) ?_
          refine AllReadyH.cons (o := ⟨some 19, .makeSlice 92 (.tmp 18) (.tmp 18), 92, "ref.go:30", #[⟨7, .data⟩, ⟨7, .data⟩], none⟩) rfl (fun K hK => ?_) AllReadyH.nil
          refine wp_makeI _ _ rfl a NB rfl rfl hNB (by omega) ?_
          intro wN gW RV hq hb
          have qgW := Nat.le_trans HS hq
          (try have ngNgW := Nat.ne_of_lt (Nat.lt_of_lt_of_le RN.lt hq))
          (try have ngDgW := Nat.ne_of_lt (Nat.lt_of_lt_of_le RD.lt hq))
          (try have nFgW := FR.ne RF hq)
          clear hq
          (try have hb := undrew hb)
          (try replace RN := RN.below hb)
          (try replace RD := RD.below hb)
          (try replace RF := FR.below_ RF hb)
          replace HSF := HSF.next hb
          replace G1 := G1.below hb G1.lt
          clear HY
          have HY := cells5 G1
          replace HB0 := btr HB0 HB0.size hb
          replace HS := Nat.le_trans HS hb.size
          refine hK.out _ _ ?_ (fun hNew => ?_)
          · (first | exact HY | assumption)
          clear hK K hHeld
          have hHeld := hNew
          clear hNew
          try simp only [Act.put, pz1, pz2, pz3]
          refine wpAnyH_take (i := 12) (oi := ⟨some 23, .build 94 #[(0, .tmp 11), (1, .tmp 13), (3, .tmp 16), (4, .tmp 19), (5, .tmp 22)], 94, "ref.go:30", #[⟨0, .data⟩, ⟨2, .data⟩, ⟨5, .data⟩, ⟨8, .data⟩, ⟨11, .data⟩], none⟩) (v := ?_) rfl (by kernel_rfl) (by kernel_rfl) (by kernel_rfl) (fun _ _ _ h => h) (Or.inl ⟨by rfl, ?_⟩) (by assumption) ?_; rotate_left; (· (intro wS hSw; (try dsimp only at hSw); go_simp; (try with_reducible rfl))); try simp only [Act.put, pz1, pz2, pz3]
          refine wpAnyH_ready (rs := [13]) (by kernel_rfl) (by simp) ?_
          refine AllReadyH.cons (o := ⟨some 24, .box 94 (.tmp 23), 30, "ref.go:30", #[⟨12, .data⟩], none⟩) rfl (fun K hK => ?_) AllReadyH.nil
          refine wp_boxR _ rfl rfl ?_
          intro wN m BM hq hb
          have qm := Nat.le_trans HS hq
          have nm1 : m ≠ gN := Nat.ne_of_gt (Nat.lt_of_lt_of_le RN.lt hq)
          have nm2 : m ≠ gW := Nat.ne_of_gt (Nat.lt_of_lt_of_le RV.lt hq)
          have nm3 : m ≠ gD := Nat.ne_of_gt (Nat.lt_of_lt_of_le RD.lt hq)
          have nFm := FR.ne RF hq
          (try have hb := undrew hb)
          (try replace RN := RN.below hb)
          (try replace RV := RV.below hb)
          (try replace RD := RD.below hb)
          (try replace RF := FR.below_ RF hb)
          replace HSF := HSF.next hb
          replace G1 := G1.below hb G1.lt
          clear HY
          have HY := cells5 G1
          replace HB0 := btr HB0 HB0.size hb
          replace HS := Nat.le_trans HS hb.size
          refine hK.out _ _ ?_ (fun hNew => ?_)
          · (first | exact HY | assumption)
          clear hK K hHeld
          have hHeld := hNew
          clear hNew
          try simp only [Act.put, pz1, pz2, pz3]
          refine wpAnyH_take (i := 14) (oi := ⟨some 5, .assign (.tmp 24), 30, "ref.go:30", #[⟨13, .data⟩, ⟨2, .chain⟩, ⟨0, .phase⟩, ⟨1, .phase⟩, ⟨2, .phase⟩, ⟨3, .phase⟩, ⟨4, .phase⟩, ⟨5, .phase⟩, ⟨6, .phase⟩, ⟨7, .phase⟩, ⟨8, .phase⟩, ⟨9, .phase⟩, ⟨10, .phase⟩, ⟨11, .phase⟩, ⟨12, .phase⟩, ⟨13, .phase⟩], none⟩) (v := ?_) rfl (by kernel_rfl) (by kernel_rfl) (by kernel_rfl) (fun _ _ _ h => h) (Or.inl ⟨by rfl, ?_⟩) (by assumption) ?_; rotate_left; (· (intro wS hSw; (try dsimp only at hSw); go_simp; (try with_reducible rfl))); try simp only [Act.put, pz1, pz2, pz3]
          refine wpAnyH_done (by kernel_rfl) ?_ _
          refine NoPanic.normal ?_
          go_wp2_with fail
          go_meet
          exact ⟨m, gN, gW, gD, AF, cf, rfl, NewL.start BM RN RV RD RF ⟨nm1, nm2, nm3, (by first | exact ngNgW | exact ngWgN.symm), (by first | exact ngNgD | exact ngDgN.symm), (by first | exact ngWgD | exact ngDgW.symm)⟩ ⟨nFm, nFgN, nFgW, nFgD⟩ ⟨by omega, by omega, by omega, by omega⟩ G1 HB0 qF⟩
      · refine wp_makeI _ _ rfl a NB rfl rfl hNB (by omega) ?_
        intro wN gW RV hq hb
        have qgW := Nat.le_trans HS hq
        (try have ngNgW := Nat.ne_of_lt (Nat.lt_of_lt_of_le RN.lt hq))
        (try have ngDgW := Nat.ne_of_lt (Nat.lt_of_lt_of_le RD.lt hq))
        (try have nFgW := FR.ne RF hq)
        clear hq
        (try have hb := undrew hb)
        (try replace RN := RN.below hb)
        (try replace RD := RD.below hb)
        (try replace RF := FR.below_ RF hb)
        replace HSF := HSF.next hb
        replace G1 := G1.below hb G1.lt
        clear HY
        have HY := cells5 G1
        replace HB0 := btr HB0 HB0.size hb
        replace HS := Nat.le_trans HS hb.size
        refine hK.out _ _ ?_ (fun hNew => ?_)
        · (first | exact HY | assumption)
        clear hK K hHeld
        have hHeld := hNew
        clear hNew
        try simp only [Act.put, pz1, pz2, pz3]
        refine wpAnyH_ready (rs := [2, 11]) (by kernel_rfl) (by simp) ?_
        refine (AllReadyH.cons (o := ⟨some 13, .call { callee := .builtin .append, args := #[.const (.slice none 0 0), .tmp 12], argTypes := #[24, 24] }, 24, "ref.go:30", #[⟨1, .data⟩], none⟩) rfl (fun K hK => ?_) (AllReadyH.cons (o := ⟨some 22, .makeSlice 92 (.tmp 21) (.tmp 21), 92, "ref.go:30", #[⟨10, .data⟩, ⟨10, .data⟩], none⟩) rfl (fun K hK => ?_) AllReadyH.nil))
        · refine wp_appF0 _ rfl rfl fs A c0 rfl HSF hfl ?_
          intro wN AF cf RF hq hb
          have qF := FGe.le hq HS
          (try have nFgN := FNe.fresh hq RN.lt)
          (try have nFgW := FNe.fresh hq RV.lt)
          (try have nFgD := FNe.fresh hq RD.lt)
          clear hq
          (try have hb := undrew hb)
          (try replace RN := RN.below hb)
          (try replace RV := RV.below hb)
          (try replace RD := RD.below hb)
          replace HSF := HSF.next hb
          replace G1 := G1.below hb G1.lt
          clear HY
          have HY := cells5 G1
          replace HB0 := btr HB0 HB0.size hb
          replace HS := Nat.le_trans HS hb.size
          refine hK.out _ _ ?_ (fun hNew => ?_)
          · (first | exact HY | assumption)
          clear hK K hHeld
          have hHeld := hNew
          clear hNew
          try simp only [Act.put, pz1, pz2, pz3]
          refine wpAnyH_ready (rs := [11]) (by kernel_rfl) (by simp) ?_
          refine AllReadyH.cons (o := ⟨some 22, .makeSlice 92 (.tmp 21) (.tmp 21), 92, "ref.go:30", #[⟨10, .data⟩, ⟨10, .data⟩], none⟩) rfl (fun K hK => ?_) AllReadyH.nil
          refine wp_makeI _ _ rfl a NB rfl rfl hNB (by omega) ?_
          intro wN gD RD hq hb
          have qgD := Nat.le_trans HS hq
          (try have ngNgD := Nat.ne_of_lt (Nat.lt_of_lt_of_le RN.lt hq))
          (try have ngWgD := Nat.ne_of_lt (Nat.lt_of_lt_of_le RV.lt hq))
          (try have nFgD := FR.ne RF hq)
          clear hq
          (try have hb := undrew hb)
          (try replace RN := RN.below hb)
          (try replace RV := RV.below hb)
          (try replace RF := FR.below_ RF hb)
          replace HSF := HSF.next hb
          replace G1 := G1.below hb G1.lt
          clear HY
          have HY := cells5 G1
          replace HB0 := btr HB0 HB0.size hb
          replace HS := Nat.le_trans HS hb.size
          refine hK.out _ _ ?_ (fun hNew => ?_)
          · (first | exact HY | assumption)
          clear hK K hHeld
          have hHeld := hNew
          clear hNew
          try simp only [Act.put, pz1, pz2, pz3]
          refine wpAnyH_take (i := 12) (oi := ⟨some 23, .build 94 #[(0, .tmp 11), (1, .tmp 13), (3, .tmp 16), (4, .tmp 19), (5, .tmp 22)], 94, "ref.go:30", #[⟨0, .data⟩, ⟨2, .data⟩, ⟨5, .data⟩, ⟨8, .data⟩, ⟨11, .data⟩], none⟩) (v := ?_) rfl (by kernel_rfl) (by kernel_rfl) (by kernel_rfl) (fun _ _ _ h => h) (Or.inl ⟨by rfl, ?_⟩) (by assumption) ?_; rotate_left; (· (intro wS hSw; (try dsimp only at hSw); go_simp; (try with_reducible rfl))); try simp only [Act.put, pz1, pz2, pz3]
          refine wpAnyH_ready (rs := [13]) (by kernel_rfl) (by simp) ?_
          refine AllReadyH.cons (o := ⟨some 24, .box 94 (.tmp 23), 30, "ref.go:30", #[⟨12, .data⟩], none⟩) rfl (fun K hK => ?_) AllReadyH.nil
          refine wp_boxR _ rfl rfl ?_
          intro wN m BM hq hb
          have qm := Nat.le_trans HS hq
          have nm1 : m ≠ gN := Nat.ne_of_gt (Nat.lt_of_lt_of_le RN.lt hq)
          have nm2 : m ≠ gW := Nat.ne_of_gt (Nat.lt_of_lt_of_le RV.lt hq)
          have nm3 : m ≠ gD := Nat.ne_of_gt (Nat.lt_of_lt_of_le RD.lt hq)
          have nFm := FR.ne RF hq
          (try have hb := undrew hb)
          (try replace RN := RN.below hb)
          (try replace RV := RV.below hb)
          (try replace RD := RD.below hb)
          (try replace RF := FR.below_ RF hb)
          replace HSF := HSF.next hb
          replace G1 := G1.below hb G1.lt
          clear HY
          have HY := cells5 G1
          replace HB0 := btr HB0 HB0.size hb
          replace HS := Nat.le_trans HS hb.size
          refine hK.out _ _ ?_ (fun hNew => ?_)
          · (first | exact HY | assumption)
          clear hK K hHeld
          have hHeld := hNew
          clear hNew
          try simp only [Act.put, pz1, pz2, pz3]
          refine wpAnyH_take (i := 14) (oi := ⟨some 5, .assign (.tmp 24), 30, "ref.go:30", #[⟨13, .data⟩, ⟨2, .chain⟩, ⟨0, .phase⟩, ⟨1, .phase⟩, ⟨2, .phase⟩, ⟨3, .phase⟩, ⟨4, .phase⟩, ⟨5, .phase⟩, ⟨6, .phase⟩, ⟨7, .phase⟩, ⟨8, .phase⟩, ⟨9, .phase⟩, ⟨10, .phase⟩, ⟨11, .phase⟩, ⟨12, .phase⟩, ⟨13, .phase⟩], none⟩) (v := ?_) rfl (by kernel_rfl) (by kernel_rfl) (by kernel_rfl) (fun _ _ _ h => h) (Or.inl ⟨by rfl, ?_⟩) (by assumption) ?_; rotate_left; (· (intro wS hSw; (try dsimp only at hSw); go_simp; (try with_reducible rfl))); try simp only [Act.put, pz1, pz2, pz3]
          refine wpAnyH_done (by kernel_rfl) ?_ _
          refine NoPanic.normal ?_
          go_wp2_with fail
          go_meet
          exact ⟨m, gN, gW, gD, AF, cf, rfl, NewL.start BM RN RV RD RF ⟨nm1, nm2, nm3, (by first | exact ngNgW | exact ngWgN.symm), (by first | exact ngNgD | exact ngDgN.symm), (by first | exact ngWgD | exact ngDgW.symm)⟩ ⟨nFm, nFgN, nFgW, nFgD⟩ ⟨by omega, by omega, by omega, by omega⟩ G1 HB0 qF⟩
        · refine wp_makeI _ _ rfl a NB rfl rfl hNB (by omega) ?_
          intro wN gD RD hq hb
          have qgD := Nat.le_trans HS hq
          (try have ngNgD := Nat.ne_of_lt (Nat.lt_of_lt_of_le RN.lt hq))
          (try have ngWgD := Nat.ne_of_lt (Nat.lt_of_lt_of_le RV.lt hq))
          (try have nFgD := FR.ne RF hq)
          clear hq
          (try have hb := undrew hb)
          (try replace RN := RN.below hb)
          (try replace RV := RV.below hb)
          (try replace RF := FR.below_ RF hb)
          replace HSF := HSF.next hb
          replace G1 := G1.below hb G1.lt
          clear HY
          have HY := cells5 G1
          replace HB0 := btr HB0 HB0.size hb
          replace HS := Nat.le_trans HS hb.size
          refine hK.out _ _ ?_ (fun hNew => ?_)
          · (first | exact HY | assumption)
          clear hK K hHeld
          have hHeld := hNew
          clear hNew
          try simp only [Act.put, pz1, pz2, pz3]
          refine wpAnyH_ready (rs := [2]) (by kernel_rfl) (by simp) ?_
          refine AllReadyH.cons (o := ⟨some 13, .call { callee := .builtin .append, args := #[.const (.slice none 0 0), .tmp 12], argTypes := #[24, 24] }, 24, "ref.go:30", #[⟨1, .data⟩], none⟩) rfl (fun K hK => ?_) AllReadyH.nil
          refine wp_appF0 _ rfl rfl fs A c0 rfl HSF hfl ?_
          intro wN AF cf RF hq hb
          have qF := FGe.le hq HS
          (try have nFgN := FNe.fresh hq RN.lt)
          (try have nFgW := FNe.fresh hq RV.lt)
          (try have nFgD := FNe.fresh hq RD.lt)
          clear hq
          (try have hb := undrew hb)
          (try replace RN := RN.below hb)
          (try replace RV := RV.below hb)
          (try replace RD := RD.below hb)
          replace HSF := HSF.next hb
          replace G1 := G1.below hb G1.lt
          clear HY
          have HY := cells5 G1
          replace HB0 := btr HB0 HB0.size hb
          replace HS := Nat.le_trans HS hb.size
          refine hK.out _ _ ?_ (fun hNew => ?_)
          · (first | exact HY | assumption)
          clear hK K hHeld
          have hHeld := hNew
          clear hNew
          try simp only [Act.put, pz1, pz2, pz3]
          refine wpAnyH_take (i := 12) (oi := ⟨some 23, .build 94 #[(0, .tmp 11), (1, .tmp 13), (3, .tmp 16), (4, .tmp 19), (5, .tmp 22)], 94, "ref.go:30", #[⟨0, .data⟩, ⟨2, .data⟩, ⟨5, .data⟩, ⟨8, .data⟩, ⟨11, .data⟩], none⟩) (v := ?_) rfl (by kernel_rfl) (by kernel_rfl) (by kernel_rfl) (fun _ _ _ h => h) (Or.inl ⟨by rfl, ?_⟩) (by assumption) ?_; rotate_left; (· (intro wS hSw; (try dsimp only at hSw); go_simp; (try with_reducible rfl))); try simp only [Act.put, pz1, pz2, pz3]
          refine wpAnyH_ready (rs := [13]) (by kernel_rfl) (by simp) ?_
          refine AllReadyH.cons (o := ⟨some 24, .box 94 (.tmp 23), 30, "ref.go:30", #[⟨12, .data⟩], none⟩) rfl (fun K hK => ?_) AllReadyH.nil
          refine wp_boxR _ rfl rfl ?_
          intro wN m BM hq hb
          have qm := Nat.le_trans HS hq
          have nm1 : m ≠ gN := Nat.ne_of_gt (Nat.lt_of_lt_of_le RN.lt hq)
          have nm2 : m ≠ gW := Nat.ne_of_gt (Nat.lt_of_lt_of_le RV.lt hq)
          have nm3 : m ≠ gD := Nat.ne_of_gt (Nat.lt_of_lt_of_le RD.lt hq)
          have nFm := FR.ne RF hq
          (try have hb := undrew hb)
          (try replace RN := RN.below hb)
          (try replace RV := RV.below hb)
          (try replace RD := RD.below hb)
          (try replace RF := FR.below_ RF hb)
          replace HSF := HSF.next hb
          replace G1 := G1.below hb G1.lt
          clear HY
          have HY := cells5 G1
          replace HB0 := btr HB0 HB0.size hb
          replace HS := Nat.le_trans HS hb.size
          refine hK.out _ _ ?_ (fun hNew => ?_)
          · (first | exact HY | assumption)
          clear hK K hHeld
          have hHeld := hNew
          clear hNew
          try simp only [Act.put, pz1, pz2, pz3]
          refine wpAnyH_take (i := 14) (oi := ⟨some 5, .assign (.tmp 24), 30, "ref.go:30", #[⟨13, .data⟩, ⟨2, .chain⟩, ⟨0, .phase⟩, ⟨1, .phase⟩, ⟨2, .phase⟩, ⟨3, .phase⟩, ⟨4, .phase⟩, ⟨5, .phase⟩, ⟨6, .phase⟩, ⟨7, .phase⟩, ⟨8, .phase⟩, ⟨9, .phase⟩, ⟨10, .phase⟩, ⟨11, .phase⟩, ⟨12, .phase⟩, ⟨13, .phase⟩], none⟩) (v := ?_) rfl (by kernel_rfl) (by kernel_rfl) (by kernel_rfl) (fun _ _ _ h => h) (Or.inl ⟨by rfl, ?_⟩) (by assumption) ?_; rotate_left; (· (intro wS hSw; (try dsimp only at hSw); go_simp; (try with_reducible rfl))); try simp only [Act.put, pz1, pz2, pz3]
          refine wpAnyH_done (by kernel_rfl) ?_ _
          refine NoPanic.normal ?_
          go_wp2_with fail
          go_meet
          exact ⟨m, gN, gW, gD, AF, cf, rfl, NewL.start BM RN RV RD RF ⟨nm1, nm2, nm3, (by first | exact ngNgW | exact ngWgN.symm), (by first | exact ngNgD | exact ngDgN.symm), (by first | exact ngWgD | exact ngDgW.symm)⟩ ⟨nFm, nFgN, nFgW, nFgD⟩ ⟨by omega, by omega, by omega, by omega⟩ G1 HB0 qF⟩
      · refine wp_makeI _ _ rfl a NB rfl rfl hNB (by omega) ?_
        intro wN gD RD hq hb
        have qgD := Nat.le_trans HS hq
        (try have ngNgD := Nat.ne_of_lt (Nat.lt_of_lt_of_le RN.lt hq))
        (try have ngWgD := Nat.ne_of_lt (Nat.lt_of_lt_of_le RV.lt hq))
        (try have nFgD := FR.ne RF hq)
        clear hq
        (try have hb := undrew hb)
        (try replace RN := RN.below hb)
        (try replace RV := RV.below hb)
        (try replace RF := FR.below_ RF hb)
        replace HSF := HSF.next hb
        replace G1 := G1.below hb G1.lt
        clear HY
        have HY := cells5 G1
        replace HB0 := btr HB0 HB0.size hb
        replace HS := Nat.le_trans HS hb.size
        refine hK.out _ _ ?_ (fun hNew => ?_)
        · (first | exact HY | assumption)
        clear hK K hHeld
        have hHeld := hNew
        clear hNew
        try simp only [Act.put, pz1, pz2, pz3]
        refine wpAnyH_ready (rs := [2, 8]) (by kernel_rfl) (by simp) ?_
        refine (AllReadyH.cons (o := ⟨some 13, .call { callee := .builtin .append, args := #[.const (.slice none 0 0), .tmp 12], argTypes := #[24, 24] }, 24, "ref.go:30", #[⟨1, .data⟩], none⟩) rfl (fun K hK => ?_) (AllReadyH.cons (o := ⟨some 19, .makeSlice 92 (.tmp 18) (.tmp 18), 92, "ref.go:30", #[⟨7, .data⟩, ⟨7, .data⟩], none⟩) rfl (fun K hK => ?_) AllReadyH.nil))
        · refine wp_appF0 _ rfl rfl fs A c0 rfl HSF hfl ?_
          intro wN AF cf RF hq hb
          have qF := FGe.le hq HS
          (try have nFgN := FNe.fresh hq RN.lt)
          (try have nFgW := FNe.fresh hq RV.lt)
          (try have nFgD := FNe.fresh hq RD.lt)
          clear hq
          (try have hb := undrew hb)
          (try replace RN := RN.below hb)
          (try replace RV := RV.below hb)
          (try replace RD := RD.below hb)
          replace HSF := HSF.next hb
          replace G1 := G1.below hb G1.lt
          clear HY
          have HY := cells5 G1
          replace HB0 := btr HB0 HB0.size hb
          replace HS := Nat.le_trans HS hb.size
          refine hK.out _ _ ?_ (fun hNew => ?_)
          · (first | exact HY | assumption)
          clear hK K hHeld
          have hHeld := hNew
          clear hNew
          try simp only [Act.put, pz1, pz2, pz3]
          refine wpAnyH_ready (rs := [8]) (by kernel_rfl) (by simp) ?_
          refine AllReadyH.cons (o := ⟨some 19, .makeSlice 92 (.tmp 18) (.tmp 18), 92, "ref.go:30", #[⟨7, .data⟩, ⟨7, .data⟩], none⟩) rfl (fun K hK => ?_) AllReadyH.nil
          refine wp_makeI _ _ rfl a NB rfl rfl hNB (by omega) ?_
          intro wN gW RV hq hb
          have qgW := Nat.le_trans HS hq
          (try have ngNgW := Nat.ne_of_lt (Nat.lt_of_lt_of_le RN.lt hq))
          (try have ngDgW := Nat.ne_of_lt (Nat.lt_of_lt_of_le RD.lt hq))
          (try have nFgW := FR.ne RF hq)
          clear hq
          (try have hb := undrew hb)
          (try replace RN := RN.below hb)
          (try replace RD := RD.below hb)
          (try replace RF := FR.below_ RF hb)
          replace HSF := HSF.next hb
          replace G1 := G1.below hb G1.lt
          clear HY
          have HY := cells5 G1
          replace HB0 := btr HB0 HB0.size hb
          replace HS := Nat.le_trans HS hb.size
          refine hK.out _ _ ?_ (fun hNew => ?_)
          · (first | exact HY | assumption)
          clear hK K hHeld
          have hHeld := hNew
          clear hNew
          try simp only [Act.put, pz1, pz2, pz3]
          refine wpAnyH_take (i := 12) (oi := ⟨some 23, .build 94 #[(0, .tmp 11), (1, .tmp 13), (3, .tmp 16), (4, .tmp 19), (5, .tmp 22)], 94, "ref.go:30", #[⟨0, .data⟩, ⟨2, .data⟩, ⟨5, .data⟩, ⟨8, .data⟩, ⟨11, .data⟩], none⟩) (v := ?_) rfl (by kernel_rfl) (by kernel_rfl) (by kernel_rfl) (fun _ _ _ h => h) (Or.inl ⟨by rfl, ?_⟩) (by assumption) ?_; rotate_left; (· (intro wS hSw; (try dsimp only at hSw); go_simp; (try with_reducible rfl))); try simp only [Act.put, pz1, pz2, pz3]
          refine wpAnyH_ready (rs := [13]) (by kernel_rfl) (by simp) ?_
          refine AllReadyH.cons (o := ⟨some 24, .box 94 (.tmp 23), 30, "ref.go:30", #[⟨12, .data⟩], none⟩) rfl (fun K hK => ?_) AllReadyH.nil
          refine wp_boxR _ rfl rfl ?_
          intro wN m BM hq hb
          have qm := Nat.le_trans HS hq
          have nm1 : m ≠ gN := Nat.ne_of_gt (Nat.lt_of_lt_of_le RN.lt hq)
          have nm2 : m ≠ gW := Nat.ne_of_gt (Nat.lt_of_lt_of_le RV.lt hq)
          have nm3 : m ≠ gD := Nat.ne_of_gt (Nat.lt_of_lt_of_le RD.lt hq)
          have nFm := FR.ne RF hq
          (try have hb := undrew hb)
          (try replace RN := RN.below hb)
          (try replace RV := RV.below hb)
          (try replace RD := RD.below hb)
          (try replace RF := FR.below_ RF hb)
          replace HSF := HSF.next hb
          replace G1 := G1.below hb G1.lt
          clear HY
          have HY := cells5 G1
          replace HB0 := btr HB0 HB0.size hb
          replace HS := Nat.le_trans HS hb.size
          refine hK.out _ _ ?_ (fun hNew => ?_)
          · (first | exact HY | assumption)
          clear hK K hHeld
          have hHeld := hNew
          clear hNew
          try simp only [Act.put, pz1, pz2, pz3]
          refine wpAnyH_take (i := 14) (oi := ⟨some 5, .assign (.tmp 24), 30, "ref.go:30", #[⟨13, .data⟩, ⟨2, .chain⟩, ⟨0, .phase⟩, ⟨1, .phase⟩, ⟨2, .phase⟩, ⟨3, .phase⟩, ⟨4, .phase⟩, ⟨5, .phase⟩, ⟨6, .phase⟩, ⟨7, .phase⟩, ⟨8, .phase⟩, ⟨9, .phase⟩, ⟨10, .phase⟩, ⟨11, .phase⟩, ⟨12, .phase⟩, ⟨13, .phase⟩], none⟩) (v := ?_) rfl (by kernel_rfl) (by kernel_rfl) (by kernel_rfl) (fun _ _ _ h => h) (Or.inl ⟨by rfl, ?_⟩) (by assumption) ?_; rotate_left; (· (intro wS hSw; (try dsimp only at hSw); go_simp; (try with_reducible rfl))); try simp only [Act.put, pz1, pz2, pz3]
          refine wpAnyH_done (by kernel_rfl) ?_ _
          refine NoPanic.normal ?_
          go_wp2_with fail
          go_meet
          exact ⟨m, gN, gW, gD, AF, cf, rfl, NewL.start BM RN RV RD RF ⟨nm1, nm2, nm3, (by first | exact ngNgW | exact ngWgN.symm), (by first | exact ngNgD | exact ngDgN.symm), (by first | exact ngWgD | exact ngDgW.symm)⟩ ⟨nFm, nFgN, nFgW, nFgD⟩ ⟨by omega, by omega, by omega, by omega⟩ G1 HB0 qF⟩
        · refine wp_makeI _ _ rfl a NB rfl rfl hNB (by omega) ?_
          intro wN gW RV hq hb
          have qgW := Nat.le_trans HS hq
          (try have ngNgW := Nat.ne_of_lt (Nat.lt_of_lt_of_le RN.lt hq))
          (try have ngDgW := Nat.ne_of_lt (Nat.lt_of_lt_of_le RD.lt hq))
          (try have nFgW := FR.ne RF hq)
          clear hq
          (try have hb := undrew hb)
          (try replace RN := RN.below hb)
          (try replace RD := RD.below hb)
          (try replace RF := FR.below_ RF hb)
          replace HSF := HSF.next hb
          replace G1 := G1.below hb G1.lt
          clear HY
          have HY := cells5 G1
          replace HB0 := btr HB0 HB0.size hb
          replace HS := Nat.le_trans HS hb.size
          refine hK.out _ _ ?_ (fun hNew => ?_)
          · (first | exact HY | assumption)
          clear hK K hHeld
          have hHeld := hNew
          clear hNew
          try simp only [Act.put, pz1, pz2, pz3]
          refine wpAnyH_ready (rs := [2]) (by kernel_rfl) (by simp) ?_
          refine AllReadyH.cons (o := ⟨some 13, .call { callee := .builtin .append, args := #[.const (.slice none 0 0), .tmp 12], argTypes := #[24, 24] }, 24, "ref.go:30", #[⟨1, .data⟩], none⟩) rfl (fun K hK => ?_) AllReadyH.nil
          refine wp_appF0 _ rfl rfl fs A c0 rfl HSF hfl ?_
          intro wN AF cf RF hq hb
          have qF := FGe.le hq HS
          (try have nFgN := FNe.fresh hq RN.lt)
          (try have nFgW := FNe.fresh hq RV.lt)
          (try have nFgD := FNe.fresh hq RD.lt)
          clear hq
          (try have hb := undrew hb)
          (try replace RN := RN.below hb)
          (try replace RV := RV.below hb)
          (try replace RD := RD.below hb)
          replace HSF := HSF.next hb
          replace G1 := G1.below hb G1.lt
          clear HY
          have HY := cells5 G1
          replace HB0 := btr HB0 HB0.size hb
          replace HS := Nat.le_trans HS hb.size
          refine hK.out _ _ ?_ (fun hNew => ?_)
          · (first | exact HY | assumption)
          clear hK K hHeld
          have hHeld := hNew
          clear hNew
          try simp only [Act.put, pz1, pz2, pz3]
          refine wpAnyH_take (i := 12) (oi := ⟨some 23, .build 94 #[(0, .tmp 11), (1, .tmp 13), (3, .tmp 16), (4, .tmp 19), (5, .tmp 22)], 94, "ref.go:30", #[⟨0, .data⟩, ⟨2, .data⟩, ⟨5, .data⟩, ⟨8, .data⟩, ⟨11, .data⟩], none⟩) (v := ?_) rfl (by kernel_rfl) (by kernel_rfl) (by kernel_rfl) (fun _ _ _ h => h) (Or.inl ⟨by rfl, ?_⟩) (by assumption) ?_; rotate_left; (· (intro wS hSw; (try dsimp only at hSw); go_simp; (try with_reducible rfl))); try simp only [Act.put, pz1, pz2, pz3]
          refine wpAnyH_ready (rs := [13]) (by kernel_rfl) (by simp) ?_
          refine AllReadyH.cons (o := ⟨some 24, .box 94 (.tmp 23), 30, "ref.go:30", #[⟨12, .data⟩], none⟩) rfl (fun K hK => ?_) AllReadyH.nil
          refine wp_boxR _ rfl rfl ?_
          intro wN m BM hq hb
          have qm := Nat.le_trans HS hq
          have nm1 : m ≠ gN := Nat.ne_of_gt (Nat.lt_of_lt_of_le RN.lt hq)
          have nm2 : m ≠ gW := Nat.ne_of_gt (Nat.lt_of_lt_of_le RV.lt hq)
          have nm3 : m ≠ gD := Nat.ne_of_gt (Nat.lt_of_lt_of_le RD.lt hq)
          have nFm := FR.ne RF hq
          (try have hb := undrew hb)
          (try replace RN := RN.below hb)
          (try replace RV := RV.below hb)
          (try replace RD := RD.below hb)
          (try replace RF := FR.below_ RF hb)
          replace HSF := HSF.next hb
          replace G1 := G1.below hb G1.lt
          clear HY
          have HY := cells5 G1
          replace HB0 := btr HB0 HB0.size hb
          replace HS := Nat.le_trans HS hb.size
          refine hK.out _ _ ?_ (fun hNew => ?_)
          · (first | exact HY | assumption)
          clear hK K hHeld
          have hHeld := hNew
          clear hNew
          try simp only [Act.put, pz1, pz2, pz3]
          refine wpAnyH_take (i := 14) (oi := ⟨some 5, .assign (.tmp 24), 30, "ref.go:30", #[⟨13, .data⟩, ⟨2, .chain⟩, ⟨0, .phase⟩, ⟨1, .phase⟩, ⟨2, .phase⟩, ⟨3, .phase⟩, ⟨4, .phase⟩, ⟨5, .phase⟩, ⟨6, .phase⟩, ⟨7, .phase⟩, ⟨8, .phase⟩, ⟨9, .phase⟩, ⟨10, .phase⟩, ⟨11, .phase⟩, ⟨12, .phase⟩, ⟨13, .phase⟩], none⟩) (v := ?_) rfl (by kernel_rfl) (by kernel_rfl) (by kernel_rfl) (fun _ _ _ h => h) (Or.inl ⟨by rfl, ?_⟩) (by assumption) ?_; rotate_left; (· (intro wS hSw; (try dsimp only at hSw); go_simp; (try with_reducible rfl))); try simp only [Act.put, pz1, pz2, pz3]
          refine wpAnyH_done (by kernel_rfl) ?_ _
          refine NoPanic.normal ?_
          go_wp2_with fail
          go_meet
          exact ⟨m, gN, gW, gD, AF, cf, rfl, NewL.start BM RN RV RD RF ⟨nm1, nm2, nm3, (by first | exact ngNgW | exact ngWgN.symm), (by first | exact ngNgD | exact ngDgN.symm), (by first | exact ngWgD | exact ngDgW.symm)⟩ ⟨nFm, nFgN, nFgW, nFgD⟩ ⟨by omega, by omega, by omega, by omega⟩ G1 HB0 qF⟩
    · refine wp_makeI _ _ rfl a NB rfl rfl hNB (by omega) ?_
      intro wN gW RV hq hb
      have qgW := Nat.le_trans HS hq
      (try have ngNgW := Nat.ne_of_lt (Nat.lt_of_lt_of_le RN.lt hq))
      (try have ngDgW := Nat.ne_of_lt (Nat.lt_of_lt_of_le RD.lt hq))
      (try have nFgW := FR.ne RF hq)
      clear hq
      (try have hb := undrew hb)
      (try replace RN := RN.below hb)
      (try replace RD := RD.below hb)
      (try replace RF := FR.below_ RF hb)
      replace HSF := HSF.next hb
      replace G1 := G1.below hb G1.lt
      clear HY
      have HY := cells5 G1
      replace HB0 := btr HB0 HB0.size hb
      replace HS := Nat.le_trans HS hb.size
      refine hK.out _ _ ?_ (fun hNew => ?_)
      · (first | exact HY | assumption)
      clear hK K hHeld
      have hHeld := hNew
      clear hNew
      try simp only [Act.put, pz1, pz2, pz3]
      refine wpAnyH_ready (rs := [2, 5, 11]) (by kernel_rfl) (by simp) ?_
      refine (AllReadyH.cons (o := ⟨some 13, .call { callee := .builtin .append, args := #[.const (.slice none 0 0), .tmp 12], argTypes := #[24, 24] }, 24, "ref.go:30", #[⟨1, .data⟩], none⟩) rfl (fun K hK => ?_) (AllReadyH.cons (o := ⟨some 16, .makeSlice 92 (.tmp 15) (.tmp 15), 92, "ref.go:30", #[⟨4, .data⟩, ⟨4, .data⟩], none⟩) rfl (fun K hK => ?_) (AllReadyH.cons (o := ⟨some 22, .makeSlice 92 (.tmp 21) (.tmp 21), 92, "ref.go:30", #[⟨10, .data⟩, ⟨10, .data⟩], none⟩) rfl (fun K hK => ?_) AllReadyH.nil)))
      · refine wp_appF0 _ rfl rfl fs A c0 rfl HSF hfl ?_
        intro wN AF cf RF hq hb
        have qF := FGe.le hq HS
        (try have nFgN := FNe.fresh hq RN.lt)
        (try have nFgW := FNe.fresh hq RV.lt)
        (try have nFgD := FNe.fresh hq RD.lt)
        clear hq
        (try have hb := undrew hb)
        (try replace RN := RN.below hb)
        (try replace RV := RV.below hb)
        (try replace RD := RD.below hb)
        replace HSF := HSF.next hb
        replace G1 := G1.below hb G1.lt
        clear HY
        have HY := cells5 G1
        replace HB0 := btr HB0 HB0.size hb
        replace HS := Nat.le_trans HS hb.size
        refine hK.out _ _ ?_ (fun hNew => ?_)
        · (first | exact HY | assumption)
        clear hK K hHeld
        have hHeld := hNew
        clear hNew
        try simp only [Act.put, pz1, pz2, pz3]
        refine wpAnyH_ready (rs := [5, 11]) (by kernel_rfl) (by simp) ?_
        refine (AllReadyH.cons (o := ⟨some 16, .makeSlice 92 (.tmp 15) (.tmp 15), 92, "ref.go:30", #[⟨4, .data⟩, ⟨4, .data⟩], none⟩) rfl (fun K hK => ?_) (AllReadyH.cons (o := ⟨some 22, .makeSlice 92 (.tmp 21) (.tmp 21), 92, "ref.go:30", #[⟨10, .data⟩, ⟨10, .data⟩], none⟩) rfl (fun K hK => ?_) AllReadyH.nil))
        · refine wp_makeI _ _ rfl a NB rfl rfl hNB (by omega) ?_
          intro wN gN RN hq hb
          have qgN := Nat.le_trans HS hq
          (try have ngWgN := Nat.ne_of_lt (Nat.lt_of_lt_of_le RV.lt hq))
          (try have ngDgN := Nat.ne_of_lt (Nat.lt_of_lt_of_le RD.lt hq))
          (try have nFgN := FR.ne RF hq)
          clear hq
          (try have hb := undrew hb)
          (try replace RV := RV.below hb)
          (try replace RD := RD.below hb)
          (try replace RF := FR.below_ RF hb)
          replace HSF := HSF.next hb
          replace G1 := G1.below hb G1.lt
          clear HY
          have HY := cells5 G1
          replace HB0 := btr HB0 HB0.size hb
          replace HS := Nat.le_trans HS hb.size
          refine hK.out _ _ ?_ (fun hNew => ?_)
          · (first | exact HY | assumption)
          clear hK K hHeld
          have hHeld := hNew
          clear hNew
          try simp only [Act.put, pz1, pz2, pz3]
          refine wpAnyH_ready (rs := [11]) (by kernel_rfl) (by simp) ?_
          refine AllReadyH.cons (o := ⟨some 22, .makeSlice 92 (.tmp 21) (.tmp 21), 92, "ref.go:30", #[⟨10, .data⟩, ⟨10, .data⟩], none⟩) rfl (fun K hK => ?_) AllReadyH.nil
          refine wp_makeI _ _ rfl a NB rfl rfl hNB (by omega) ?_
          intro wN gD RD hq hb
          have qgD := Nat.le_trans HS hq
          (try have ngNgD := Nat.ne_of_lt (Nat.lt_of_lt_of_le RN.lt hq))
          (try have ngWgD := Nat.ne_of_lt (Nat.lt_of_lt_of_le RV.lt hq))
          (try have nFgD := FR.ne RF hq)
          clear hq
          (try have hb := undrew hb)
          (try replace RN := RN.below hb)
          (try replace RV := RV.below hb)
          (try replace RF := FR.below_ RF hb)
          replace HSF := HSF.next hb
          replace G1 := G1.below hb G1.lt
          clear HY
          have HY := cells5 G1
          replace HB0 := btr HB0 HB0.size hb
          replace HS := Nat.le_trans HS hb.size
          refine hK.out _ _ ?_ (fun hNew => ?_)
          · (first | exact HY | assumption)
          clear hK K hHeld
          have hHeld := hNew
          clear hNew
          try simp only [Act.put, pz1, pz2, pz3]
          refine wpAnyH_take (i := 12) (oi := ⟨some 23, .build 94 #[(0, .tmp 11), (1, .tmp 13), (3, .tmp 16), (4, .tmp 19), (5, .tmp 22)], 94, "ref.go:30", #[⟨0, .data⟩, ⟨2, .data⟩, ⟨5, .data⟩, ⟨8, .data⟩, ⟨11, .data⟩], none⟩) (v := ?_) rfl (by kernel_rfl) (by kernel_rfl) (by kernel_rfl) (fun _ _ _ h => h) (Or.inl ⟨by rfl, ?_⟩) (by assumption) ?_; rotate_left; (· (intro wS hSw; (try dsimp only at hSw); go_simp; (try with_reducible rfl))); try simp only [Act.put, pz1, pz2, pz3]
          refine wpAnyH_ready (rs := [13]) (by kernel_rfl) (by simp) ?_
          refine AllReadyH.cons (o := ⟨some 24, .box 94 (.tmp 23), 30, "ref.go:30", #[⟨12, .data⟩], none⟩) rfl (fun K hK => ?_) AllReadyH.nil
          refine wp_boxR _ rfl rfl ?_
          intro wN m BM hq hb
          have qm := Nat.le_trans HS hq
          have nm1 : m ≠ gN := Nat.ne_of_gt (Nat.lt_of_lt_of_le RN.lt hq)
          have nm2 : m ≠ gW := Nat.ne_of_gt (Nat.lt_of_lt_of_le RV.lt hq)
          have nm3 : m ≠ gD := Nat.ne_of_gt (Nat.lt_of_lt_of_le RD.lt hq)
          have nFm := FR.ne RF hq
          (try have hb := undrew hb)
          (try replace RN := RN.below hb)
          (try replace RV := RV.below hb)
          (try replace RD := RD.below hb)
          (try replace RF := FR.below_ RF hb)
          replace HSF := HSF.next hb
          replace G1 := G1.below hb G1.lt
          clear HY
          have HY := cells5 G1
          replace HB0 := btr HB0 HB0.size hb
          replace HS := Nat.le_trans HS hb.size
          refine hK.out _ _ ?_ (fun hNew => ?_)
          · (first | exact HY | assumption)
          clear hK K hHeld
          have hHeld := hNew
          clear hNew
          try simp only [Act.put, pz1, pz2, pz3]
          refine wpAnyH_take (i := 14) (oi := ⟨some 5, .assign (.tmp 24), 30, "ref.go:30", #[⟨13, .data⟩, ⟨2, .chain⟩, ⟨0, .phase⟩, ⟨1, .phase⟩, ⟨2, .phase⟩, ⟨3, .phase⟩, ⟨4, .phase⟩, ⟨5, .phase⟩, ⟨6, .phase⟩, ⟨7, .phase⟩, ⟨8, .phase⟩, ⟨9, .phase⟩, ⟨10, .phase⟩, ⟨11, .phase⟩, ⟨12, .phase⟩, ⟨13, .phase⟩], none⟩) (v := ?_) rfl (by kernel_rfl) (by kernel_rfl) (by kernel_rfl) (fun _ _ _ h => h) (Or.inl ⟨by rfl, ?_⟩) (by assumption) ?_; rotate_left; (· (intro wS hSw; (try dsimp only at hSw); go_simp; (try with_reducible rfl))); try simp only [Act.put, pz1, pz2, pz3]
          refine wpAnyH_done (by kernel_rfl) ?_ _
          refine NoPanic.normal ?_
          go_wp2_with fail
          go_meet
          exact ⟨m, gN, gW, gD, AF, cf, rfl, NewL.start BM RN RV RD RF ⟨nm1, nm2, nm3, (by first | exact ngNgW | exact ngWgN.symm), (by first | exact ngNgD | exact ngDgN.symm), (by first | exact ngWgD | exact ngDgW.symm)⟩ ⟨nFm, nFgN, nFgW, nFgD⟩ ⟨by omega, by omega, by omega, by omega⟩ G1 HB0 qF⟩
        · refine wp_makeI _ _ rfl a NB rfl rfl hNB (by omega) ?_
          intro wN gD RD hq hb
          have qgD := Nat.le_trans HS hq
          (try have ngNgD := Nat.ne_of_lt (Nat.lt_of_lt_of_le RN.lt hq))
          (try have ngWgD := Nat.ne_of_lt (Nat.lt_of_lt_of_le RV.lt hq))
          (try have nFgD := FR.ne RF hq)
          clear hq
          (try have hb := undrew hb)
          (try replace RN := RN.below hb)
          (try replace RV := RV.below hb)
          (try replace RF := FR.below_ RF hb)
          replace HSF := HSF.next hb
          replace G1 := G1.below hb G1.lt
          clear HY
          have HY := cells5 G1
          replace HB0 := btr HB0 HB0.size hb
          replace HS := Nat.le_trans HS hb.size
          refine hK.out _ _ ?_ (fun hNew => ?_)
          · (first | exact HY | assumption)
          clear hK K hHeld
          have hHeld := hNew
          clear hNew
          try simp only [Act.put, pz1, pz2, pz3]
          refine wpAnyH_ready (rs := [5]) (by kernel_rfl) (by simp) ?_
          refine AllReadyH.cons (o := ⟨some 16, .makeSlice 92 (.tmp 15) (.tmp 15), 92, "ref.go:30", #[⟨4, .data⟩, ⟨4, .data⟩], none⟩) rfl (fun K hK => ?_) AllReadyH.nil
          refine wp_makeI _ _ rfl a NB rfl rfl hNB (by omega) ?_
          intro wN gN RN hq hb
          have qgN := Nat.le_trans HS hq
          (try have ngWgN := Nat.ne_of_lt (Nat.lt_of_lt_of_le RV.lt hq))
          (try have ngDgN := Nat.ne_of_lt (Nat.lt_of_lt_of_le RD.lt hq))
          (try have nFgN := FR.ne RF hq)
          clear hq
          (try have hb := undrew hb)
          (try replace RV := RV.below hb)
          (try replace RD := RD.below hb)
          (try replace RF := FR.below_ RF hb)
          replace HSF := HSF.next hb
          replace G1 := G1.below hb G1.lt
          clear HY
          have HY := cells5 G1
          replace HB0 := btr HB0 HB0.size hb
          replace HS := Nat.le_trans HS hb.size
          refine hK.out _ _ ?_ (fun hNew => ?_)
          · (first | exact HY | assumption)
          clear hK K hHeld
          have hHeld := hNew
          clear hNew
          try simp only [Act.put, pz1, pz2, pz3]
          refine wpAnyH_take (i := 12) (oi := ⟨some 23, .build 94 #[(0, .tmp 11), (1, .tmp 13), (3, .tmp 16), (4, .tmp 19), (5, .tmp 22)], 94, "ref.go:30", #[⟨0, .data⟩, ⟨2, .data⟩, ⟨5, .data⟩, ⟨8, .data⟩, ⟨11, .data⟩], none⟩) (v := ?_) rfl (by kernel_rfl) (by kernel_rfl) (by kernel_rfl) (fun _ _ _ h => h) (Or.inl ⟨by rfl, ?_⟩) (by assumption) ?_; rotate_left; (· (intro wS hSw; (try dsimp only at hSw); go_simp; (try with_reducible rfl))); try simp only [Act.put, pz1, pz2, pz3]
          refine wpAnyH_ready (rs := [13]) (by kernel_rfl) (by simp) ?_
          refine AllReadyH.cons (o := ⟨some 24, .box 94 (.tmp 23), 30, "ref.go:30", #[⟨12, .data⟩], none⟩) rfl (fun K hK => ?_) AllReadyH.nil
          refine wp_boxR _ rfl rfl ?_
          intro wN m BM hq hb
          have qm := Nat.le_trans HS hq
          have nm1 : m ≠ gN := Nat.ne_of_gt (Nat.lt_of_lt_of_le RN.lt hq)
          have nm2 : m ≠ gW := Nat.ne_of_gt (Nat.lt_of_lt_of_le RV.lt hq)
          have nm3 : m ≠ gD := Nat.ne_of_gt (Nat.lt_of_lt_of_le RD.lt hq)
          have nFm := FR.ne RF hq
          (try have hb := undrew hb)
          (try replace RN := RN.below hb)
          (try replace RV := RV.below hb)
          (try replace RD := RD.below hb)
          (try replace RF := FR.below_ RF hb)
          replace HSF := HSF.next hb
          replace G1 := G1.below hb G1.lt
          clear HY
          have HY := cells5 G1
          replace HB0 := btr HB0 HB0.size hb
          replace HS := Nat.le_trans HS hb.size
          refine hK.out _ _ ?_ (fun hNew => ?_)
          · (first | exact HY | assumption)
          clear hK K hHeld
          have hHeld := hNew
          clear hNew
          try simp only [Act.put, pz1, pz2, pz3]
          refine wpAnyH_take (i := 14) (oi := ⟨some 5, .assign (.tmp 24), 30, "ref.go:30", #[⟨13, .data⟩, ⟨2, .chain⟩, ⟨0, .phase⟩, ⟨1, .phase⟩, ⟨2, .phase⟩, ⟨3, .phase⟩, ⟨4, .phase⟩, ⟨5, .phase⟩, ⟨6, .phase⟩, ⟨7, .phase⟩, ⟨8, .phase⟩, ⟨9, .phase⟩, ⟨10, .phase⟩, ⟨11, .phase⟩, ⟨12, .phase⟩, ⟨13, .phase⟩], none⟩) (v := ?_) rfl (by kernel_rfl) (by kernel_rfl) (by kernel_rfl) (fun _ _ _ h => h) (Or.inl ⟨by rfl, ?_⟩) (by assumption) ?_; rotate_left; (· (intro wS hSw; (try dsimp only at hSw); go_simp; (try with_reducible rfl))); try simp only [Act.put, pz1, pz2, pz3]
          refine wpAnyH_done (by kernel_rfl) ?_ _
          refine NoPanic.normal ?_
          go_wp2_with fail
          go_meet
          exact ⟨m, gN, gW, gD, AF, cf, rfl, NewL.start BM RN RV RD RF ⟨nm1, nm2, nm3, (by first | exact ngNgW | exact ngWgN.symm), (by first | exact ngNgD | exact ngDgN.symm), (by first | exact ngWgD | exact ngDgW.symm)⟩ ⟨nFm, nFgN, nFgW, nFgD⟩ ⟨by omega, by omega, by omega, by omega⟩ G1 HB0 qF⟩
      · refine wp_makeI _ _ rfl a NB rfl rfl hNB (by omega) ?_
        intro wN gN RN hq hb
        have qgN := Nat.le_trans HS hq
        (try have ngWgN := Nat.ne_of_lt (Nat.lt_of_lt_of_le RV.lt hq))
        (try have ngDgN := Nat.ne_of_lt (Nat.lt_of_lt_of_le RD.lt hq))
        (try have nFgN := FR.ne RF hq)
        clear hq
        (try have hb := undrew hb)
        (try replace RV := RV.below hb)
        (try replace RD := RD.below hb)
        (try replace RF := FR.below_ RF hb)
        replace HSF := HSF.next hb
        replace G1 := G1.below hb G1.lt
        clear HY
        have HY := cells5 G1
        replace HB0 := btr HB0 HB0.size hb
        replace HS := Nat.le_trans HS hb.size
        refine hK.out _ _ ?_ (fun hNew => ?_)
        · (first | exact HY | assumption)
        clear hK K hHeld
        have hHeld := hNew
        clear hNew
        try simp only [Act.put, pz1, pz2, pz3]
        refine wpAnyH_ready (rs := [2, 11]) (by kernel_rfl) (by simp) ?_
        refine (AllReadyH.cons (o := ⟨some 13, .call { callee := .builtin .append, args := #[.const (.slice none 0 0), .tmp 12], argTypes := #[24, 24] }, 24, "ref.go:30", #[⟨1, .data⟩], none⟩) rfl (fun K hK => ?_) (AllReadyH.cons (o := ⟨some 22, .makeSlice 92 (.tmp 21) (.tmp 21), 92, "ref.go:30", #[⟨10, .data⟩, ⟨10, .data⟩], none⟩) rfl (fun K hK => ?_) AllReadyH.nil))
        · refine wp_appF0 _ rfl rfl fs A c0 rfl HSF hfl ?_
          intro wN AF cf RF hq hb
          have qF := FGe.le hq HS
          (try have nFgN := FNe.fresh hq RN.lt)
          (try have nFgW := FNe.fresh hq RV.lt)
          (try have nFgD := FNe.fresh hq RD.lt)
          clear hq
          (try have hb := undrew hb)
          (try replace RN := RN.below hb)
          (try replace RV := RV.below hb)
          (try replace RD := RD.below hb)
          replace HSF := HSF.next hb
          replace G1 := G1.below hb G1.lt
          clear HY
          have HY := cells5 G1
          replace HB0 := btr HB0 HB0.size hb
          replace HS := Nat.le_trans HS hb.size
          refine hK.out _ _ ?_ (fun hNew => ?_)
          · (first | exact HY | assumption)
          clear hK K hHeld
          have hHeld := hNew
          clear hNew
          try simp only [Act.put, pz1, pz2, pz3]
          refine wpAnyH_ready (rs := [11]) (by kernel_rfl) (by simp) ?_
          refine AllReadyH.cons (o := ⟨some 22, .makeSlice 92 (.tmp 21) (.tmp 21), 92, "ref.go:30", #[⟨10, .data⟩, ⟨10, .data⟩], none⟩) rfl (fun K hK => ?_) AllReadyH.nil
          refine wp_makeI _ _ rfl a NB rfl rfl hNB (by omega) ?_
          intro wN gD RD hq hb
          have qgD := Nat.le_trans HS hq
          (try have ngNgD := Nat.ne_of_lt (Nat.lt_of_lt_of_le RN.lt hq))
          (try have ngWgD := Nat.ne_of_lt (Nat.lt_of_lt_of_le RV.lt hq))
          (try have nFgD := FR.ne RF hq)
          clear hq
          (try have hb := undrew hb)
          (try replace RN := RN.below hb)
          (try replace RV := RV.below hb)
          (try replace RF := FR.below_ RF hb)
          replace HSF := HSF.next hb
          replace G1 := G1.below hb G1.lt
          clear HY
          have HY := cells5 G1
          replace HB0 := btr HB0 HB0.size hb
          replace HS := Nat.le_trans HS hb.size
          refine hK.out _ _ ?_ (fun hNew => ?_)
          · (first | exact HY | assumption)
          clear hK K hHeld
          have hHeld := hNew
          clear hNew
          try simp only [Act.put, pz1, pz2, pz3]
          refine wpAnyH_take (i := 12) (oi := ⟨some 23, .build 94 #[(0, .tmp 11), (1, .tmp 13), (3, .tmp 16), (4, .tmp 19), (5, .tmp 22)], 94, "ref.go:30", #[⟨0, .data⟩, ⟨2, .data⟩, ⟨5, .data⟩, ⟨8, .data⟩, ⟨11, .data⟩], none⟩) (v := ?_) rfl (by kernel_rfl) (by kernel_rfl) (by kernel_rfl) (fun _ _ _ h => h) (Or.inl ⟨by rfl, ?_⟩) (by assumption) ?_; rotate_left; (· (intro wS hSw; (try dsimp only at hSw); go_simp; (try with_reducible rfl))); try simp only [Act.put, pz1, pz2, pz3]
          refine wpAnyH_ready (rs := [13]) (by kernel_rfl) (by simp) ?_
          refine AllReadyH.cons (o := ⟨some 24, .box 94 (.tmp 23), 30, "ref.go:30", #[⟨12, .data⟩], none⟩) rfl (fun K hK => ?_) AllReadyH.nil
          refine wp_boxR _ rfl rfl ?_
          intro wN m BM hq hb
          have qm := Nat.le_trans HS hq
          have nm1 : m ≠ gN := Nat.ne_of_gt (Nat.lt_of_lt_of_le RN.lt hq)
          have nm2 : m ≠ gW := Nat.ne_of_gt (Nat.lt_of_lt_of_le RV.lt hq)
          have nm3 : m ≠ gD := Nat.ne_of_gt (Nat.lt_of_lt_of_le RD.lt hq)
          have nFm := FR.ne RF hq
          (try have hb := undrew hb)
          (try replace RN := RN.below hb)
          (try replace RV := RV.below hb)
          (try replace RD := RD.below hb)
          (try replace RF := FR.below_ RF hb)
          replace HSF := HSF.next hb
          replace G1 := G1.below hb G1.lt
          clear HY
          have HY := cells5 G1
          replace HB0 := btr HB0 HB0.size hb
          replace HS := Nat.le_trans HS hb.size
          refine hK.out _ _ ?_ (fun hNew => ?_)
          · (first | exact HY | assumption)
          clear hK K hHeld
          have hHeld := hNew
          clear hNew
          try simp only [Act.put, pz1, pz2, pz3]
          refine wpAnyH_take (i := 14) (oi := ⟨some 5, .assign (.tmp 24), 30, "ref.go:30", #[⟨13, .data⟩, ⟨2, .chain⟩, ⟨0, .phase⟩, ⟨1, .phase⟩, ⟨2, .phase⟩, ⟨3, .phase⟩, ⟨4, .phase⟩, ⟨5, .phase⟩, ⟨6, .phase⟩, ⟨7, .phase⟩, ⟨8, .phase⟩, ⟨9, .phase⟩, ⟨10, .phase⟩, ⟨11, .phase⟩, ⟨12, .phase⟩, ⟨13, .phase⟩], none⟩) (v := ?_) rfl (by kernel_rfl) (by kernel_rfl) (by kernel_rfl) (fun _ _ _ h => h) (Or.inl ⟨by rfl, ?_⟩) (by assumption) ?_; rotate_left; (· (intro wS hSw; (try dsimp only at hSw); go_simp; (try with_reducible rfl))); try simp only [Act.put, pz1, pz2, pz3]
          refine wpAnyH_done (by kernel_rfl) ?_ _
          refine NoPanic.normal ?_
          go_wp2_with fail
          go_meet
          exact ⟨m, gN, gW, gD, AF, cf, rfl, NewL.start BM RN RV RD RF ⟨nm1, nm2, nm3, (by first | exact ngNgW | exact ngWgN.symm), (by first | exact ngNgD | exact ngDgN.symm), (by first | exact ngWgD | exact ngDgW.symm)⟩ ⟨nFm, nFgN, nFgW, nFgD⟩ ⟨by omega, by omega, by omega, by omega⟩ G1 HB0 qF⟩
        · refine wp_makeI _ _ rfl a NB rfl rfl hNB (by omega) ?_
          intro wN gD RD hq hb
          have qgD := Nat.le_trans HS hq
          (try have ngNgD := Nat.ne_of_lt (Nat.lt_of_lt_of_le RN.lt hq))
          (try have ngWgD := Nat.ne_of_lt (Nat.lt_of_lt_of_le RV.lt hq))
          (try have nFgD := FR.ne RF hq)
          clear hq
          (try have hb := undrew hb)
          (try replace RN := RN.below hb)
          (try replace RV := RV.below hb)
          (try replace RF := FR.below_ RF hb)
          replace HSF := HSF.next hb
          replace G1 := G1.below hb G1.lt
          clear HY
          have HY := cells5 G1
          replace HB0 := btr HB0 HB0.size hb
          replace HS := Nat.le_trans HS hb.size
          refine hK.out _ _ ?_ (fun hNew => ?_)
          · (first | exact HY | assumption)
          clear hK K hHeld
          have hHeld := hNew
          clear hNew
          try simp only [Act.put, pz1, pz2, pz3]
          refine wpAnyH_ready (rs := [2]) (by kernel_rfl) (by simp) ?_
          refine AllReadyH.cons (o := ⟨some 13, .call { callee := .builtin .append, args := #[.const (.slice none 0 0), .tmp 12], argTypes := #[24, 24] }, 24, "ref.go:30", #[⟨1, .data⟩], none⟩) rfl (fun K hK => ?_) AllReadyH.nil
          refine wp_appF0 _ rfl rfl fs A c0 rfl HSF hfl ?_
          intro wN AF cf RF hq hb
          have qF := FGe.le hq HS
          (try have nFgN := FNe.fresh hq RN.lt)
          (try have nFgW := FNe.fresh hq RV.lt)
          (try have nFgD := FNe.fresh hq RD.lt)
          clear hq
          (try have hb := undrew hb)
          (try replace RN := RN.below hb)
          (try replace RV := RV.below hb)
          (try replace RD := RD.below hb)
          replace HSF := HSF.next hb
          replace G1 := G1.below hb G1.lt
          clear HY
          have HY := cells5 G1
          replace HB0 := btr HB0 HB0.size hb
          replace HS := Nat.le_trans HS hb.size
          refine hK.out _ _ ?_ (fun hNew => ?_)
          · (first | exact HY | assumption)
          clear hK K hHeld
          have hHeld := hNew
          clear hNew
          try simp only [Act.put, pz1, pz2, pz3]
          refine wpAnyH_take (i := 12) (oi := ⟨some 23, .build 94 #[(0, .tmp 11), (1, .tmp 13), (3, .tmp 16), (4, .tmp 19), (5, .tmp 22)], 94, "ref.go:30", #[⟨0, .data⟩, ⟨2, .data⟩, ⟨5, .data⟩, ⟨8, .data⟩, ⟨11, .data⟩], none⟩) (v := ?_) rfl (by kernel_rfl) (by kernel_rfl) (by kernel_rfl) (fun _ _ _ h => h) (Or.inl ⟨by rfl, ?_⟩) (by assumption) ?_; rotate_left; (· (intro wS hSw; (try dsimp only at hSw); go_simp; (try with_reducible rfl))); try simp only [Act.put, pz1, pz2, pz3]
          refine wpAnyH_ready (rs := [13]) (by kernel_rfl) (by simp) ?_
          refine AllReadyH.cons (o := ⟨some 24, .box 94 (.tmp 23), 30, "ref.go:30", #[⟨12, .data⟩], none⟩) rfl (fun K hK => ?_) AllReadyH.nil
          refine wp_boxR _ rfl rfl ?_
          intro wN m BM hq hb
          have qm := Nat.le_trans HS hq
          have nm1 : m ≠ gN := Nat.ne_of_gt (Nat.lt_of_lt_of_le RN.lt hq)
          have nm2 : m ≠ gW := Nat.ne_of_gt (Nat.lt_of_lt_of_le RV.lt hq)
          have nm3 : m ≠ gD := Nat.ne_of_gt (Nat.lt_of_lt_of_le RD.lt hq)
          have nFm := FR.ne RF hq
          (try have hb := undrew hb)
          (try replace RN := RN.below hb)
          (try replace RV := RV.below hb)
          (try replace RD := RD.below hb)
          (try replace RF := FR.below_ RF hb)
          replace HSF := HSF.next hb
          replace G1 := G1.below hb G1.lt
          clear HY
          have HY := cells5 G1
          replace HB0 := btr HB0 HB0.size hb
          replace HS := Nat.le_trans HS hb.size
          refine hK.out _ _ ?_ (fun hNew => ?_)
          · (first | exact HY | assumption)
          clear hK K hHeld
          have hHeld := hNew
          clear hNew
          try simp only [Act.put, pz1, pz2, pz3]
          refine wpAnyH_take (i := 14) (oi := ⟨some 5, .assign (.tmp 24), 30, "ref.go:30", #[⟨13, .data⟩, ⟨2, .chain⟩, ⟨0, .phase⟩, ⟨1, .phase⟩, ⟨2, .phase⟩, ⟨3, .phase⟩, ⟨4, .phase⟩, ⟨5, .phase⟩, ⟨6, .phase⟩, ⟨7, .phase⟩, ⟨8, .phase⟩, ⟨9, .phase⟩, ⟨10, .phase⟩, ⟨11, .phase⟩, ⟨12, .phase⟩, ⟨13, .phase⟩], none⟩) (v := ?_) rfl (by kernel_rfl) (by kernel_rfl) (by kernel_rfl) (fun _ _ _ h => h) (Or.inl ⟨by rfl, ?_⟩) (by assumption) ?_; rotate_left; (· (intro wS hSw; (try dsimp only at hSw); go_simp; (try with_reducible rfl))); try simp only [Act.put, pz1, pz2, pz3]
          refine wpAnyH_done (by kernel_rfl) ?_ _
          refine NoPanic.normal ?_
          go_wp2_with fail
          go_meet
          exact ⟨m, gN, gW, gD, AF, cf, rfl, NewL.start BM RN RV RD RF ⟨nm1, nm2, nm3, (by first | exact ngNgW | exact ngWgN.symm), (by first | exact ngNgD | exact ngDgN.symm), (by first | exact ngWgD | exact ngDgW.symm)⟩ ⟨nFm, nFgN, nFgW, nFgD⟩ ⟨by omega, by omega, by omega, by omega⟩ G1 HB0 qF⟩
      · refine wp_makeI _ _ rfl a NB rfl rfl hNB (by omega) ?_
        intro wN gD RD hq hb
        have qgD := Nat.le_trans HS hq
        (try have ngNgD := Nat.ne_of_lt (Nat.lt_of_lt_of_le RN.lt hq))
        (try have ngWgD := Nat.ne_of_lt (Nat.lt_of_lt_of_le RV.lt hq))
        (try have nFgD := FR.ne RF hq)
        clear hq
        (try have hb := undrew hb)
        (try replace RN := RN.below hb)
        (try replace RV := RV.below hb)
        (try replace RF := FR.below_ RF hb)
        replace HSF := HSF.next hb
        replace G1 := G1.below hb G1.lt
        clear HY
        have HY := cells5 G1
        replace HB0 := btr HB0 HB0.size hb
        replace HS := Nat.le_trans HS hb.size
        refine hK.out _ _ ?_ (fun hNew => ?_)
        · (first | exact HY | assumption)
        clear hK K hHeld
        have hHeld := hNew
        clear hNew
        try simp only [Act.put, pz1, pz2, pz3]
        refine wpAnyH_ready (rs := [2, 5]) (by kernel_rfl) (by simp) ?_
        refine (AllReadyH.cons (o := ⟨some 13, .call { callee := .builtin .append, args := #[.const (.slice none 0 0), .tmp 12], argTypes := #[24, 24] }, 24, "ref.go:30", #[⟨1, .data⟩], none⟩) rfl (fun K hK => ?_) (AllReadyH.cons (o := ⟨some 16, .makeSlice 92 (.tmp 15) (.tmp 15), 92, "ref.go:30", #[⟨4, .data⟩, ⟨4, .data⟩], none⟩) rfl (fun K hK => ?_) AllReadyH.nil))
        · refine wp_appF0 _ rfl rfl fs A c0 rfl HSF hfl ?_
          intro wN AF cf RF hq hb
          have qF := FGe.le hq HS
          (try have nFgN := FNe.fresh hq RN.lt)
          (try have nFgW := FNe.fresh hq RV.lt)
          (try have nFgD := FNe.fresh hq RD.lt)
          clear hq
          (try have hb := undrew hb)
          (try replace RN := RN.below hb)
          (try replace RV := RV.below hb)
          (try replace RD := RD.below hb)
          replace HSF := HSF.next hb
          replace G1 := G1.below hb G1.lt
          clear HY
          have HY := cells5 G1
          replace HB0 := btr HB0 HB0.size hb
          replace HS := Nat.le_trans HS hb.size
          refine hK.out _ _ ?_ (fun hNew => ?_)
          · (first | exact HY | assumption)
          clear hK K hHeld
          have hHeld := hNew
          clear hNew
          try simp only [Act.put, pz1, pz2, pz3]
          refine wpAnyH_ready (rs := [5]) (by kernel_rfl) (by simp) ?_
          refine AllReadyH.cons (o := ⟨some 16, .makeSlice 92 (.tmp 15) (.tmp 15), 92, "ref.go:30", #[⟨4, .data⟩, ⟨4, .data⟩], none⟩) rfl (fun K hK => ?_) AllReadyH.nil
          refine wp_makeI _ _ rfl a NB rfl rfl hNB (by omega) ?_
          intro wN gN RN hq hb
          have qgN := Nat.le_trans HS hq
          (try have ngWgN := Nat.ne_of_lt (Nat.lt_of_lt_of_le RV.lt hq))
          (try have ngDgN := Nat.ne_of_lt (Nat.lt_of_lt_of_le RD.lt hq))
          (try have nFgN := FR.ne RF hq)
          clear hq
          (try have hb := undrew hb)
          (try replace RV := RV.below hb)
          (try replace RD := RD.below hb)
          (try replace RF := FR.below_ RF hb)
          replace HSF := HSF.next hb
          replace G1 := G1.below hb G1.lt
          clear HY
          have HY := cells5 G1
          replace HB0 := btr HB0 HB0.size hb
          replace HS := Nat.le_trans HS hb.size
          refine hK.out _ _ ?_ (fun hNew => ?_)
          · (first | exact HY | assumption)
          clear hK K hHeld
          have hHeld := hNew
          clear hNew
          try simp only [Act.put, pz1, pz2, pz3]
          refine wpAnyH_take (i := 12) (oi := ⟨some 23, .build 94 #[(0, .tmp 11), (1, .tmp 13), (3, .tmp 16), (4, .tmp 19), (5, .tmp 22)], 94, "ref.go:30", #[⟨0, .data⟩, ⟨2, .data⟩, ⟨5, .data⟩, ⟨8, .data⟩, ⟨11, .data⟩], none⟩) (v := ?_) rfl (by kernel_rfl) (by kernel_rfl) (by kernel_rfl) (fun _ _ _ h => h) (Or.inl ⟨by rfl, ?_⟩) (by assumption) ?_; rotate_left; (· (intro wS hSw; (try dsimp only at hSw); go_simp; (try with_reducible rfl))); try simp only [Act.put, pz1, pz2, pz3]
          refine wpAnyH_ready (rs := [13]) (by kernel_rfl) (by simp) ?_
          refine AllReadyH.cons (o := ⟨some 24, .box 94 (.tmp 23), 30, "ref.go:30", #[⟨12, .data⟩], none⟩) rfl (fun K hK => ?_) AllReadyH.nil
          refine wp_boxR _ rfl rfl ?_
          intro wN m BM hq hb
          have qm := Nat.le_trans HS hq
          have nm1 : m ≠ gN := Nat.ne_of_gt (Nat.lt_of_lt_of_le RN.lt hq)
          have nm2 : m ≠ gW := Nat.ne_of_gt (Nat.lt_of_lt_of_le RV.lt hq)
          have nm3 : m ≠ gD := Nat.ne_of_gt (Nat.lt_of_lt_of_le RD.lt hq)
          have nFm := FR.ne RF hq
          (try have hb := undrew hb)
          (try replace RN := RN.below hb)
          (try replace RV := RV.below hb)
          (try replace RD := RD.below hb)
          (try replace RF := FR.below_ RF hb)
          replace HSF := HSF.next hb
          replace G1 := G1.below hb G1.lt
          clear HY
          have HY := cells5 G1
          replace HB0 := btr HB0 HB0.size hb
          replace HS := Nat.le_trans HS hb.size
          refine hK.out _ _ ?_ (fun hNew => ?_)
          · (first | exact HY | assumption)
          clear hK K hHeld
          have hHeld := hNew
          clear hNew
          try simp only [Act.put, pz1, pz2, pz3]
          refine wpAnyH_take (i := 14) (oi := ⟨some 5, .assign (.tmp 24), 30, "ref.go:30", #[⟨13, .data⟩, ⟨2, .chain⟩, ⟨0, .phase⟩, ⟨1, .phase⟩, ⟨2, .phase⟩, ⟨3, .phase⟩, ⟨4, .phase⟩, ⟨5, .phase⟩, ⟨6, .phase⟩, ⟨7, .phase⟩, ⟨8, .phase⟩, ⟨9, .phase⟩, ⟨10, .phase⟩, ⟨11, .phase⟩, ⟨12, .phase⟩, ⟨13, .phase⟩], none⟩) (v := ?_) rfl (by kernel_rfl) (by kernel_rfl) (by kernel_rfl) (fun _ _ _ h => h) (Or.inl ⟨by rfl, ?_⟩) (by assumption) ?_; rotate_left; (· (intro wS hSw; (try dsimp only at hSw); go_simp; (try with_reducible rfl))); try simp only [Act.put, pz1, pz2, pz3]
          refine wpAnyH_done (by kernel_rfl) ?_ _
          refine NoPanic.normal ?_
          go_wp2_with fail
          go_meet
          exact ⟨m, gN, gW, gD, AF, cf, rfl, NewL.start BM RN RV RD RF ⟨nm1, nm2, nm3, (by first | exact ngNgW | exact ngWgN.symm), (by first | exact ngNgD | exact ngDgN.symm), (by first | exact ngWgD | exact ngDgW.symm)⟩ ⟨nFm, nFgN, nFgW, nFgD⟩ ⟨by omega, by omega, by omega, by omega⟩ G1 HB0 qF⟩
        · refine wp_makeI _ _ rfl a NB rfl rfl hNB (by omega) ?_
          intro wN gN RN hq hb
          have qgN := Nat.le_trans HS hq
          (try have ngWgN := Nat.ne_of_lt (Nat.lt_of_lt_of_le RV.lt hq))
          (try have ngDgN := Nat.ne_of_lt (Nat.lt_of_lt_of_le RD.lt hq))
          (try have nFgN := FR.ne RF hq)
          clear hq
          (try have hb := undrew hb)
          (try replace RV := RV.below hb)
          (try replace RD := RD.below hb)
          (try replace RF := FR.below_ RF hb)
          replace HSF := HSF.next hb
          replace G1 := G1.below hb G1.lt
          clear HY
          have HY := cells5 G1
          replace HB0 := btr HB0 HB0.size hb
          replace HS := Nat.le_trans HS hb.size
          refine hK.out _ _ ?_ (fun hNew => ?_)
          · (first | exact HY | assumption)
          clear hK K hHeld
          have hHeld := hNew
          clear hNew
          try simp only [Act.put, pz1, pz2, pz3]
          refine wpAnyH_ready (rs := [2]) (by kernel_rfl) (by simp) ?_
          refine AllReadyH.cons (o := ⟨some 13, .call { callee := .builtin .append, args := #[.const (.slice none 0 0), .tmp 12], argTypes := #[24, 24] }, 24, "ref.go:30", #[⟨1, .data⟩], none⟩) rfl (fun K hK => ?_) AllReadyH.nil
          refine wp_appF0 _ rfl rfl fs A c0 rfl HSF hfl ?_
          intro wN AF cf RF hq hb
          have qF := FGe.le hq HS
          (try have nFgN := FNe.fresh hq RN.lt)
          (try have nFgW := FNe.fresh hq RV.lt)
          (try have nFgD := FNe.fresh hq RD.lt)
          clear hq
          (try have hb := undrew hb)
          (try replace RN := RN.below hb)
          (try replace RV := RV.below hb)
          (try replace RD := RD.below hb)
          replace HSF := HSF.next hb
          replace G1 := G1.below hb G1.lt
          clear HY
          have HY := cells5 G1
          replace HB0 := btr HB0 HB0.size hb
          replace HS := Nat.le_trans HS hb.size
          refine hK.out _ _ ?_ (fun hNew => ?_)
          · (first | exact HY | assumption)
          clear hK K hHeld
          have hHeld := hNew
          clear hNew
          try simp only [Act.put, pz1, pz2, pz3]
          refine wpAnyH_take (i := 12) (oi := ⟨some 23, .build 94 #[(0, .tmp 11), (1, .tmp 13), (3, .tmp 16), (4, .tmp 19), (5, .tmp 22)], 94, "ref.go:30", #[⟨0, .data⟩, ⟨2, .data⟩, ⟨5, .data⟩, ⟨8, .data⟩, ⟨11, .data⟩], none⟩) (v := ?_) rfl (by kernel_rfl) (by kernel_rfl) (by kernel_rfl) (fun _ _ _ h => h) (Or.inl ⟨by rfl, ?_⟩) (by assumption) ?_; rotate_left; (· (intro wS hSw; (try dsimp only at hSw); go_simp; (try with_reducible rfl))); try simp only [Act.put, pz1, pz2, pz3]
          refine wpAnyH_ready (rs := [13]) (by kernel_rfl) (by simp) ?_
          refine AllReadyH.cons (o := ⟨some 24, .box 94 (.tmp 23), 30, "ref.go:30", #[⟨12, .data⟩], none⟩) rfl (fun K hK => ?_) AllReadyH.nil
          refine wp_boxR _ rfl rfl ?_
          intro wN m BM hq hb
          have qm := Nat.le_trans HS hq
          have nm1 : m ≠ gN := Nat.ne_of_gt (Nat.lt_of_lt_of_le RN.lt hq)
          have nm2 : m ≠ gW := Nat.ne_of_gt (Nat.lt_of_lt_of_le RV.lt hq)
          have nm3 : m ≠ gD := Nat.ne_of_gt (Nat.lt_of_lt_of_le RD.lt hq)
          have nFm := FR.ne RF hq
          (try have hb := undrew hb)
          (try replace RN := RN.below hb)
          (try replace RV := RV.below hb)
          (try replace RD := RD.below hb)
          (try replace RF := FR.below_ RF hb)
          replace HSF := HSF.next hb
          replace G1 := G1.below hb G1.lt
          clear HY
          have HY := cells5 G1
          replace HB0 := btr HB0 HB0.size hb
          replace HS := Nat.le_trans HS hb.size
          refine hK.out _ _ ?_ (fun hNew => ?_)
          · (first | exact HY | assumption)
          clear hK K hHeld
          have hHeld := hNew
          clear hNew
          try simp only [Act.put, pz1, pz2, pz3]
          refine wpAnyH_take (i := 14) (oi := ⟨some 5, .assign (.tmp 24), 30, "ref.go:30", #[⟨13, .data⟩, ⟨2, .chain⟩, ⟨0, .phase⟩, ⟨1, .phase⟩, ⟨2, .phase⟩, ⟨3, .phase⟩, ⟨4, .phase⟩, ⟨5, .phase⟩, ⟨6, .phase⟩, ⟨7, .phase⟩, ⟨8, .phase⟩, ⟨9, .phase⟩, ⟨10, .phase⟩, ⟨11, .phase⟩, ⟨12, .phase⟩, ⟨13, .phase⟩], none⟩) (v := ?_) rfl (by kernel_rfl) (by kernel_rfl) (by kernel_rfl) (fun _ _ _ h => h) (Or.inl ⟨by rfl, ?_⟩) (by assumption) ?_; rotate_left; (· (intro wS hSw; (try dsimp only at hSw); go_simp; (try with_reducible rfl))); try simp only [Act.put, pz1, pz2, pz3]
          refine wpAnyH_done (by kernel_rfl) ?_ _
          refine NoPanic.normal ?_
          go_wp2_with fail
          go_meet
          exact ⟨m, gN, gW, gD, AF, cf, rfl, NewL.start BM RN RV RD RF ⟨nm1, nm2, nm3, (by first | exact ngNgW | exact ngWgN.symm), (by first | exact ngNgD | exact ngDgN.symm), (by first | exact ngWgD | exact ngDgW.symm)⟩ ⟨nFm, nFgN, nFgW, nFgD⟩ ⟨by omega, by omega, by omega, by omega⟩ G1 HB0 qF⟩
    · refine wp_makeI _ _ rfl a NB rfl rfl hNB (by omega) ?_
      intro wN gD RD hq hb
      have qgD := Nat.le_trans HS hq
      (try have ngNgD := Nat.ne_of_lt (Nat.lt_of_lt_of_le RN.lt hq))
      (try have ngWgD := Nat.ne_of_lt (Nat.lt_of_lt_of_le RV.lt hq))
      (try have nFgD := FR.ne RF hq)
      clear hq
      (try have hb := undrew hb)
      (try replace RN := RN.below hb)
      (try replace RV := RV.below hb)
      (try replace RF := FR.below_ RF hb)
      replace HSF := HSF.next hb
      replace G1 := G1.below hb G1.lt
      clear HY
      have HY := cells5 G1
      replace HB0 := btr HB0 HB0.size hb
      replace HS := Nat.le_trans HS hb.size
      refine hK.out _ _ ?_ (fun hNew => ?_)
      · (first | exact HY | assumption)
      clear hK K hHeld
      have hHeld := hNew
      clear hNew
      try simp only [Act.put, pz1, pz2, pz3]
      refine wpAnyH_ready (rs := [2, 5, 8]) (by kernel_rfl) (by simp) ?_
      refine (AllReadyH.cons (o := ⟨some 13, .call { callee := .builtin .append, args := #[.const (.slice none 0 0), .tmp 12], argTypes := #[24, 24] }, 24, "ref.go:30", #[⟨1, .data⟩], none⟩) rfl (fun K hK => ?_) (AllReadyH.cons (o := ⟨some 16, .makeSlice 92 (.tmp 15) (.tmp 15), 92, "ref.go:30", #[⟨4, .data⟩, ⟨4, .data⟩], none⟩) rfl (fun K hK => ?_) (AllReadyH.cons (o := ⟨some 19, .makeSlice 92 (.tmp 18) (.tmp 18), 92, "ref.go:30", #[⟨7, .data⟩, ⟨7, .data⟩], none⟩) rfl (fun K hK => ?_) AllReadyH.nil)))
      · refine wp_appF0 _ rfl rfl fs A c0 rfl HSF hfl ?_
        intro wN AF cf RF hq hb
        have qF := FGe.le hq HS
        (try have nFgN := FNe.fresh hq RN.lt)
        (try have nFgW := FNe.fresh hq RV.lt)
        (try have nFgD := FNe.fresh hq RD.lt)
        clear hq
        (try have hb := undrew hb)
        (try replace RN := RN.below hb)
        (try replace RV := RV.below hb)
        (try replace RD := RD.below hb)
        replace HSF := HSF.next hb
        replace G1 := G1.below hb G1.lt
        clear HY
        have HY := cells5 G1
        replace HB0 := btr HB0 HB0.size hb
        replace HS := Nat.le_trans HS hb.size
        refine hK.out _ _ ?_ (fun hNew => ?_)
        · (first | exact HY | assumption)
        clear hK K hHeld
        have hHeld := hNew
        clear hNew
        try simp only [Act.put, pz1, pz2, pz3]
        refine wpAnyH_ready (rs := [5, 8]) (by kernel_rfl) (by simp) ?_
        refine (AllReadyH.cons (o := ⟨some 16, .makeSlice 92 (.tmp 15) (.tmp 15), 92, "ref.go:30", #[⟨4, .data⟩, ⟨4, .data⟩], none⟩) rfl (fun K hK => ?_) (AllReadyH.cons (o := ⟨some 19, .makeSlice 92 (.tmp 18) (.tmp 18), 92, "ref.go:30", #[⟨7, .data⟩, ⟨7, .data⟩], none⟩) rfl (fun K hK => ?_) AllReadyH.nil))
        · refine wp_makeI _ _ rfl a NB rfl rfl hNB (by omega) ?_
          intro wN gN RN hq hb
          have qgN := Nat.le_trans HS hq
          (try have ngWgN := Nat.ne_of_lt (Nat.lt_of_lt_of_le RV.lt hq))
          (try have ngDgN := Nat.ne_of_lt (Nat.lt_of_lt_of_le RD.lt hq))
          (try have nFgN := FR.ne RF hq)
          clear hq
          (try have hb := undrew hb)
          (try replace RV := RV.below hb)
          (try replace RD := RD.below hb)
          (try replace RF := FR.below_ RF hb)
          replace HSF := HSF.next hb
          replace G1 := G1.below hb G1.lt
          clear HY
          have HY := cells5 G1
          replace HB0 := btr HB0 HB0.size hb
          replace HS := Nat.le_trans HS hb.size
          refine hK.out _ _ ?_ (fun hNew => ?_)
          · (first | exact HY | assumption)
          clear hK K hHeld
          have hHeld := hNew
          clear hNew
          try simp only [Act.put, pz1, pz2, pz3]
          refine wpAnyH_ready (rs := [8]) (by kernel_rfl) (by simp) ?_
          refine AllReadyH.cons (o := ⟨some 19, .makeSlice 92 (.tmp 18) (.tmp 18), 92, "ref.go:30", #[⟨7, .data⟩, ⟨7, .data⟩], none⟩) rfl (fun K hK => ?_) AllReadyH.nil
          refine wp_makeI _ _ rfl a NB rfl rfl hNB (by omega) ?_
          intro wN gW RV hq hb
          have qgW := Nat.le_trans HS hq
          (try have ngNgW := Nat.ne_of_lt (Nat.lt_of_lt_of_le RN.lt hq))
          (try have ngDgW := Nat.ne_of_lt (Nat.lt_of_lt_of_le RD.lt hq))
          (try have nFgW := FR.ne RF hq)
          clear hq
          (try have hb := undrew hb)
          (try replace RN := RN.below hb)
          (try replace RD := RD.below hb)
          (try replace RF := FR.below_ RF hb)
          replace HSF := HSF.next hb
          replace G1 := G1.below hb G1.lt
          clear HY
          have HY := cells5 G1
          replace HB0 := btr HB0 HB0.size hb
          replace HS := Nat.le_trans HS hb.size
          refine hK.out _ _ ?_ (fun hNew => ?_)
          · (first | exact HY | assumption)
          clear hK K hHeld
          have hHeld := hNew
          clear hNew
          try simp only [Act.put, pz1, pz2, pz3]
          refine wpAnyH_take (i := 12) (oi := ⟨some 23, .build 94 #[(0, .tmp 11), (1, .tmp 13), (3, .tmp 16), (4, .tmp 19), (5, .tmp 22)], 94, "ref.go:30", #[⟨0, .data⟩, ⟨2, .data⟩, ⟨5, .data⟩, ⟨8, .data⟩, ⟨11, .data⟩], none⟩) (v := ?_) rfl (by kernel_rfl) (by kernel_rfl) (by kernel_rfl) (fun _ _ _ h => h) (Or.inl ⟨by rfl, ?_⟩) (by assumption) ?_; rotate_left; (· (intro wS hSw; (try dsimp only at hSw); go_simp; (try with_reducible rfl))); try simp only [Act.put, pz1, pz2, pz3]
          refine wpAnyH_ready (rs := [13]) (by kernel_rfl) (by simp) ?_
          refine AllReadyH.cons (o := ⟨some 24, .box 94 (.tmp 23), 30, "ref.go:30", #[⟨12, .data⟩], none⟩) rfl (fun K hK => ?_) AllReadyH.nil
          refine wp_boxR _ rfl rfl ?_
          intro wN m BM hq hb
          have qm := Nat.le_trans HS hq
          have nm1 : m ≠ gN := Nat.ne_of_gt (Nat.lt_of_lt_of_le RN.lt hq)
          have nm2 : m ≠ gW := Nat.ne_of_gt (Nat.lt_of_lt_of_le RV.lt hq)
          have nm3 : m ≠ gD := Nat.ne_of_gt (Nat.lt_of_lt_of_le RD.lt hq)
          have nFm := FR.ne RF hq
          (try have hb := undrew hb)
          (try replace RN := RN.below hb)
          (try replace RV := RV.below hb)
          (try replace RD := RD.below hb)
          (try replace RF := FR.below_ RF hb)
          replace HSF := HSF.next hb
          replace G1 := G1.below hb G1.lt
          clear HY
          have HY := cells5 G1
          replace HB0 := btr HB0 HB0.size hb
          replace HS := Nat.le_trans HS hb.size
          refine hK.out _ _ ?_ (fun hNew => ?_)
          · (first | exact HY | assumption)
          clear hK K hHeld
          have hHeld := hNew
          clear hNew
          try simp only [Act.put, pz1, pz2, pz3]
          refine wpAnyH_take (i := 14) (oi := ⟨some 5, .assign (.tmp 24), 30, "ref.go:30", #[⟨13, .data⟩, ⟨2, .chain⟩, ⟨0, .phase⟩, ⟨1, .phase⟩, ⟨2, .phase⟩, ⟨3, .phase⟩, ⟨4, .phase⟩, ⟨5, .phase⟩, ⟨6, .phase⟩, ⟨7, .phase⟩, ⟨8, .phase⟩, ⟨9, .phase⟩, ⟨10, .phase⟩, ⟨11, .phase⟩, ⟨12, .phase⟩, ⟨13, .phase⟩], none⟩) (v := ?_) rfl (by kernel_rfl) (by kernel_rfl) (by kernel_rfl) (fun _ _ _ h => h) (Or.inl ⟨by rfl, ?_⟩) (by assumption) ?_; rotate_left; (· (intro wS hSw; (try dsimp only at hSw); go_simp; (try with_reducible rfl))); try simp only [Act.put, pz1, pz2, pz3]
          refine wpAnyH_done (by kernel_rfl) ?_ _
          refine NoPanic.normal ?_
          go_wp2_with fail
          go_meet
          exact ⟨m, gN, gW, gD, AF, cf, rfl, NewL.start BM RN RV RD RF ⟨nm1, nm2, nm3, (by first | exact ngNgW | exact ngWgN.symm), (by first | exact ngNgD | exact ngDgN.symm), (by first | exact ngWgD | exact ngDgW.symm)⟩ ⟨nFm, nFgN, nFgW, nFgD⟩ ⟨by omega, by omega, by omega, by omega⟩ G1 HB0 qF⟩
        · refine wp_makeI _ _ rfl a NB rfl rfl hNB (by omega) ?_
          intro wN gW RV hq hb
          have qgW := Nat.le_trans HS hq
          (try have ngNgW := Nat.ne_of_lt (Nat.lt_of_lt_of_le RN.lt hq))
          (try have ngDgW := Nat.ne_of_lt (Nat.lt_of_lt_of_le RD.lt hq))
          (try have nFgW := FR.ne RF hq)
          clear hq
          (try have hb := undrew hb)
          (try replace RN := RN.below hb)
          (try replace RD := RD.below hb)
          (try replace RF := FR.below_ RF hb)
          replace HSF := HSF.next hb
          replace G1 := G1.below hb G1.lt
          clear HY
          have HY := cells5 G1
          replace HB0 := btr HB0 HB0.size hb
          replace HS := Nat.le_trans HS hb.size
          refine hK.out _ _ ?_ (fun hNew => ?_)
          · (first | exact HY | assumption)
          clear hK K hHeld
          have hHeld := hNew
          clear hNew
          try simp only [Act.put, pz1, pz2, pz3]
          refine wpAnyH_ready (rs := [5]) (by kernel_rfl) (by simp) ?_
          refine AllReadyH.cons (o := ⟨some 16, .makeSlice 92 (.tmp 15) (.tmp 15), 92, "ref.go:30", #[⟨4, .data⟩, ⟨4, .data⟩], none⟩) rfl (fun K hK => ?_) AllReadyH.nil
          refine wp_makeI _ _ rfl a NB rfl rfl hNB (by omega) ?_
          intro wN gN RN hq hb
          have qgN := Nat.le_trans HS hq
          (try have ngWgN := Nat.ne_of_lt (Nat.lt_of_lt_of_le RV.lt hq))
          (try have ngDgN := Nat.ne_of_lt (Nat.lt_of_lt_of_le RD.lt hq))
          (try have nFgN := FR.ne RF hq)
          clear hq
          (try have hb := undrew hb)
          (try replace RV := RV.below hb)
          (try replace RD := RD.below hb)
          (try replace RF := FR.below_ RF hb)
          replace HSF := HSF.next hb
          replace G1 := G1.below hb G1.lt
          clear HY
          have HY := cells5 G1
          replace HB0 := btr HB0 HB0.size hb
          replace HS := Nat.le_trans HS hb.size
          refine hK.out _ _ ?_ (fun hNew => ?_)
          · (first | exact HY | assumption)
          clear hK K hHeld
          have hHeld := hNew
          clear hNew
          try simp only [Act.put, pz1, pz2, pz3]
          refine wpAnyH_take (i := 12) (oi := ⟨some 23, .build 94 #[(0, .tmp 11), (1, .tmp 13), (3, .tmp 16), (4, .tmp 19), (5, .tmp 22)], 94, "ref.go:30", #[⟨0, .data⟩, ⟨2, .data⟩, ⟨5, .data⟩, ⟨8, .data⟩, ⟨11, .data⟩], none⟩) (v := ?_) rfl (by kernel_rfl) (by kernel_rfl) (by kernel_rfl) (fun _ _ _ h => h) (Or.inl ⟨by rfl, ?_⟩) (by assumption) ?_; rotate_left; (· (intro wS hSw; (try dsimp only at hSw); go_simp; (try with_reducible rfl))); try simp only [Act.put, pz1, pz2, pz3]
          refine wpAnyH_ready (rs := [13]) (by kernel_rfl) (by simp) ?_
          refine AllReadyH.cons (o := ⟨some 24, .box 94 (.tmp 23), 30, "ref.go:30", #[⟨12, .data⟩], none⟩) rfl (fun K hK => ?_) AllReadyH.nil
          refine wp_boxR _ rfl rfl ?_
          intro wN m BM hq hb
          have qm := Nat.le_trans HS hq
          have nm1 : m ≠ gN := Nat.ne_of_gt (Nat.lt_of_lt_of_le RN.lt hq)
          have nm2 : m ≠ gW := Nat.ne_of_gt (Nat.lt_of_lt_of_le RV.lt hq)
          have nm3 : m ≠ gD := Nat.ne_of_gt (Nat.lt_of_lt_of_le RD.lt hq)
          have nFm := FR.ne RF hq
          (try have hb := undrew hb)
          (try replace RN := RN.below hb)
          (try replace RV := RV.below hb)
          (try replace RD := RD.below hb)
          (try replace RF := FR.below_ RF hb)
          replace HSF := HSF.next hb
          replace G1 := G1.below hb G1.lt
          clear HY
          have HY := cells5 G1
          replace HB0 := btr HB0 HB0.size hb
          replace HS := Nat.le_trans HS hb.size
          refine hK.out _ _ ?_ (fun hNew => ?_)
          · (first | exact HY | assumption)
          clear hK K hHeld
          have hHeld := hNew
          clear hNew
          try simp only [Act.put, pz1, pz2, pz3]
          refine wpAnyH_take (i := 14) (oi := ⟨some 5, .assign (.tmp 24), 30, "ref.go:30", #[⟨13, .data⟩, ⟨2, .chain⟩, ⟨0, .phase⟩, ⟨1, .phase⟩, ⟨2, .phase⟩, ⟨3, .phase⟩, ⟨4, .phase⟩, ⟨5, .phase⟩, ⟨6, .phase⟩, ⟨7, .phase⟩, ⟨8, .phase⟩, ⟨9, .phase⟩, ⟨10, .phase⟩, ⟨11, .phase⟩, ⟨12, .phase⟩, ⟨13, .phase⟩], none⟩) (v := ?_) rfl (by kernel_rfl) (by kernel_rfl) (by kernel_rfl) (fun _ _ _ h => h) (Or.inl ⟨by rfl, ?_⟩) (by assumption) ?_; rotate_left; (· (intro wS hSw; (try dsimp only at hSw); go_simp; (try with_reducible rfl))); try simp only [Act.put, pz1, pz2, pz3]
          refine wpAnyH_done (by kernel_rfl) ?_ _
          refine NoPanic.normal ?_
          go_wp2_with fail
          go_meet
          exact ⟨m, gN, gW, gD, AF, cf, rfl, NewL.start BM RN RV RD RF ⟨nm1, nm2, nm3, (by first | exact ngNgW | exact ngWgN.symm), (by first | exact ngNgD | exact ngDgN.symm), (by first | exact ngWgD | exact ngDgW.symm)⟩ ⟨nFm, nFgN, nFgW, nFgD⟩ ⟨by omega, by omega, by omega, by omega⟩ G1 HB0 qF⟩
      · refine wp_makeI _ _ rfl a NB rfl rfl hNB (by omega) ?_
        intro wN gN RN hq hb
        have qgN := Nat.le_trans HS hq
        (try have ngWgN := Nat.ne_of_lt (Nat.lt_of_lt_of_le RV.lt hq))
        (try have ngDgN := Nat.ne_of_lt (Nat.lt_of_lt_of_le RD.lt hq))
        (try have nFgN := FR.ne RF hq)
        clear hq
        (try have hb := undrew hb)
        (try replace RV := RV.below hb)
        (try replace RD := RD.below hb)
        (try replace RF := FR.below_ RF hb)
        replace HSF := HSF.next hb
        replace G1 := G1.below hb G1.lt
        clear HY
        have HY := cells5 G1
        replace HB0 := btr HB0 HB0.size hb
        replace HS := Nat.le_trans HS hb.size
        refine hK.out _ _ ?_ (fun hNew => ?_)
        · (first | exact HY | assumption)
        clear hK K hHeld
        have hHeld := hNew
        clear hNew
        try simp only [Act.put, pz1, pz2, pz3]
        refine wpAnyH_ready (rs := [2, 8]) (by kernel_rfl) (by simp) ?_
        refine (AllReadyH.cons (o := ⟨some 13, .call { callee := .builtin .append, args := #[.const (.slice none 0 0), .tmp 12], argTypes := #[24, 24] }, 24, "ref.go:30", #[⟨1, .data⟩], none⟩) rfl (fun K hK => ?_) (AllReadyH.cons (o := ⟨some 19, .makeSlice 92 (.tmp 18) (.tmp 18), 92, "ref.go:30", #[⟨7, .data⟩, ⟨7, .data⟩], none⟩) rfl (fun K hK => ?_) AllReadyH.nil))
        · refine wp_appF0 _ rfl rfl fs A c0 rfl HSF hfl ?_
          intro wN AF cf RF hq hb
          have qF := FGe.le hq HS
          (try have nFgN := FNe.fresh hq RN.lt)
          (try have nFgW := FNe.fresh hq RV.lt)
          (try have nFgD := FNe.fresh hq RD.lt)
          clear hq
          (try have hb := undrew hb)
          (try replace RN := RN.below hb)
          (try replace RV := RV.below hb)
          (try replace RD := RD.below hb)
          replace HSF := HSF.next hb
          replace G1 := G1.below hb G1.lt
          clear HY
          have HY := cells5 G1
          replace HB0 := btr HB0 HB0.size hb
          replace HS := Nat.le_trans HS hb.size
          refine hK.out _ _ ?_ (fun hNew => ?_)
          · (first | exact HY | assumption)
          clear hK K hHeld
          have hHeld := hNew
          clear hNew
          try simp only [Act.put, pz1, pz2, pz3]
          refine wpAnyH_ready (rs := [8]) (by kernel_rfl) (by simp) ?_
          refine AllReadyH.cons (o := ⟨some 19, .makeSlice 92 (.tmp 18) (.tmp 18), 92, "ref.go:30", #[⟨7, .data⟩, ⟨7, .data⟩], none⟩) rfl (fun K hK => ?_) AllReadyH.nil
          refine wp_makeI _ _ rfl a NB rfl rfl hNB (by omega) ?_
          intro wN gW RV hq hb
          have qgW := Nat.le_trans HS hq
          (try have ngNgW := Nat.ne_of_lt (Nat.lt_of_lt_of_le RN.lt hq))
          (try have ngDgW := Nat.ne_of_lt (Nat.lt_of_lt_of_le RD.lt hq))
          (try have nFgW := FR.ne RF hq)
          clear hq
          (try have hb := undrew hb)
          (try replace RN := RN.below hb)
          (try replace RD := RD.below hb)
          (try replace RF := FR.below_ RF hb)
          replace HSF := HSF.next hb
          replace G1 := G1.below hb G1.lt
          clear HY
          have HY := cells5 G1
          replace HB0 := btr HB0 HB0.size hb
          replace HS := Nat.le_trans HS hb.size
          refine hK.out _ _ ?_ (fun hNew => ?_)
          · (first | exact HY | assumption)
          clear hK K hHeld
          have hHeld := hNew
          clear hNew
          try simp only [Act.put, pz1, pz2, pz3]
          refine wpAnyH_take (i := 12) (oi := ⟨some 23, .build 94 #[(0, .tmp 11), (1, .tmp 13), (3, .tmp 16), (4, .tmp 19), (5, .tmp 22)], 94, "ref.go:30", #[⟨0, .data⟩, ⟨2, .data⟩, ⟨5, .data⟩, ⟨8, .data⟩, ⟨11, .data⟩], none⟩) (v := ?_) rfl (by kernel_rfl) (by kernel_rfl) (by kernel_rfl) (fun _ _ _ h => h) (Or.inl ⟨by rfl, ?_⟩) (by assumption) ?_; rotate_left; (· (intro wS hSw; (try dsimp only at hSw); go_simp; (try with_reducible rfl))); try simp only [Act.put, pz1, pz2, pz3]
          refine wpAnyH_ready (rs := [13]) (by kernel_rfl) (by simp) ?_
          refine AllReadyH.cons (o := ⟨some 24, .box 94 (.tmp 23), 30, "ref.go:30", #[⟨12, .data⟩], none⟩) rfl (fun K hK => ?_) AllReadyH.nil
          refine wp_boxR _ rfl rfl ?_
          intro wN m BM hq hb
          have qm := Nat.le_trans HS hq
          have nm1 : m ≠ gN := Nat.ne_of_gt (Nat.lt_of_lt_of_le RN.lt hq)
          have nm2 : m ≠ gW := Nat.ne_of_gt (Nat.lt_of_lt_of_le RV.lt hq)
          have nm3 : m ≠ gD := Nat.ne_of_gt (Nat.lt_of_lt_of_le RD.lt hq)
          have nFm := FR.ne RF hq
          (try have hb := undrew hb)
          (try replace RN := RN.below hb)
          (try replace RV := RV.below hb)
          (try replace RD := RD.below hb)
          (try replace RF := FR.below_ RF hb)
          replace HSF := HSF.next hb
          replace G1 := G1.below hb G1.lt
          clear HY
          have HY := cells5 G1
          replace HB0 := btr HB0 HB0.size hb
          replace HS := Nat.le_trans HS hb.size
          refine hK.out _ _ ?_ (fun hNew => ?_)
          · (first | exact HY | assumption)
          clear hK K hHeld
          have hHeld := hNew
          clear hNew
          try simp only [Act.put, pz1, pz2, pz3]
          refine wpAnyH_take (i := 14) (oi := ⟨some 5, .assign (.tmp 24), 30, "ref.go:30", #[⟨13, .data⟩, ⟨2, .chain⟩, ⟨0, .phase⟩, ⟨1, .phase⟩, ⟨2, .phase⟩, ⟨3, .phase⟩, ⟨4, .phase⟩, ⟨5, .phase⟩, ⟨6, .phase⟩, ⟨7, .phase⟩, ⟨8, .phase⟩, ⟨9, .phase⟩, ⟨10, .phase⟩, ⟨11, .phase⟩, ⟨12, .phase⟩, ⟨13, .phase⟩], none⟩) (v := ?_) rfl (by kernel_rfl) (by kernel_rfl) (by kernel_rfl) (fun _ _ _ h => h) (Or.inl ⟨by rfl, ?_⟩) (by assumption) ?_; rotate_left; (· (intro wS hSw; (try dsimp only at hSw); go_simp; (try with_reducible rfl))); try simp only [Act.put, pz1, pz2, pz3]
          refine wpAnyH_done (by kernel_rfl) ?_ _
          refine NoPanic.normal ?_
          go_wp2_with fail
          go_meet
          exact ⟨m, gN, gW, gD, AF, cf, rfl, NewL.start BM RN RV RD RF ⟨nm1, nm2, nm3, (by first | exact ngNgW | exact ngWgN.symm), (by first | exact ngNgD | exact ngDgN.symm), (by first | exact ngWgD | exact ngDgW.symm)⟩ ⟨nFm, nFgN, nFgW, nFgD⟩ ⟨by omega, by omega, by omega, by omega⟩ G1 HB0 qF⟩
        · refine wp_makeI _ _ rfl a NB rfl rfl hNB (by omega) ?_
          intro wN gW RV hq hb
          have qgW := Nat.le_trans HS hq
          (try have ngNgW := Nat.ne_of_lt (Nat.lt_of_lt_of_le RN.lt hq))
          (try have ngDgW := Nat.ne_of_lt (Nat.lt_of_lt_of_le RD.lt hq))
          (try have nFgW := FR.ne RF hq)
          clear hq
          (try have hb := undrew hb)
          (try replace RN := RN.below hb)
          (try replace RD := RD.below hb)
          (try replace RF := FR.below_ RF hb)
          replace HSF := HSF.next hb
          replace G1 := G1.below hb G1.lt
          clear HY
          have HY := cells5 G1
          replace HB0 := btr HB0 HB0.size hb
          replace HS := Nat.le_trans HS hb.size
          refine hK.out _ _ ?_ (fun hNew => ?_)
          · (first | exact HY | assumption)
          clear hK K hHeld
          have hHeld := hNew
          clear hNew
          try simp only [Act.put, pz1, pz2, pz3]
          refine wpAnyH_ready (rs := [2]) (by kernel_rfl) (by simp) ?_
          refine AllReadyH.cons (o := ⟨some 13, .call { callee := .builtin .append, args := #[.const (.slice none 0 0), .tmp 12], argTypes := #[24, 24] }, 24, "ref.go:30", #[⟨1, .data⟩], none⟩) rfl (fun K hK => ?_) AllReadyH.nil
          refine wp_appF0 _ rfl rfl fs A c0 rfl HSF hfl ?_
          intro wN AF cf RF hq hb
          have qF := FGe.le hq HS
          (try have nFgN := FNe.fresh hq RN.lt)
          (try have nFgW := FNe.fresh hq RV.lt)
          (try have nFgD := FNe.fresh hq RD.lt)
          clear hq
          (try have hb := undrew hb)
          (try replace RN := RN.below hb)
          (try replace RV := RV.below hb)
          (try replace RD := RD.below hb)
          replace HSF := HSF.next hb
          replace G1 := G1.below hb G1.lt
          clear HY
          have HY := cells5 G1
          replace HB0 := btr HB0 HB0.size hb
          replace HS := Nat.le_trans HS hb.size
          refine hK.out _ _ ?_ (fun hNew => ?_)
          · (first | exact HY | assumption)
          clear hK K hHeld
          have hHeld := hNew
          clear hNew
          try simp only [Act.put, pz1, pz2, pz3]
          refine wpAnyH_take (i := 12) (oi := ⟨some 23, .build 94 #[(0, .tmp 11), (1, .tmp 13), (3, .tmp 16), (4, .tmp 19), (5, .tmp 22)], 94, "ref.go:30", #[⟨0, .data⟩, ⟨2, .data⟩, ⟨5, .data⟩, ⟨8, .data⟩, ⟨11, .data⟩], none⟩) (v := ?_) rfl (by kernel_rfl) (by kernel_rfl) (by kernel_rfl) (fun _ _ _ h => h) (Or.inl ⟨by rfl, ?_⟩) (by assumption) ?_; rotate_left; (· (intro wS hSw; (try dsimp only at hSw); go_simp; (try with_reducible rfl))); try simp only [Act.put, pz1, pz2, pz3]
          refine wpAnyH_ready (rs := [13]) (by kernel_rfl) (by simp) ?_
          refine AllReadyH.cons (o := ⟨some 24, .box 94 (.tmp 23), 30, "ref.go:30", #[⟨12, .data⟩], none⟩) rfl (fun K hK => ?_) AllReadyH.nil
          refine wp_boxR _ rfl rfl ?_
          intro wN m BM hq hb
          have qm := Nat.le_trans HS hq
          have nm1 : m ≠ gN := Nat.ne_of_gt (Nat.lt_of_lt_of_le RN.lt hq)
          have nm2 : m ≠ gW := Nat.ne_of_gt (Nat.lt_of_lt_of_le RV.lt hq)
          have nm3 : m ≠ gD := Nat.ne_of_gt (Nat.lt_of_lt_of_le RD.lt hq)
          have nFm := FR.ne RF hq
          (try have hb := undrew hb)
          (try replace RN := RN.below hb)
          (try replace RV := RV.below hb)
          (try replace RD := RD.below hb)
          (try replace RF := FR.below_ RF hb)
          replace HSF := HSF.next hb
          replace G1 := G1.below hb G1.lt
          clear HY
          have HY := cells5 G1
          replace HB0 := btr HB0 HB0.size hb
          replace HS := Nat.le_trans HS hb.size
          refine hK.out _ _ ?_ (fun hNew => ?_)
          · (first | exact HY | assumption)
          clear hK K hHeld
          have hHeld := hNew
          clear hNew
          try simp only [Act.put, pz1, pz2, pz3]
          refine wpAnyH_take (i := 14) (oi := ⟨some 5, .assign (.tmp 24), 30, "ref.go:30", #[⟨13, .data⟩, ⟨2, .chain⟩, ⟨0, .phase⟩, ⟨1, .phase⟩, ⟨2, .phase⟩, ⟨3, .phase⟩, ⟨4, .phase⟩, ⟨5, .phase⟩, ⟨6, .phase⟩, ⟨7, .phase⟩, ⟨8, .phase⟩, ⟨9, .phase⟩, ⟨10, .phase⟩, ⟨11, .phase⟩, ⟨12, .phase⟩, ⟨13, .phase⟩], none⟩) (v := ?_) rfl (by kernel_rfl) (by kernel_rfl) (by kernel_rfl) (fun _ _ _ h => h) (Or.inl ⟨by rfl, ?_⟩) (by assumption) ?_; rotate_left; (· (intro wS hSw; (try dsimp only at hSw); go_simp; (try with_reducible rfl))); try simp only [Act.put, pz1, pz2, pz3]
          refine wpAnyH_done (by kernel_rfl) ?_ _
          refine NoPanic.normal ?_
          go_wp2_with fail
          go_meet
          exact ⟨m, gN, gW, gD, AF, cf, rfl, NewL.start BM RN RV RD RF ⟨nm1, nm2, nm3, (by first | exact ngNgW | exact ngWgN.symm), (by first | exact ngNgD | exact ngDgN.symm), (by first | exact ngWgD | exact ngDgW.symm)⟩ ⟨nFm, nFgN, nFgW, nFgD⟩ ⟨by omega, by omega, by omega, by omega⟩ G1 HB0 qF⟩
      · refine wp_makeI _ _ rfl a NB rfl rfl hNB (by omega) ?_
        intro wN gW RV hq hb
        have qgW := Nat.le_trans HS hq
        (try have ngNgW := Nat.ne_of_lt (Nat.lt_of_lt_of_le RN.lt hq))
        (try have ngDgW := Nat.ne_of_lt (Nat.lt_of_lt_of_le RD.lt hq))
        (try have nFgW := FR.ne RF hq)
        clear hq
        (try have hb := undrew hb)
        (try replace RN := RN.below hb)
        (try replace RD := RD.below hb)
        (try replace RF := FR.below_ RF hb)
        replace HSF := HSF.next hb
        replace G1 := G1.below hb G1.lt
        clear HY
        have HY := cells5 G1
        replace HB0 := btr HB0 HB0.size hb
        replace HS := Nat.le_trans HS hb.size
        refine hK.out _ _ ?_ (fun hNew => ?_)
        · (first | exact HY | assumption)
        clear hK K hHeld
        have hHeld := hNew
        clear hNew
        try simp only [Act.put, pz1, pz2, pz3]
        refine wpAnyH_ready (rs := [2, 5]) (by kernel_rfl) (by simp) ?_
        refine (AllReadyH.cons (o := ⟨some 13, .call { callee := .builtin .append, args := #[.const (.slice none 0 0), .tmp 12], argTypes := #[24, 24] }, 24, "ref.go:30", #[⟨1, .data⟩], none⟩) rfl (fun K hK => ?_) (AllReadyH.cons (o := ⟨some 16, .makeSlice 92 (.tmp 15) (.tmp 15), 92, "ref.go:30", #[⟨4, .data⟩, ⟨4, .data⟩], none⟩) rfl (fun K hK => ?_) AllReadyH.nil))
        · refine wp_appF0 _ rfl rfl fs A c0 rfl HSF hfl ?_
          intro wN AF cf RF hq hb
          have qF := FGe.le hq HS
          (try have nFgN := FNe.fresh hq RN.lt)
          (try have nFgW := FNe.fresh hq RV.lt)
          (try have nFgD := FNe.fresh hq RD.lt)
          clear hq
          (try have hb := undrew hb)
          (try replace RN := RN.below hb)
          (try replace RV := RV.below hb)
          (try replace RD := RD.below hb)
          replace HSF := HSF.next hb
          replace G1 := G1.below hb G1.lt
          clear HY
          have HY := cells5 G1
          replace HB0 := btr HB0 HB0.size hb
          replace HS := Nat.le_trans HS hb.size
          refine hK.out _ _ ?_ (fun hNew => ?_)
          · (first | exact HY | assumption)
          clear hK K hHeld
          have hHeld := hNew
          clear hNew
          try simp only [Act.put, pz1, pz2, pz3]
          refine wpAnyH_ready (rs := [5]) (by kernel_rfl) (by simp) ?_
          refine AllReadyH.cons (o := ⟨some 16, .makeSlice 92 (.tmp 15) (.tmp 15), 92, "ref.go:30", #[⟨4, .data⟩, ⟨4, .data⟩], none⟩) rfl (fun K hK => ?_) AllReadyH.nil
          refine wp_makeI _ _ rfl a NB rfl rfl hNB (by omega) ?_
          intro wN gN RN hq hb
          have qgN := Nat.le_trans HS hq
          (try have ngWgN := Nat.ne_of_lt (Nat.lt_of_lt_of_le RV.lt hq))
          (try have ngDgN := Nat.ne_of_lt (Nat.lt_of_lt_of_le RD.lt hq))
          (try have nFgN := FR.ne RF hq)
          clear hq
          (try have hb := undrew hb)
          (try replace RV := RV.below hb)
          (try replace RD := RD.below hb)
          (try replace RF := FR.below_ RF hb)
          replace HSF := HSF.next hb
          replace G1 := G1.below hb G1.lt
          clear HY
          have HY := cells5 G1
          replace HB0 := btr HB0 HB0.size hb
          replace HS := Nat.le_trans HS hb.size
          refine hK.out _ _ ?_ (fun hNew => ?_)
          · (first | exact HY | assumption)
          clear hK K hHeld
          have hHeld := hNew
          clear hNew
          try simp only [Act.put, pz1, pz2, pz3]
          refine wpAnyH_take (i := 12) (oi := ⟨some 23, .build 94 #[(0, .tmp 11), (1, .tmp 13), (3, .tmp 16), (4, .tmp 19), (5, .tmp 22)], 94, "ref.go:30", #[⟨0, .data⟩, ⟨2, .data⟩, ⟨5, .data⟩, ⟨8, .data⟩, ⟨11, .data⟩], none⟩) (v := ?_) rfl (by kernel_rfl) (by kernel_rfl) (by kernel_rfl) (fun _ _ _ h => h) (Or.inl ⟨by rfl, ?_⟩) (by assumption) ?_; rotate_left; (· (intro wS hSw; (try dsimp only at hSw); go_simp; (try with_reducible rfl))); try simp only [Act.put, pz1, pz2, pz3]
          refine wpAnyH_ready (rs := [13]) (by kernel_rfl) (by simp) ?_
          refine AllReadyH.cons (o := ⟨some 24, .box 94 (.tmp 23), 30, "ref.go:30", #[⟨12, .data⟩], none⟩) rfl (fun K hK => ?_) AllReadyH.nil
          refine wp_boxR _ rfl rfl ?_
          intro wN m BM hq hb
          have qm := Nat.le_trans HS hq
          have nm1 : m ≠ gN := Nat.ne_of_gt (Nat.lt_of_lt_of_le RN.lt hq)
          have nm2 : m ≠ gW := Nat.ne_of_gt (Nat.lt_of_lt_of_le RV.lt hq)
          have nm3 : m ≠ gD := Nat.ne_of_gt (Nat.lt_of_lt_of_le RD.lt hq)
          have nFm := FR.ne RF hq
          (try have hb := undrew hb)
          (try replace RN := RN.below hb)
          (try replace RV := RV.below hb)
          (try replace RD := RD.below hb)
          (try replace RF := FR.below_ RF hb)
          replace HSF := HSF.next hb
          replace G1 := G1.below hb G1.lt
          clear HY
          have HY := cells5 G1
          replace HB0 := btr HB0 HB0.size hb
          replace HS := Nat.le_trans HS hb.size
          refine hK.out _ _ ?_ (fun hNew => ?_)
          · (first | exact HY | assumption)
          clear hK K hHeld
          have hHeld := hNew
          clear hNew
          try simp only [Act.put, pz1, pz2, pz3]
          refine wpAnyH_take (i := 14) (oi := ⟨some 5, .assign (.tmp 24), 30, "ref.go:30", #[⟨13, .data⟩, ⟨2, .chain⟩, ⟨0, .phase⟩, ⟨1, .phase⟩, ⟨2, .phase⟩, ⟨3, .phase⟩, ⟨4, .phase⟩, ⟨5, .phase⟩, ⟨6, .phase⟩, ⟨7, .phase⟩, ⟨8, .phase⟩, ⟨9, .phase⟩, ⟨10, .phase⟩, ⟨11, .phase⟩, ⟨12, .phase⟩, ⟨13, .phase⟩], none⟩) (v := ?_) rfl (by kernel_rfl) (by kernel_rfl) (by kernel_rfl) (fun _ _ _ h => h) (Or.inl ⟨by rfl, ?_⟩) (by assumption) ?_; rotate_left; (· (intro wS hSw; (try dsimp only at hSw); go_simp; (try with_reducible rfl))); try simp only [Act.put, pz1, pz2, pz3]
          refine wpAnyH_done (by kernel_rfl) ?_ _
          refine NoPanic.normal ?_
          go_wp2_with fail
          go_meet
          exact ⟨m, gN, gW, gD, AF, cf, rfl, NewL.start BM RN RV RD RF ⟨nm1, nm2, nm3, (by first | exact ngNgW | exact ngWgN.symm), (by first | exact ngNgD | exact ngDgN.symm), (by first | exact ngWgD | exact ngDgW.symm)⟩ ⟨nFm, nFgN, nFgW, nFgD⟩ ⟨by omega, by omega, by omega, by omega⟩ G1 HB0 qF⟩
        · refine wp_makeI _ _ rfl a NB rfl rfl hNB (by omega) ?_
          intro wN gN RN hq hb
          have qgN := Nat.le_trans HS hq
          (try have ngWgN := Nat.ne_of_lt (Nat.lt_of_lt_of_le RV.lt hq))
          (try have ngDgN := Nat.ne_of_lt (Nat.lt_of_lt_of_le RD.lt hq))
          (try have nFgN := FR.ne RF hq)
          clear hq
          (try have hb := undrew hb)
          (try replace RV := RV.below hb)
          (try replace RD := RD.below hb)
          (try replace RF := FR.below_ RF hb)
          replace HSF := HSF.next hb
          replace G1 := G1.below hb G1.lt
          clear HY
          have HY := cells5 G1
          replace HB0 := btr HB0 HB0.size hb
          replace HS := Nat.le_trans HS hb.size
          refine hK.out _ _ ?_ (fun hNew => ?_)
          · (first | exact HY | assumption)
          clear hK K hHeld
          have hHeld := hNew
          clear hNew
          try simp only [Act.put, pz1, pz2, pz3]
          refine wpAnyH_ready (rs := [2]) (by kernel_rfl) (by simp) ?_
          refine AllReadyH.cons (o := ⟨some 13, .call { callee := .builtin .append, args := #[.const (.slice none 0 0), .tmp 12], argTypes := #[24, 24] }, 24, "ref.go:30", #[⟨1, .data⟩], none⟩) rfl (fun K hK => ?_) AllReadyH.nil
          refine wp_appF0 _ rfl rfl fs A c0 rfl HSF hfl ?_
          intro wN AF cf RF hq hb
          have qF := FGe.le hq HS
          (try have nFgN := FNe.fresh hq RN.lt)
          (try have nFgW := FNe.fresh hq RV.lt)
          (try have nFgD := FNe.fresh hq RD.lt)
          clear hq
          (try have hb := undrew hb)
          (try replace RN := RN.below hb)
          (try replace RV := RV.below hb)
          (try replace RD := RD.below hb)
          replace HSF := HSF.next hb
          replace G1 := G1.below hb G1.lt
          clear HY
          have HY := cells5 G1
          replace HB0 := btr HB0 HB0.size hb
          replace HS := Nat.le_trans HS hb.size
          refine hK.out _ _ ?_ (fun hNew => ?_)
          · (first | exact HY | assumption)
          clear hK K hHeld
          have hHeld := hNew
          clear hNew
          try simp only [Act.put, pz1, pz2, pz3]
          refine wpAnyH_take (i := 12) (oi := ⟨some 23, .build 94 #[(0, .tmp 11), (1, .tmp 13), (3, .tmp 16), (4, .tmp 19), (5, .tmp 22)], 94, "ref.go:30", #[⟨0, .data⟩, ⟨2, .data⟩, ⟨5, .data⟩, ⟨8, .data⟩, ⟨11, .data⟩], none⟩) (v := ?_) rfl (by kernel_rfl) (by kernel_rfl) (by kernel_rfl) (fun _ _ _ h => h) (Or.inl ⟨by rfl, ?_⟩) (by assumption) ?_; rotate_left; (· (intro wS hSw; (try dsimp only at hSw); go_simp; (try with_reducible rfl))); try simp only [Act.put, pz1, pz2, pz3]
          refine wpAnyH_ready (rs := [13]) (by kernel_rfl) (by simp) ?_
          refine AllReadyH.cons (o := ⟨some 24, .box 94 (.tmp 23), 30, "ref.go:30", #[⟨12, .data⟩], none⟩) rfl (fun K hK => ?_) AllReadyH.nil
          refine wp_boxR _ rfl rfl ?_
          intro wN m BM hq hb
          have qm := Nat.le_trans HS hq
          have nm1 : m ≠ gN := Nat.ne_of_gt (Nat.lt_of_lt_of_le RN.lt hq)
          have nm2 : m ≠ gW := Nat.ne_of_gt (Nat.lt_of_lt_of_le RV.lt hq)
          have nm3 : m ≠ gD := Nat.ne_of_gt (Nat.lt_of_lt_of_le RD.lt hq)
          have nFm := FR.ne RF hq
          (try have hb := undrew hb)
          (try replace RN := RN.below hb)
          (try replace RV := RV.below hb)
          (try replace RD := RD.below hb)
          (try replace RF := FR.below_ RF hb)
          replace HSF := HSF.next hb
          replace G1 := G1.below hb G1.lt
          clear HY
          have HY := cells5 G1
          replace HB0 := btr HB0 HB0.size hb
          replace HS := Nat.le_trans HS hb.size
          refine hK.out _ _ ?_ (fun hNew => ?_)
          · (first | exact HY | assumption)
          clear hK K hHeld
          have hHeld := hNew
          clear hNew
          try simp only [Act.put, pz1, pz2, pz3]
          refine wpAnyH_take (i := 14) (oi := ⟨some 5, .assign (.tmp 24), 30, "ref.go:30", #[⟨13, .data⟩, ⟨2, .chain⟩, ⟨0, .phase⟩, ⟨1, .phase⟩, ⟨2, .phase⟩, ⟨3, .phase⟩, ⟨4, .phase⟩, ⟨5, .phase⟩, ⟨6, .phase⟩, ⟨7, .phase⟩, ⟨8, .phase⟩, ⟨9, .phase⟩, ⟨10, .phase⟩, ⟨11, .phase⟩, ⟨12, .phase⟩, ⟨13, .phase⟩], none⟩) (v := ?_) rfl (by kernel_rfl) (by kernel_rfl) (by kernel_rfl) (fun _ _ _ h => h) (Or.inl ⟨by rfl, ?_⟩) (by assumption) ?_; rotate_left; (· (intro wS hSw; (try dsimp only at hSw); go_simp; (try with_reducible rfl))); try simp only [Act.put, pz1, pz2, pz3]
          refine wpAnyH_done (by kernel_rfl) ?_ _
          refine NoPanic.normal ?_
          go_wp2_with fail
          go_meet
          exact ⟨m, gN, gW, gD, AF, cf, rfl, NewL.start BM RN RV RD RF ⟨nm1, nm2, nm3, (by first | exact ngNgW | exact ngWgN.symm), (by first | exact ngNgD | exact ngDgN.symm), (by first | exact ngWgD | exact ngDgW.symm)⟩ ⟨nFm, nFgN, nFgW, nFgD⟩ ⟨by omega, by omega, by omega, by omega⟩ G1 HB0 qF⟩
  case rest =>
    clear HY HS HB0 G1 HSF
    obtain ⟨m, gN, gW, gD, AF, cf, rfl, hL0⟩ := hcut
    obtain ⟨NP, hNP⟩ : ∃ NP : Nat, a * b = (NP : Int) := ⟨(a * b).toNat, by omega⟩
    have hw1 : IntKind.i64.wrap (NP : Int) = (NP : Int) := wrapS _ (by omega) (by omega)
    have hNPb : 32 ≤ NP ∧ NP ≤ 160 := by omega
    clear hMb g1 g2 g3 g4
    obtain ⟨g1, -⟩ : True ∧ True := ⟨trivial, trivial⟩
    go_upto_region 4 with fail
    go_wp2_with fail
    go_loopw [6] (fun s6 wr => ∃ (i : Nat) (vB : Value) (P : List (Nat × Nat)), i ≤ NP ∧ s6 = .int .i64 (i : Int) ∧ NewL wr w m gN gW gD AF cf a b c d e fs NB RW i vB P) (fun s6 _ => NP - (intOf s6).toNat)
    case atStart => exact ⟨0, _, _, Nat.zero_le _, rfl, (by first | exact hL0 | exact hL0.like)⟩
    case round =>
      clear hL0
      obtain ⟨i, vB, P, hi, rfl, hL⟩ := hrel
      have HB1 := Below.refl wr.heap.size wr
      have y6 := hL.BM.cell_ 6
      simp at y6
      have G1 := hL.G1
      have HY := cells5 G1
      obtain ⟨HY0, HY1, HY2, HY3, HY4⟩ := cells5 G1
      have hb1 : IntKind.i64.wrap (a * b) = (NP : Int) := by rw [hNP]; exact hw1
      by_cases hlt : i < NP
      · have hlt' : (i : Int) < (NP : Int) := by omega
        go_upto_region 7 with fail
        clear HY0 HY1 HY2 HY3 HY4
        refine wp_region_noPanic ?_
        refine wp_region_held_drew (S := (fun w' => w'.cell? ⟨w.heap.size, 0, none⟩ = some (.int .i64 a) ∧ w'.cell? ⟨w.heap.size, 1, none⟩ = some (.int .i64 b) ∧ w'.cell? ⟨w.heap.size, 2, none⟩ = some (.int .i64 c) ∧ w'.cell? ⟨w.heap.size, 3, none⟩ = some (.int .i64 d) ∧ w'.cell? ⟨w.heap.size, 4, none⟩ = some (.int .i64 e))) (by kernel_rfl) ?_ (fun hHeld => ?_)
        · (first | exact HY | exact HY9 | exact HYe | assumption)
        refine wpAnyH_take (i := 0) (oi := ⟨some 34, .move (.tmp 5), 30, "ref.go:32", #[], none⟩) (v := ?_) rfl (by kernel_rfl) (by kernel_rfl) (by kernel_rfl) (fun _ _ _ h => h) (Or.inl ⟨by rfl, ?_⟩) (by assumption) ?_; rotate_left; (· (intro wS hSw; (try dsimp only at hSw); go_simp; (try with_reducible rfl))); try simp only [Act.put, pz1, pz2, pz3]
        refine wpAnyH_take (i := 1) (oi := ⟨some 35, .move (.tmp 5), 30, "ref.go:32", #[], none⟩) (v := ?_) rfl (by kernel_rfl) (by kernel_rfl) (by kernel_rfl) (fun _ _ _ h => h) (Or.inl ⟨by rfl, ?_⟩) (by assumption) ?_; rotate_left; (· (intro wS hSw; (try dsimp only at hSw); go_simp; (try with_reducible rfl))); try simp only [Act.put, pz1, pz2, pz3]
        refine wpAnyH_take (i := 2) (oi := ⟨some 36, .nilCheck (.tmp 35), 0, "ref.go:32", #[⟨1, .data⟩], none⟩) (v := ?_) rfl (by kernel_rfl) (by kernel_rfl) (by kernel_rfl) (fun _ _ _ h => h) (Or.inl ⟨by rfl, ?_⟩) (by assumption) ?_; rotate_left; (· (intro wS hSw; (try dsimp only at hSw); go_simp; (try with_reducible rfl))); try simp only [Act.put, pz1, pz2, pz3]
        refine wpAnyH_take (i := 3) (oi := ⟨some 37, .fieldAddr 94 (.tmp 36) 2, 0, "ref.go:32", #[⟨2, .data⟩], none⟩) (v := ?_) rfl (by kernel_rfl) (by kernel_rfl) (by kernel_rfl) (fun _ _ _ h => h) (Or.inl ⟨by rfl, ?_⟩) (by assumption) ?_; rotate_left; (· (intro wS hSw; (try dsimp only at hSw); go_simp; (try with_reducible rfl))); try simp only [Act.put, pz1, pz2, pz3]
        refine wpAnyH_take (i := 5) (oi := ⟨some 39, .load 23 (.tmp 2), 23, "ref.go:32", #[], none⟩) (v := ?_) rfl (by kernel_rfl) (by kernel_rfl) (by kernel_rfl) (fun _ _ _ h => h) (Or.inl ⟨by rfl, ?_⟩) (by assumption) ?_; rotate_left; (· (intro wS hSw; (try dsimp only at hSw); go_simp; (try with_reducible rfl))); try simp only [Act.put, pz1, pz2, pz3]
        refine wpAnyH_ready (rs := [4, 6]) (by kernel_rfl) (by simp) ?_
        refine (AllReadyH.cons (o := ⟨some 38, .load 91 (.tmp 37), 91, "ref.go:32", #[⟨3, .data⟩], none⟩) rfl (fun K hK => ?_) (AllReadyH.cons (o := ⟨some 40, .call { callee := .value (.func 60), args := #[.tmp 39], argTypes := #[23] }, 3, "ref.go:32", #[⟨5, .data⟩], none⟩) rfl (fun K hK => ?_) AllReadyH.nil))
        · go_simp
          refine hK.out _ _ ?_ (fun hNew => ?_)
          · (first | exact HY | exact HY9 | exact HYe | assumption)
          clear hK K hHeld
          have hHeld := hNew
          clear hNew
          try simp only [Act.put, pz1, pz2, pz3]
          refine wpAnyH_ready (rs := [6]) (by kernel_rfl) (by simp) ?_
          refine AllReadyH.cons (o := ⟨some 40, .call { callee := .value (.func 60), args := #[.tmp 39], argTypes := #[23] }, 3, "ref.go:32", #[⟨5, .data⟩], none⟩) rfl (fun K hK => ?_) AllReadyH.nil
          go_simp
          (first | (go_at_call 60; ((with_reducible refine (rraw_b _ _ _ _ _ RW _ HM HRW).mono ?_); rintro e' wN ⟨rfl, hb⟩; (try have hb := undrew hb); replace y6 := cellOf hb y6; replace G1 := G1.below hb G1.lt; clear HY; have HY := cells5 G1; replace HB1 := btr HB1 HB1.size hb)) | (go_at_call 59; ((with_reducible refine (fill_255 RW _ (by omega)).mono ?_); rintro e' wN ⟨⟨g9, rfl, hR9, hge9⟩, hb⟩; (try replace hge9 : _ := Nat.le_trans HB1.size hge9); (try have hb := undrew hb); replace y6 := cellOf hb y6; replace G1 := G1.below hb G1.lt; clear HY; have HY := cells5 G1; replace HB1 := btr HB1 HB1.size hb)))
          go_wp2_with fail
          refine hK.out _ _ ?_ (fun hNew => ?_)
          · (first | exact HY | exact HY9 | exact HYe | assumption)
          clear hK K hHeld
          have hHeld := hNew
          clear hNew
          try simp only [Act.put, pz1, pz2, pz3]
          refine wpAnyH_ready (rs := [7]) (by kernel_rfl) (by simp) ?_
          refine AllReadyH.cons (o := ⟨some 41, .call { callee := .value (.func 59), args := #[.const (.int .u8 255), .tmp 40], argTypes := #[5, 3] }, 38, "ref.go:32", #[⟨6, .data⟩, ⟨6, .chain⟩], none⟩) rfl (fun K hK => ?_) AllReadyH.nil
          go_simp
          (first | (go_at_call 60; ((with_reducible refine (rraw_b _ _ _ _ _ RW _ HM HRW).mono ?_); rintro e' wN ⟨rfl, hb⟩; (try have hb := undrew hb); replace y6 := cellOf hb y6; replace G1 := G1.below hb G1.lt; clear HY; have HY := cells5 G1; replace HB1 := btr HB1 HB1.size hb)) | (go_at_call 59; ((with_reducible refine (fill_255 RW _ (by omega)).mono ?_); rintro e' wN ⟨⟨g9, rfl, hR9, hge9⟩, hb⟩; (try replace hge9 : _ := Nat.le_trans HB1.size hge9); (try have hb := undrew hb); replace y6 := cellOf hb y6; replace G1 := G1.below hb G1.lt; clear HY; have HY := cells5 G1; replace HB1 := btr HB1 HB1.size hb)))
          go_wp2_with fail
          refine hK.out _ _ ?_ (fun hNew => ?_)
          · (first | exact HY | exact HY9 | exact HYe | assumption)
          clear hK K hHeld
          have hHeld := hNew
          clear hNew
          try simp only [Act.put, pz1, pz2, pz3]
          refine wpAnyH_ready (rs := [8]) (by kernel_rfl) (by simp) ?_
          refine AllReadyH.cons (o := ⟨some 42, .buildSlice 91 1 #[(0, .tmp 41)], 91, "ref.go:32", #[⟨7, .data⟩], none⟩) rfl (fun K hK => ?_) AllReadyH.nil
          refine wp_buildPg _ rfl g9 RW RW rfl ?_
          intro wN b9 B9 hqb hb
          (try have hb := undrew hb)
          replace hR9 := hR9.below hb
          (try have hb := undrew hb)
          replace y6 := cellOf hb y6
          replace G1 := G1.below hb G1.lt
          clear HY
          have HY := cells5 G1
          replace HB1 := btr HB1 HB1.size hb
          have z9 := B9.cell_ 0
          simp at z9
          refine hK.out _ _ ?_ (fun hNew => ?_)
          · (first | exact HY | exact HY9 | exact HYe | assumption)
          clear hK K hHeld
          have hHeld := hNew
          clear hNew
          try simp only [Act.put, pz1, pz2, pz3]
          refine wpAnyH_ready (rs := [9]) (by kernel_rfl) (by simp) ?_
          refine AllReadyH.cons (o := ⟨some 43, .call { callee := .builtin .append, args := #[.tmp 38, .tmp 42], argTypes := #[91, 91] }, 91, "ref.go:32", #[⟨4, .data⟩, ⟨8, .data⟩, ⟨7, .chain⟩], none⟩) rfl (fun K hK => ?_) AllReadyH.nil
          obtain ⟨ti0, hi, hz0, hz1, hz2⟩ := info_parts infoPg
          refine wp_app _ (.tmp 38) (.tmp 42) _ rfl (w.heap.size + 1) 38 ti0 _ 1 24 Try.underlying91 hi hz0 hz1 hz2 rfl (by decide) vB i (P.map (pgV RW)) rfl (own_far hL.own (fun g hg => HB1.block g (hL.own.lt g hg).2)) (some ⟨b9, 0, none⟩) 1 1 [pgV RW (g9, RW)] rfl (Rd.one z9) (by intro u hu; simp at hu; subst hu; rfl) (by unfold maxLen; omega) (by omega) (Nat.le_trans (Nat.succ_le_of_lt hL.G1.lt) HB1.size) ?_
          intro v9 w9 ho9 hg9 hv9
          clear hi hz0 hz1 hz2
          have hST := hL.step HB1 hR9 hge9 (by unfold maxLen; omega) ho9 hg9 hv9
          obtain ⟨-, BM9, G9⟩ := hL.mid HB1 hg9
          have y69 := BM9.cell_ 6
          simp at y69
          obtain ⟨gv, cv, hve, -⟩ := own_rowC ho9 (by omega)
          subst hve
          have fm9 := BM9.free
          clear BM9
          have HY9 := cells5 G9
          refine hK.out _ _ ?_ (fun hNew => ?_)
          · (first | exact HY | exact HY9 | exact HYe | assumption)
          clear hK K hHeld
          have hHeld := hNew
          clear hNew
          try simp only [Act.put, pz1, pz2, pz3]
          refine wpAnyH_take (i := 10) (oi := ⟨some 44, .nilCheck (.tmp 34), 0, "ref.go:32", #[⟨0, .data⟩, ⟨0, .phase⟩, ⟨1, .phase⟩, ⟨2, .phase⟩, ⟨3, .phase⟩, ⟨4, .phase⟩, ⟨5, .phase⟩, ⟨6, .phase⟩, ⟨7, .phase⟩, ⟨8, .phase⟩, ⟨9, .phase⟩], none⟩) (v := ?_) rfl (by kernel_rfl) (by kernel_rfl) (by kernel_rfl) (fun _ _ _ h => h) (Or.inl ⟨by rfl, ?_⟩) (by assumption) ?_; rotate_left; (· (intro wS hSw; (try dsimp only at hSw); go_simp; (try with_reducible rfl))); try simp only [Act.put, pz1, pz2, pz3]
          refine wpAnyH_take (i := 11) (oi := ⟨some 45, .fieldAddr 94 (.tmp 44) 2, 0, "ref.go:32", #[⟨10, .data⟩, ⟨0, .phase⟩, ⟨1, .phase⟩, ⟨2, .phase⟩, ⟨3, .phase⟩, ⟨4, .phase⟩, ⟨5, .phase⟩, ⟨6, .phase⟩, ⟨7, .phase⟩, ⟨8, .phase⟩, ⟨9, .phase⟩], none⟩) (v := ?_) rfl (by kernel_rfl) (by kernel_rfl) (by kernel_rfl) (fun _ _ _ h => h) (Or.inl ⟨by rfl, ?_⟩) (by assumption) ?_; rotate_left; (· (intro wS hSw; (try dsimp only at hSw); go_simp; (try with_reducible rfl))); try simp only [Act.put, pz1, pz2, pz3]
          refine wpAnyH_ready (rs := [12]) (by kernel_rfl) (by simp) ?_
          refine AllReadyH.cons (o := ⟨none, .store 91 (.tmp 45) (.tmp 43), 0, "ref.go:32", #[⟨11, .data⟩, ⟨9, .data⟩, ⟨9, .chain⟩, ⟨0, .phase⟩, ⟨1, .phase⟩, ⟨2, .phase⟩, ⟨3, .phase⟩, ⟨4, .phase⟩, ⟨5, .phase⟩, ⟨6, .phase⟩, ⟨7, .phase⟩, ⟨8, .phase⟩, ⟨9, .phase⟩], none⟩) rfl (fun K hK => ?_) AllReadyH.nil
          go_simp
          have HYe := cells5 (G9.far (p := ⟨m, 6, none⟩) hL.nw (.slice (some ⟨gv, 0, none⟩) (i + 1) cv))
          refine hK.out _ _ ?_ (fun hNew => ?_)
          · (first | exact HY | exact HY9 | exact HYe | assumption)
          clear hK K hHeld
          have hHeld := hNew
          clear hNew
          try simp only [Act.put, pz1, pz2, pz3]
          refine wpAnyH_done (by kernel_rfl) ?_ _
          refine NoPanic.normal ?_
          go_wp2_with fail
          go_roundw
          case rel => exact ⟨i + 1, _, _, by omega, by go_num, (by first | exact hST | exact hST.like)⟩
          case measure => simp [intOf]; omega
        · go_simp
          (first | (go_at_call 60; ((with_reducible refine (rraw_b _ _ _ _ _ RW _ HM HRW).mono ?_); rintro e' wN ⟨rfl, hb⟩; (try have hb := undrew hb); replace y6 := cellOf hb y6; replace G1 := G1.below hb G1.lt; clear HY; have HY := cells5 G1; replace HB1 := btr HB1 HB1.size hb)) | (go_at_call 59; ((with_reducible refine (fill_255 RW _ (by omega)).mono ?_); rintro e' wN ⟨⟨g9, rfl, hR9, hge9⟩, hb⟩; (try replace hge9 : _ := Nat.le_trans HB1.size hge9); (try have hb := undrew hb); replace y6 := cellOf hb y6; replace G1 := G1.below hb G1.lt; clear HY; have HY := cells5 G1; replace HB1 := btr HB1 HB1.size hb)))
          go_wp2_with fail
          refine hK.out _ _ ?_ (fun hNew => ?_)
          · (first | exact HY | exact HY9 | exact HYe | assumption)
          clear hK K hHeld
          have hHeld := hNew
          clear hNew
          try simp only [Act.put, pz1, pz2, pz3]
          refine wpAnyH_ready (rs := [4, 7]) (by kernel_rfl) (by simp) ?_
          refine (AllReadyH.cons (o := ⟨some 38, .load 91 (.tmp 37), 91, "ref.go:32", #[⟨3, .data⟩], none⟩) rfl (fun K hK => ?_) (AllReadyH.cons (o := ⟨some 41, .call { callee := .value (.func 59), args := #[.const (.int .u8 255), .tmp 40], argTypes := #[5, 3] }, 38, "ref.go:32", #[⟨6, .data⟩, ⟨6, .chain⟩], none⟩) rfl (fun K hK => ?_) AllReadyH.nil))
          · go_simp
            refine hK.out _ _ ?_ (fun hNew => ?_)
            · (first | exact HY | exact HY9 | exact HYe | assumption)
            clear hK K hHeld
            have hHeld := hNew
            clear hNew
            try simp only [Act.put, pz1, pz2, pz3]
            refine wpAnyH_ready (rs := [7]) (by kernel_rfl) (by simp) ?_
            refine AllReadyH.cons (o := ⟨some 41, .call { callee := .value (.func 59), args := #[.const (.int .u8 255), .tmp 40], argTypes := #[5, 3] }, 38, "ref.go:32", #[⟨6, .data⟩, ⟨6, .chain⟩], none⟩) rfl (fun K hK => ?_) AllReadyH.nil
            go_simp
            (first | (go_at_call 60; ((with_reducible refine (rraw_b _ _ _ _ _ RW _ HM HRW).mono ?_); rintro e' wN ⟨rfl, hb⟩; (try have hb := undrew hb); replace y6 := cellOf hb y6; replace G1 := G1.below hb G1.lt; clear HY; have HY := cells5 G1; replace HB1 := btr HB1 HB1.size hb)) | (go_at_call 59; ((with_reducible refine (fill_255 RW _ (by omega)).mono ?_); rintro e' wN ⟨⟨g9, rfl, hR9, hge9⟩, hb⟩; (try replace hge9 : _ := Nat.le_trans HB1.size hge9); (try have hb := undrew hb); replace y6 := cellOf hb y6; replace G1 := G1.below hb G1.lt; clear HY; have HY := cells5 G1; replace HB1 := btr HB1 HB1.size hb)))
            go_wp2_with fail
            refine hK.out _ _ ?_ (fun hNew => ?_)
            · (first | exact HY | exact HY9 | exact HYe | assumption)
            clear hK K hHeld
            have hHeld := hNew
            clear hNew
            try simp only [Act.put, pz1, pz2, pz3]
            refine wpAnyH_ready (rs := [8]) (by kernel_rfl) (by simp) ?_
            refine AllReadyH.cons (o := ⟨some 42, .buildSlice 91 1 #[(0, .tmp 41)], 91, "ref.go:32", #[⟨7, .data⟩], none⟩) rfl (fun K hK => ?_) AllReadyH.nil
            refine wp_buildPg _ rfl g9 RW RW rfl ?_
            intro wN b9 B9 hqb hb
            (try have hb := undrew hb)
            replace hR9 := hR9.below hb
            (try have hb := undrew hb)
            replace y6 := cellOf hb y6
            replace G1 := G1.below hb G1.lt
            clear HY
            have HY := cells5 G1
            replace HB1 := btr HB1 HB1.size hb
            have z9 := B9.cell_ 0
            simp at z9
            refine hK.out _ _ ?_ (fun hNew => ?_)
            · (first | exact HY | exact HY9 | exact HYe | assumption)
            clear hK K hHeld
            have hHeld := hNew
            clear hNew
            try simp only [Act.put, pz1, pz2, pz3]
            refine wpAnyH_ready (rs := [9]) (by kernel_rfl) (by simp) ?_
            refine AllReadyH.cons (o := ⟨some 43, .call { callee := .builtin .append, args := #[.tmp 38, .tmp 42], argTypes := #[91, 91] }, 91, "ref.go:32", #[⟨4, .data⟩, ⟨8, .data⟩, ⟨7, .chain⟩], none⟩) rfl (fun K hK => ?_) AllReadyH.nil
            obtain ⟨ti0, hi, hz0, hz1, hz2⟩ := info_parts infoPg
            refine wp_app _ (.tmp 38) (.tmp 42) _ rfl (w.heap.size + 1) 38 ti0 _ 1 24 Try.underlying91 hi hz0 hz1 hz2 rfl (by decide) vB i (P.map (pgV RW)) rfl (own_far hL.own (fun g hg => HB1.block g (hL.own.lt g hg).2)) (some ⟨b9, 0, none⟩) 1 1 [pgV RW (g9, RW)] rfl (Rd.one z9) (by intro u hu; simp at hu; subst hu; rfl) (by unfold maxLen; omega) (by omega) (Nat.le_trans (Nat.succ_le_of_lt hL.G1.lt) HB1.size) ?_
            intro v9 w9 ho9 hg9 hv9
            clear hi hz0 hz1 hz2
            have hST := hL.step HB1 hR9 hge9 (by unfold maxLen; omega) ho9 hg9 hv9
            obtain ⟨-, BM9, G9⟩ := hL.mid HB1 hg9
            have y69 := BM9.cell_ 6
            simp at y69
            obtain ⟨gv, cv, hve, -⟩ := own_rowC ho9 (by omega)
            subst hve
            have fm9 := BM9.free
            clear BM9
            have HY9 := cells5 G9
            refine hK.out _ _ ?_ (fun hNew => ?_)
            · (first | exact HY | exact HY9 | exact HYe | assumption)
            clear hK K hHeld
            have hHeld := hNew
            clear hNew
            try simp only [Act.put, pz1, pz2, pz3]
            refine wpAnyH_take (i := 10) (oi := ⟨some 44, .nilCheck (.tmp 34), 0, "ref.go:32", #[⟨0, .data⟩, ⟨0, .phase⟩, ⟨1, .phase⟩, ⟨2, .phase⟩, ⟨3, .phase⟩, ⟨4, .phase⟩, ⟨5, .phase⟩, ⟨6, .phase⟩, ⟨7, .phase⟩, ⟨8, .phase⟩, ⟨9, .phase⟩], none⟩) (v := ?_) rfl (by kernel_rfl) (by kernel_rfl) (by kernel_rfl) (fun _ _ _ h => h) (Or.inl ⟨by rfl, ?_⟩) (by assumption) ?_; rotate_left; (· (intro wS hSw; (try dsimp only at hSw); go_simp; (try with_reducible rfl))); try simp only [Act.put, pz1, pz2, pz3]
            refine wpAnyH_take (i := 11) (oi := ⟨some 45, .fieldAddr 94 (.tmp 44) 2, 0, "ref.go:32", #[⟨10, .data⟩, ⟨0, .phase⟩, ⟨1, .phase⟩, ⟨2, .phase⟩, ⟨3, .phase⟩, ⟨4, .phase⟩, ⟨5, .phase⟩, ⟨6, .phase⟩, ⟨7, .phase⟩, ⟨8, .phase⟩, ⟨9, .phase⟩], none⟩) (v := ?_) rfl (by kernel_rfl) (by kernel_rfl) (by kernel_rfl) (fun _ _ _ h => h) (Or.inl ⟨by rfl, ?_⟩) (by assumption) ?_; rotate_left; (· (intro wS hSw; (try dsimp only at hSw); go_simp; (try with_reducible rfl))); try simp only [Act.put, pz1, pz2, pz3]
            refine wpAnyH_ready (rs := [12]) (by kernel_rfl) (by simp) ?_
            refine AllReadyH.cons (o := ⟨none, .store 91 (.tmp 45) (.tmp 43), 0, "ref.go:32", #[⟨11, .data⟩, ⟨9, .data⟩, ⟨9, .chain⟩, ⟨0, .phase⟩, ⟨1, .phase⟩, ⟨2, .phase⟩, ⟨3, .phase⟩, ⟨4, .phase⟩, ⟨5, .phase⟩, ⟨6, .phase⟩, ⟨7, .phase⟩, ⟨8, .phase⟩, ⟨9, .phase⟩], none⟩) rfl (fun K hK => ?_) AllReadyH.nil
            go_simp
            have HYe := cells5 (G9.far (p := ⟨m, 6, none⟩) hL.nw (.slice (some ⟨gv, 0, none⟩) (i + 1) cv))
            refine hK.out _ _ ?_ (fun hNew => ?_)
            · (first | exact HY | exact HY9 | exact HYe | assumption)
            clear hK K hHeld
            have hHeld := hNew
            clear hNew
            try simp only [Act.put, pz1, pz2, pz3]
            refine wpAnyH_done (by kernel_rfl) ?_ _
            refine NoPanic.normal ?_
            go_wp2_with fail
            go_roundw
            case rel => exact ⟨i + 1, _, _, by omega, by go_num, (by first | exact hST | exact hST.like)⟩
            case measure => simp [intOf]; omega
          · go_simp
            (first | (go_at_call 60; ((with_reducible refine (rraw_b _ _ _ _ _ RW _ HM HRW).mono ?_); rintro e' wN ⟨rfl, hb⟩; (try have hb := undrew hb); replace y6 := cellOf hb y6; replace G1 := G1.below hb G1.lt; clear HY; have HY := cells5 G1; replace HB1 := btr HB1 HB1.size hb)) | (go_at_call 59; ((with_reducible refine (fill_255 RW _ (by omega)).mono ?_); rintro e' wN ⟨⟨g9, rfl, hR9, hge9⟩, hb⟩; (try replace hge9 : _ := Nat.le_trans HB1.size hge9); (try have hb := undrew hb); replace y6 := cellOf hb y6; replace G1 := G1.below hb G1.lt; clear HY; have HY := cells5 G1; replace HB1 := btr HB1 HB1.size hb)))
            go_wp2_with fail
            refine hK.out _ _ ?_ (fun hNew => ?_)
            · (first | exact HY | exact HY9 | exact HYe | assumption)
            clear hK K hHeld
            have hHeld := hNew
            clear hNew
            try simp only [Act.put, pz1, pz2, pz3]
            refine wpAnyH_ready (rs := [4, 8]) (by kernel_rfl) (by simp) ?_
            refine (AllReadyH.cons (o := ⟨some 38, .load 91 (.tmp 37), 91, "ref.go:32", #[⟨3, .data⟩], none⟩) rfl (fun K hK => ?_) (AllReadyH.cons (o := ⟨some 42, .buildSlice 91 1 #[(0, .tmp 41)], 91, "ref.go:32", #[⟨7, .data⟩], none⟩) rfl (fun K hK => ?_) AllReadyH.nil))
            · go_simp
              refine hK.out _ _ ?_ (fun hNew => ?_)
              · (first | exact HY | exact HY9 | exact HYe | assumption)
              clear hK K hHeld
              have hHeld := hNew
              clear hNew
              try simp only [Act.put, pz1, pz2, pz3]
              refine wpAnyH_ready (rs := [8]) (by kernel_rfl) (by simp) ?_
              refine AllReadyH.cons (o := ⟨some 42, .buildSlice 91 1 #[(0, .tmp 41)], 91, "ref.go:32", #[⟨7, .data⟩], none⟩) rfl (fun K hK => ?_) AllReadyH.nil
              refine wp_buildPg _ rfl g9 RW RW rfl ?_
              intro wN b9 B9 hqb hb
              (try have hb := undrew hb)
              replace hR9 := hR9.below hb
              (try have hb := undrew hb)
              replace y6 := cellOf hb y6
              replace G1 := G1.below hb G1.lt
              clear HY
              have HY := cells5 G1
              replace HB1 := btr HB1 HB1.size hb
              have z9 := B9.cell_ 0
              simp at z9
              refine hK.out _ _ ?_ (fun hNew => ?_)
              · (first | exact HY | exact HY9 | exact HYe | assumption)
              clear hK K hHeld
              have hHeld := hNew
              clear hNew
              try simp only [Act.put, pz1, pz2, pz3]
              refine wpAnyH_ready (rs := [9]) (by kernel_rfl) (by simp) ?_
              refine AllReadyH.cons (o := ⟨some 43, .call { callee := .builtin .append, args := #[.tmp 38, .tmp 42], argTypes := #[91, 91] }, 91, "ref.go:32", #[⟨4, .data⟩, ⟨8, .data⟩, ⟨7, .chain⟩], none⟩) rfl (fun K hK => ?_) AllReadyH.nil
              obtain ⟨ti0, hi, hz0, hz1, hz2⟩ := info_parts infoPg
              refine wp_app _ (.tmp 38) (.tmp 42) _ rfl (w.heap.size + 1) 38 ti0 _ 1 24 Try.underlying91 hi hz0 hz1 hz2 rfl (by decide) vB i (P.map (pgV RW)) rfl (own_far hL.own (fun g hg => HB1.block g (hL.own.lt g hg).2)) (some ⟨b9, 0, none⟩) 1 1 [pgV RW (g9, RW)] rfl (Rd.one z9) (by intro u hu; simp at hu; subst hu; rfl) (by unfold maxLen; omega) (by omega) (Nat.le_trans (Nat.succ_le_of_lt hL.G1.lt) HB1.size) ?_
              intro v9 w9 ho9 hg9 hv9
              clear hi hz0 hz1 hz2
              have hST := hL.step HB1 hR9 hge9 (by unfold maxLen; omega) ho9 hg9 hv9
              obtain ⟨-, BM9, G9⟩ := hL.mid HB1 hg9
              have y69 := BM9.cell_ 6
              simp at y69
              obtain ⟨gv, cv, hve, -⟩ := own_rowC ho9 (by omega)
              subst hve
              have fm9 := BM9.free
              clear BM9
              have HY9 := cells5 G9
              refine hK.out _ _ ?_ (fun hNew => ?_)
              · (first | exact HY | exact HY9 | exact HYe | assumption)
              clear hK K hHeld
              have hHeld := hNew
              clear hNew
              try simp only [Act.put, pz1, pz2, pz3]
              refine wpAnyH_take (i := 10) (oi := ⟨some 44, .nilCheck (.tmp 34), 0, "ref.go:32", #[⟨0, .data⟩, ⟨0, .phase⟩, ⟨1, .phase⟩, ⟨2, .phase⟩, ⟨3, .phase⟩, ⟨4, .phase⟩, ⟨5, .phase⟩, ⟨6, .phase⟩, ⟨7, .phase⟩, ⟨8, .phase⟩, ⟨9, .phase⟩], none⟩) (v := ?_) rfl (by kernel_rfl) (by kernel_rfl) (by kernel_rfl) (fun _ _ _ h => h) (Or.inl ⟨by rfl, ?_⟩) (by assumption) ?_; rotate_left; (· (intro wS hSw; (try dsimp only at hSw); go_simp; (try with_reducible rfl))); try simp only [Act.put, pz1, pz2, pz3]
              refine wpAnyH_take (i := 11) (oi := ⟨some 45, .fieldAddr 94 (.tmp 44) 2, 0, "ref.go:32", #[⟨10, .data⟩, ⟨0, .phase⟩, ⟨1, .phase⟩, ⟨2, .phase⟩, ⟨3, .phase⟩, ⟨4, .phase⟩, ⟨5, .phase⟩, ⟨6, .phase⟩, ⟨7, .phase⟩, ⟨8, .phase⟩, ⟨9, .phase⟩], none⟩) (v := ?_) rfl (by kernel_rfl) (by kernel_rfl) (by kernel_rfl) (fun _ _ _ h => h) (Or.inl ⟨by rfl, ?_⟩) (by assumption) ?_; rotate_left; (· (intro wS hSw; (try dsimp only at hSw); go_simp; (try with_reducible rfl))); try simp only [Act.put, pz1, pz2, pz3]
              refine wpAnyH_ready (rs := [12]) (by kernel_rfl) (by simp) ?_
              refine AllReadyH.cons (o := ⟨none, .store 91 (.tmp 45) (.tmp 43), 0, "ref.go:32", #[⟨11, .data⟩, ⟨9, .data⟩, ⟨9, .chain⟩, ⟨0, .phase⟩, ⟨1, .phase⟩, ⟨2, .phase⟩, ⟨3, .phase⟩, ⟨4, .phase⟩, ⟨5, .phase⟩, ⟨6, .phase⟩, ⟨7, .phase⟩, ⟨8, .phase⟩, ⟨9, .phase⟩], none⟩) rfl (fun K hK => ?_) AllReadyH.nil
              go_simp
              have HYe := cells5 (G9.far (p := ⟨m, 6, none⟩) hL.nw (.slice (some ⟨gv, 0, none⟩) (i + 1) cv))
              refine hK.out _ _ ?_ (fun hNew => ?_)
              · (first | exact HY | exact HY9 | exact HYe | assumption)
              clear hK K hHeld
              have hHeld := hNew
              clear hNew
              try simp only [Act.put, pz1, pz2, pz3]
              refine wpAnyH_done (by kernel_rfl) ?_ _
              refine NoPanic.normal ?_
              go_wp2_with fail
              go_roundw
              case rel => exact ⟨i + 1, _, _, by omega, by go_num, (by first | exact hST | exact hST.like)⟩
              case measure => simp [intOf]; omega
            · refine wp_buildPg _ rfl g9 RW RW rfl ?_
              intro wN b9 B9 hqb hb
              (try have hb := undrew hb)
              replace hR9 := hR9.below hb
              (try have hb := undrew hb)
              replace y6 := cellOf hb y6
              replace G1 := G1.below hb G1.lt
              clear HY
              have HY := cells5 G1
              replace HB1 := btr HB1 HB1.size hb
              have z9 := B9.cell_ 0
              simp at z9
              refine hK.out _ _ ?_ (fun hNew => ?_)
              · (first | exact HY | exact HY9 | exact HYe | assumption)
              clear hK K hHeld
              have hHeld := hNew
              clear hNew
              try simp only [Act.put, pz1, pz2, pz3]
              refine wpAnyH_ready (rs := [4]) (by kernel_rfl) (by simp) ?_
              refine AllReadyH.cons (o := ⟨some 38, .load 91 (.tmp 37), 91, "ref.go:32", #[⟨3, .data⟩], none⟩) rfl (fun K hK => ?_) AllReadyH.nil
              go_simp
              refine hK.out _ _ ?_ (fun hNew => ?_)
              · (first | exact HY | exact HY9 | exact HYe | assumption)
              clear hK K hHeld
              have hHeld := hNew
              clear hNew
              try simp only [Act.put, pz1, pz2, pz3]
              refine wpAnyH_ready (rs := [9]) (by kernel_rfl) (by simp) ?_
              refine AllReadyH.cons (o := ⟨some 43, .call { callee := .builtin .append, args := #[.tmp 38, .tmp 42], argTypes := #[91, 91] }, 91, "ref.go:32", #[⟨4, .data⟩, ⟨8, .data⟩, ⟨7, .chain⟩], none⟩) rfl (fun K hK => ?_) AllReadyH.nil
              obtain ⟨ti0, hi, hz0, hz1, hz2⟩ := info_parts infoPg
              refine wp_app _ (.tmp 38) (.tmp 42) _ rfl (w.heap.size + 1) 38 ti0 _ 1 24 Try.underlying91 hi hz0 hz1 hz2 rfl (by decide) vB i (P.map (pgV RW)) rfl (own_far hL.own (fun g hg => HB1.block g (hL.own.lt g hg).2)) (some ⟨b9, 0, none⟩) 1 1 [pgV RW (g9, RW)] rfl (Rd.one z9) (by intro u hu; simp at hu; subst hu; rfl) (by unfold maxLen; omega) (by omega) (Nat.le_trans (Nat.succ_le_of_lt hL.G1.lt) HB1.size) ?_
              intro v9 w9 ho9 hg9 hv9
              clear hi hz0 hz1 hz2
              have hST := hL.step HB1 hR9 hge9 (by unfold maxLen; omega) ho9 hg9 hv9
              obtain ⟨-, BM9, G9⟩ := hL.mid HB1 hg9
              have y69 := BM9.cell_ 6
              simp at y69
              obtain ⟨gv, cv, hve, -⟩ := own_rowC ho9 (by omega)
              subst hve
              have fm9 := BM9.free
              clear BM9
              have HY9 := cells5 G9
              refine hK.out _ _ ?_ (fun hNew => ?_)
              · (first | exact HY | exact HY9 | exact HYe | assumption)
              clear hK K hHeld
              have hHeld := hNew
              clear hNew
              try simp only [Act.put, pz1, pz2, pz3]
              refine wpAnyH_take (i := 10) (oi := ⟨some 44, .nilCheck (.tmp 34), 0, "ref.go:32", #[⟨0, .data⟩, ⟨0, .phase⟩, ⟨1, .phase⟩, ⟨2, .phase⟩, ⟨3, .phase⟩, ⟨4, .phase⟩, ⟨5, .phase⟩, ⟨6, .phase⟩, ⟨7, .phase⟩, ⟨8, .phase⟩, ⟨9, .phase⟩], none⟩) (v := ?_) rfl (by kernel_rfl) (by kernel_rfl) (by kernel_rfl) (fun _ _ _ h => h) (Or.inl ⟨by rfl, ?_⟩) (by assumption) ?_; rotate_left; (· (intro wS hSw; (try dsimp only at hSw); go_simp; (try with_reducible rfl))); try simp only [Act.put, pz1, pz2, pz3]
              refine wpAnyH_take (i := 11) (oi := ⟨some 45, .fieldAddr 94 (.tmp 44) 2, 0, "ref.go:32", #[⟨10, .data⟩, ⟨0, .phase⟩, ⟨1, .phase⟩, ⟨2, .phase⟩, ⟨3, .phase⟩, ⟨4, .phase⟩, ⟨5, .phase⟩, ⟨6, .phase⟩, ⟨7, .phase⟩, ⟨8, .phase⟩, ⟨9, .phase⟩], none⟩) (v := ?_) rfl (by kernel_rfl) (by kernel_rfl) (by kernel_rfl) (fun _ _ _ h => h) (Or.inl ⟨by rfl, ?_⟩) (by assumption) ?_; rotate_left; (· (intro wS hSw; (try dsimp only at hSw); go_simp; (try with_reducible rfl))); try simp only [Act.put, pz1, pz2, pz3]
              refine wpAnyH_ready (rs := [12]) (by kernel_rfl) (by simp) ?_
              refine AllReadyH.cons (o := ⟨none, .store 91 (.tmp 45) (.tmp 43), 0, "ref.go:32", #[⟨11, .data⟩, ⟨9, .data⟩, ⟨9, .chain⟩, ⟨0, .phase⟩, ⟨1, .phase⟩, ⟨2, .phase⟩, ⟨3, .phase⟩, ⟨4, .phase⟩, ⟨5, .phase⟩, ⟨6, .phase⟩, ⟨7, .phase⟩, ⟨8, .phase⟩, ⟨9, .phase⟩], none⟩) rfl (fun K hK => ?_) AllReadyH.nil
              go_simp
              have HYe := cells5 (G9.far (p := ⟨m, 6, none⟩) hL.nw (.slice (some ⟨gv, 0, none⟩) (i + 1) cv))
              refine hK.out _ _ ?_ (fun hNew => ?_)
              · (first | exact HY | exact HY9 | exact HYe | assumption)
              clear hK K hHeld
              have hHeld := hNew
              clear hNew
              try simp only [Act.put, pz1, pz2, pz3]
              refine wpAnyH_done (by kernel_rfl) ?_ _
              refine NoPanic.normal ?_
              go_wp2_with fail
              go_roundw
              case rel => exact ⟨i + 1, _, _, by omega, by go_num, (by first | exact hST | exact hST.like)⟩
              case measure => simp [intOf]; omega
      · have hlt' : ¬ (i : Int) < (NP : Int) := by omega
        obtain rfl : NP = i := by omega
        go_wp2_with fail
        go_ret
        obtain ⟨gB, hR⟩ := hL.fin hNP.symm (by omega) hNB HRW.out HNX.out HP.out
        first
        | exact ⟨m, gB, gN, gW, gD, AF, cf, rfl, (by first | exact hR | exact hR.like), (by first | exact hL.HB | exact hL.HB.drew)⟩
        | exact ⟨gB, gN, gW, gD, AF, cf, (by first | exact hR | exact hR.like), (by first | exact hL.HB | exact hL.HB.drew)⟩
        | exact ⟨m, rfl, ⟨gB, gN, gW, gD, AF, cf, (by first | exact hR | exact hR.like)⟩, (by first | exact hL.HB | exact hL.HB.drew)⟩
end Go.Proofs.Ytcpniplfkillbaa
namespace Go.Proofs.Ytcpniplfkillbaa
open Go.ChangeShapes Go.WideShapes Go.ChangeAt Go.RowKit Go.Deep
section
variable {H : Type} {enc : TypeId × Value → H} {P : Program} {w : World} {base : Nat} {spare : Nat → Bool} {held : Bool}
end
end Go.Proofs.Ytcpniplfkillbaa
