/- New of chapter 7's own chip: what it makes first; its pages. -/
import Derived.Test.YtplniojeaodjiaaCs6
import Derived.Test.YtplniojeaodjiaaCs1
import Derived.Deep.Slices
import Derived.Deep.Fields
import Derived.ChangeSame
import Derived.Test.YtplniojeaodjiaaCs2
namespace Go.Proofs.Ytplniojeaodjiaa
open Go.ChangeShapes Go.WideShapes Go.ChangeAt Go.RowKit
set_option linter.unusedSimpArgs false
set_option linter.unusedVariables false

set_option maxRecDepth 100000 in
set_option maxHeartbeats 8000000 in
theorem rnew_yes (a b c d e : Int) (fs : List Flt) (A : Option Addr) (c0 : Nat) (w : World) (hs : SlF w w.heap.size A fs) (NB NX RW : Nat) (hNB : (NB : Int) = a) (hNX : NX = (a * b * (c + 16)).toNat) (HRW : Hid ((RW : Int) = c + 16)) (hfl : fs.length ≤ 100000) (HP : Hid (planMay a b c d e fs = true)) : Calls Try.prog 12 #[.agg #[.int .i64 a, .int .i64 b, .int .i64 c, .int .i64 d, .int .i64 e], .slice A fs.length c0] w fun e' w' => ∃ (m gB gN gW gD : Nat) (AF : Option Addr) (cf : Nat), e' = .returned (.pointer (some ⟨m, 0, none⟩)) ∧ RefW w' m gB gN gW gD w.heap.size AF fs.length cf a b c d e fs (ChS.new NX NB) ∧ Below w.heap.size w w' := by
  have HB0 : Below w.heap.size w (w.alloc (.cells #[.int .i64 a, .int .i64 b, .int .i64 c, .int .i64 d, .int .i64 e] 23)) := (Below.refl _ _).alloc (Nat.le_refl _) _
  have G1 : Blk (w.alloc (.cells #[.int .i64 a, .int .i64 b, .int .i64 c, .int .i64 d, .int .i64 e] 23)) w.heap.size 23 #[.int .i64 a, .int .i64 b, .int .i64 c, .int .i64 d, .int .i64 e] := Blk.new_ _ _ _
  have HSF := hs.next HB0
  have HNX := Lib.hid hNX
  clear hNX
  obtain ⟨g1, g2, g3, g4, g5, g6, -⟩ := may_bd (planMay_bd HP.out).1
  have hRWb : RW ≤ 1000 := by have := HRW.out; omega
  have hMb := mul_bd (x := a) (y := b) (lo := 8) (hi := 20) g1 g2 g3 g4 (by omega) (by omega)
  have HM := Lib.hid (planMay_bd HP.out).1
  clear g5 g6
  have HS : w.heap.size ≤ (w.alloc (.cells #[.int .i64 a, .int .i64 b, .int .i64 c, .int .i64 d, .int .i64 e] 23)).heap.size := HB0.size
  go_enter Try.func12, Try.ntmps12
  go_upto_region 3 with (go_at_call 37; ((with_reducible refine (rpmay_b a b c d e fs _ _ _ _ HSF HP).mono ?_); rintro e' wN ⟨rfl, hb⟩; replace HSF := HSF.next hb; replace HB0 := btr HB0 HB0.size hb; replace G1 := G1.below hb G1.lt))
  replace HS := HB0.size
  have HY := cells5 G1
  go_cut [5] (fun s5 wx => ∃ (m gN gW gD : Nat) (AF : Option Addr) (cf : Nat), s5 = .pointer (some ⟨m, 0, none⟩) ∧ NewL wx w m gN gW gD AF cf a b c d e fs NB RW 0 (.slice none 0 0) [])
  case first =>
    refine wp_region_noPanic ?_
    refine wp_region_held_drew (S := (fun w' => w'.cell? ⟨w.heap.size, 0, none⟩ = some (.int .i64 a) ∧ w'.cell? ⟨w.heap.size, 1, none⟩ = some (.int .i64 b) ∧ w'.cell? ⟨w.heap.size, 2, none⟩ = some (.int .i64 c) ∧ w'.cell? ⟨w.heap.size, 3, none⟩ = some (.int .i64 d) ∧ w'.cell? ⟨w.heap.size, 4, none⟩ = some (.int .i64 e))) (by kernel_rfl) ?_ (fun hHeld => ?_)
    · (first | exact HY | assumption)
    refine wpAnyH_take (i := 0) (oi := ⟨some 11, .load 23 (.tmp 2), 23, "ref.go:30", #[], none⟩) (v := ?_) rfl (by kernel_rfl) (by kernel_rfl) (by kernel_rfl) (fun _ _ _ h => h) (Or.inl ⟨by rfl, ?_⟩) (by assumption) ?_
    rotate_left
    · (intro wS hSw; (try dsimp only at hSw); go_simp; (try with_reducible rfl))
    try simp only [Act.put, pz1, pz2, pz3]
    refine wpAnyH_take (i := 1) (oi := ⟨some 12, .move (.tmp 1), 24, "ref.go:30", #[], none⟩) (v := ?_) rfl (by kernel_rfl) (by kernel_rfl) (by kernel_rfl) (fun _ _ _ h => h) (Or.inl ⟨by rfl, ?_⟩) (by assumption) ?_
    rotate_left
    · (intro wS hSw; (try dsimp only at hSw); go_simp; (try with_reducible rfl))
    try simp only [Act.put, pz1, pz2, pz3]
    refine wpAnyH_take (i := 3) (oi := ⟨some 14, .fieldAddr 23 (.tmp 2) 0, 0, "ref.go:30", #[], none⟩) (v := ?_) rfl (by kernel_rfl) (by kernel_rfl) (by kernel_rfl) (fun _ _ _ h => h) (Or.inl ⟨by rfl, ?_⟩) (by assumption) ?_
    rotate_left
    · (intro wS hSw; (try dsimp only at hSw); go_simp; (try with_reducible rfl))
    try simp only [Act.put, pz1, pz2, pz3]
    refine wpAnyH_take (i := 4) (oi := ⟨some 15, .load 3 (.tmp 14), 3, "ref.go:30", #[⟨3, .data⟩], none⟩) (v := ?_) rfl (by kernel_rfl) (by kernel_rfl) (by kernel_rfl) (fun _ _ _ h => h) (Or.inl ⟨by rfl, ?_⟩) (by assumption) ?_
    rotate_left
    · (intro wS hSw; (try dsimp only at hSw); go_simp; (try with_reducible rfl))
    try simp only [Act.put, pz1, pz2, pz3]
    refine wpAnyH_take (i := 6) (oi := ⟨some 17, .fieldAddr 23 (.tmp 2) 0, 0, "ref.go:30", #[], none⟩) (v := ?_) rfl (by kernel_rfl) (by kernel_rfl) (by kernel_rfl) (fun _ _ _ h => h) (Or.inl ⟨by rfl, ?_⟩) (by assumption) ?_
    rotate_left
    · (intro wS hSw; (try dsimp only at hSw); go_simp; (try with_reducible rfl))
    try simp only [Act.put, pz1, pz2, pz3]
    refine wpAnyH_take (i := 7) (oi := ⟨some 18, .load 3 (.tmp 17), 3, "ref.go:30", #[⟨6, .data⟩], none⟩) (v := ?_) rfl (by kernel_rfl) (by kernel_rfl) (by kernel_rfl) (fun _ _ _ h => h) (Or.inl ⟨by rfl, ?_⟩) (by assumption) ?_
    rotate_left
    · (intro wS hSw; (try dsimp only at hSw); go_simp; (try with_reducible rfl))
    try simp only [Act.put, pz1, pz2, pz3]
    refine wpAnyH_take (i := 9) (oi := ⟨some 20, .fieldAddr 23 (.tmp 2) 0, 0, "ref.go:30", #[], none⟩) (v := ?_) rfl (by kernel_rfl) (by kernel_rfl) (by kernel_rfl) (fun _ _ _ h => h) (Or.inl ⟨by rfl, ?_⟩) (by assumption) ?_
    rotate_left
    · (intro wS hSw; (try dsimp only at hSw); go_simp; (try with_reducible rfl))
    try simp only [Act.put, pz1, pz2, pz3]
    refine wpAnyH_take (i := 10) (oi := ⟨some 21, .load 3 (.tmp 20), 3, "ref.go:30", #[⟨9, .data⟩], none⟩) (v := ?_) rfl (by kernel_rfl) (by kernel_rfl) (by kernel_rfl) (fun _ _ _ h => h) (Or.inl ⟨by rfl, ?_⟩) (by assumption) ?_
    rotate_left
    · (intro wS hSw; (try dsimp only at hSw); go_simp; (try with_reducible rfl))
    try simp only [Act.put, pz1, pz2, pz3]
    refine wpAnyH_ready (rs := [2, 5, 8, 11]) (by kernel_rfl) (by simp) ?_
    refine (AllReadyH.cons (o := ⟨some 13, .call { callee := .builtin .append, args := #[.const (.slice none 0 0), .tmp 12], argTypes := #[24, 24] }, 24, "ref.go:30", #[⟨1, .data⟩], none⟩) rfl (fun K hK => ?_) (AllReadyH.cons (o := ⟨some 16, .makeSlice 40 (.tmp 15) (.tmp 15), 40, "ref.go:30", #[⟨4, .data⟩, ⟨4, .data⟩], none⟩) rfl (fun K hK => ?_) (AllReadyH.cons (o := ⟨some 19, .makeSlice 40 (.tmp 18) (.tmp 18), 40, "ref.go:30", #[⟨7, .data⟩, ⟨7, .data⟩], none⟩) rfl (fun K hK => ?_) (AllReadyH.cons (o := ⟨some 22, .makeSlice 40 (.tmp 21) (.tmp 21), 40, "ref.go:30", #[⟨10, .data⟩, ⟨10, .data⟩], none⟩) rfl (fun K hK => ?_) AllReadyH.nil))))
    · refine wp_appF0 _ rfl rfl fs A c0 rfl HSF hfl ?_
      intro wN AF cf RF hq hb
      have qF := FGe.le hq HS
      (try have nFgN := FNe.fresh hq RN.lt)
      (try have nFgW := FNe.fresh hq RV.lt)
      (try have nFgD := FNe.fresh hq RD.lt)
      clear hq
      (try have hb := undrew hb)
      (try replace RN := RN.below hb)
      (try replace RV := RV.below hb)
      (try replace RD := RD.below hb)
      replace HSF := HSF.next hb
      replace G1 := G1.below hb G1.lt
      clear HY
      have HY := cells5 G1
      replace HB0 := btr HB0 HB0.size hb
      replace HS := Nat.le_trans HS hb.size
      refine hK.out _ _ ?_ (fun hNew => ?_)
      · (first | exact HY | assumption)
      clear hK K hHeld
      have hHeld := hNew
      clear hNew
      try simp only [Act.put, pz1, pz2, pz3]
      refine wpAnyH_ready (rs := [5, 8, 11]) (by kernel_rfl) (by simp) ?_
      refine (AllReadyH.cons (o := ⟨some 16, .makeSlice 40 (.tmp 15) (.tmp 15), 40, "ref.go:30", #[⟨4, .data⟩, ⟨4, .data⟩], none⟩) rfl (fun K hK => ?_) (AllReadyH.cons (o := ⟨some 19, .makeSlice 40 (.tmp 18) (.tmp 18), 40, "ref.go:30", #[⟨7, .data⟩, ⟨7, .data⟩], none⟩) rfl (fun K hK => ?_) (AllReadyH.cons (o := ⟨some 22, .makeSlice 40 (.tmp 21) (.tmp 21), 40, "ref.go:30", #[⟨10, .data⟩, ⟨10, .data⟩], none⟩) rfl (fun K hK => ?_) AllReadyH.nil)))
      · refine wp_makeI _ _ rfl a NB rfl rfl hNB (by omega) ?_
        intro wN gN RN hq hb
        have qgN := Nat.le_trans HS hq
        (try have ngWgN := Nat.ne_of_lt (Nat.lt_of_lt_of_le RV.lt hq))
        (try have ngDgN := Nat.ne_of_lt (Nat.lt_of_lt_of_le RD.lt hq))
        (try have nFgN := FR.ne RF hq)
        clear hq
        (try have hb := undrew hb)
        (try replace RV := RV.below hb)
        (try replace RD := RD.below hb)
        (try replace RF := FR.below_ RF hb)
        replace HSF := HSF.next hb
        replace G1 := G1.below hb G1.lt
        clear HY
        have HY := cells5 G1
        replace HB0 := btr HB0 HB0.size hb
        replace HS := Nat.le_trans HS hb.size
        refine hK.out _ _ ?_ (fun hNew => ?_)
        · (first | exact HY | assumption)
        clear hK K hHeld
        have hHeld := hNew
        clear hNew
        try simp only [Act.put, pz1, pz2, pz3]
        refine wpAnyH_ready (rs := [8, 11]) (by kernel_rfl) (by simp) ?_
        refine (AllReadyH.cons (o := ⟨some 19, .makeSlice 40 (.tmp 18) (.tmp 18), 40, "ref.go:30", #[⟨7, .data⟩, ⟨7, .data⟩], none⟩) rfl (fun K hK => ?_) (AllReadyH.cons (o := ⟨some 22, .makeSlice 40 (.tmp 21) (.tmp 21), 40, "ref.go:30", #[⟨10, .data⟩, ⟨10, .data⟩], none⟩) rfl (fun K hK => ?_) AllReadyH.nil))
        · refine wp_makeI _ _ rfl a NB rfl rfl hNB (by omega) ?_
          intro wN gW RV hq hb
          have qgW := Nat.le_trans HS hq
          (try have ngNgW := Nat.ne_of_lt (Nat.lt_of_lt_of_le RN.lt hq))
          (try have ngDgW := Nat.ne_of_lt (Nat.lt_of_lt_of_le RD.lt hq))
          (try have nFgW := FR.ne RF hq)
          clear hq
          (try have hb := undrew hb)
          (try replace RN := RN.below hb)
          (try replace RD := RD.below hb)
          (try replace RF := FR.below_ RF hb)
          replace HSF := HSF.next hb
          replace G1 := G1.below hb G1.lt
          clear HY
          have HY := cells5 G1
          replace HB0 := btr HB0 HB0.size hb
          replace HS := Nat.le_trans HS hb.size
          refine hK.out _ _ ?_ (fun hNew => ?_)
          · (first | exact HY | assumption)
          clear hK K hHeld
          have hHeld := hNew
          clear hNew
          try simp only [Act.put, pz1, pz2, pz3]
          refine wpAnyH_ready (rs := [11]) (by kernel_rfl) (by simp) ?_
          refine AllReadyH.cons (o := ⟨some 22, .makeSlice 40 (.tmp 21) (.tmp 21), 40, "ref.go:30", #[⟨10, .data⟩, ⟨10, .data⟩], none⟩) rfl (fun K hK => ?_) AllReadyH.nil
          refine wp_makeI _ _ rfl a NB rfl rfl hNB (by omega) ?_
          intro wN gD RD hq hb
          have qgD := Nat.le_trans HS hq
          (try have ngNgD := Nat.ne_of_lt (Nat.lt_of_lt_of_le RN.lt hq))
          (try have ngWgD := Nat.ne_of_lt (Nat.lt_of_lt_of_le RV.lt hq))
          (try have nFgD := FR.ne RF hq)
          clear hq
          (try have hb := undrew hb)
          (try replace RN := RN.below hb)
          (try replace RV := RV.below hb)
          (try replace RF := FR.below_ RF hb)
          replace HSF := HSF.next hb
          replace G1 := G1.below hb G1.lt
          clear HY
          have HY := cells5 G1
          replace HB0 := btr HB0 HB0.size hb
          replace HS := Nat.le_trans HS hb.size
          refine hK.out _ _ ?_ (fun hNew => ?_)
          · (first | exact HY | assumption)
          clear hK K hHeld
          have hHeld := hNew
          clear hNew
          try simp only [Act.put, pz1, pz2, pz3]
          refine wpAnyH_take (i := 12) (oi := ⟨some 23, .build 42 #[(0, .tmp 11), (1, .tmp 13), (3, .tmp 16), (4, .tmp 19), (5, .tmp 22)], 42, "ref.go:30", #[⟨0, .data⟩, ⟨2, .data⟩, ⟨5, .data⟩, ⟨8, .data⟩, ⟨11, .data⟩], none⟩) (v := ?_) rfl (by kernel_rfl) (by kernel_rfl) (by kernel_rfl) (fun _ _ _ h => h) (Or.inl ⟨by rfl, ?_⟩) (by assumption) ?_
          rotate_left
          · (intro wS hSw; (try dsimp only at hSw); go_simp; (try with_reducible rfl))
          try simp only [Act.put, pz1, pz2, pz3]
          refine wpAnyH_ready (rs := [13]) (by kernel_rfl) (by simp) ?_
          refine AllReadyH.cons (o := ⟨some 24, .box 42 (.tmp 23), 29, "ref.go:30", #[⟨12, .data⟩], none⟩) rfl (fun K hK => ?_) AllReadyH.nil
          refine wp_boxR _ rfl rfl ?_
          intro wN m BM hq hb
          have qm := Nat.le_trans HS hq
          have nm1 : m ≠ gN := Nat.ne_of_gt (Nat.lt_of_lt_of_le RN.lt hq)
          have nm2 : m ≠ gW := Nat.ne_of_gt (Nat.lt_of_lt_of_le RV.lt hq)
          have nm3 : m ≠ gD := Nat.ne_of_gt (Nat.lt_of_lt_of_le RD.lt hq)
          have nFm := FR.ne RF hq
          (try have hb := undrew hb)
          (try replace RN := RN.below hb)
          (try replace RV := RV.below hb)
          (try replace RD := RD.below hb)
          (try replace RF := FR.below_ RF hb)
          replace HSF := HSF.next hb
          replace G1 := G1.below hb G1.lt
          clear HY
          have HY := cells5 G1
          replace HB0 := btr HB0 HB0.size hb
          replace HS := Nat.le_trans HS hb.size
          refine hK.out _ _ ?_ (fun hNew => ?_)
          · (first | exact HY | assumption)
          clear hK K hHeld
          have hHeld := hNew
          clear hNew
          try simp only [Act.put, pz1, pz2, pz3]
          refine wpAnyH_take (i := 14) (oi := ⟨some 5, .assign (.tmp 24), 29, "ref.go:30", #[⟨13, .data⟩, ⟨2, .chain⟩, ⟨0, .phase⟩, ⟨1, .phase⟩, ⟨2, .phase⟩, ⟨3, .phase⟩, ⟨4, .phase⟩, ⟨5, .phase⟩, ⟨6, .phase⟩, ⟨7, .phase⟩, ⟨8, .phase⟩, ⟨9, .phase⟩, ⟨10, .phase⟩, ⟨11, .phase⟩, ⟨12, .phase⟩, ⟨13, .phase⟩], none⟩) (v := ?_) rfl (by kernel_rfl) (by kernel_rfl) (by kernel_rfl) (fun _ _ _ h => h) (Or.inl ⟨by rfl, ?_⟩) (by assumption) ?_
          rotate_left
          · (intro wS hSw; (try dsimp only at hSw); go_simp; (try with_reducible rfl))
          try simp only [Act.put, pz1, pz2, pz3]
          refine wpAnyH_done (by kernel_rfl) ?_ _
          refine NoPanic.normal ?_
          go_wp2_with fail
          go_meet
          exact ⟨m, gN, gW, gD, AF, cf, rfl, NewL.start BM RN RV RD RF ⟨nm1, nm2, nm3, (by first | exact ngNgW | exact ngWgN.symm), (by first | exact ngNgD | exact ngDgN.symm), (by first | exact ngWgD | exact ngDgW.symm)⟩ ⟨nFm, nFgN, nFgW, nFgD⟩ ⟨by omega, by omega, by omega, by omega⟩ G1 HB0 qF⟩
        · refine wp_makeI _ _ rfl a NB rfl rfl hNB (by omega) ?_
          intro wN gD RD hq hb
          have qgD := Nat.le_trans HS hq
          (try have ngNgD := Nat.ne_of_lt (Nat.lt_of_lt_of_le RN.lt hq))
          (try have ngWgD := Nat.ne_of_lt (Nat.lt_of_lt_of_le RV.lt hq))
          (try have nFgD := FR.ne RF hq)
          clear hq
          (try have hb := undrew hb)
          (try replace RN := RN.below hb)
          (try replace RV := RV.below hb)
          (try replace RF := FR.below_ RF hb)
          replace HSF := HSF.next hb
          replace G1 := G1.below hb G1.lt
          clear HY
          have HY := cells5 G1
          replace HB0 := btr HB0 HB0.size hb
          replace HS := Nat.le_trans HS hb.size
          refine hK.out _ _ ?_ (fun hNew => ?_)
          · (first | exact HY | assumption)
          clear hK K hHeld
          have hHeld := hNew
          clear hNew
          try simp only [Act.put, pz1, pz2, pz3]
          refine wpAnyH_ready (rs := [8]) (by kernel_rfl) (by simp) ?_
          refine AllReadyH.cons (o := ⟨some 19, .makeSlice 40 (.tmp 18) (.tmp 18), 40, "ref.go:30", #[⟨7, .data⟩, ⟨7, .data⟩], none⟩) rfl (fun K hK => ?_) AllReadyH.nil
          refine wp_makeI _ _ rfl a NB rfl rfl hNB (by omega) ?_
          intro wN gW RV hq hb
          have qgW := Nat.le_trans HS hq
          (try have ngNgW := Nat.ne_of_lt (Nat.lt_of_lt_of_le RN.lt hq))
          (try have ngDgW := Nat.ne_of_lt (Nat.lt_of_lt_of_le RD.lt hq))
          (try have nFgW := FR.ne RF hq)
          clear hq
          (try have hb := undrew hb)
          (try replace RN := RN.below hb)
          (try replace RD := RD.below hb)
          (try replace RF := FR.below_ RF hb)
          replace HSF := HSF.next hb
          replace G1 := G1.below hb G1.lt
          clear HY
          have HY := cells5 G1
          replace HB0 := btr HB0 HB0.size hb
          replace HS := Nat.le_trans HS hb.size
          refine hK.out _ _ ?_ (fun hNew => ?_)
          · (first | exact HY | assumption)
          clear hK K hHeld
          have hHeld := hNew
          clear hNew
          try simp only [Act.put, pz1, pz2, pz3]
          refine wpAnyH_take (i := 12) (oi := ⟨some 23, .build 42 #[(0, .tmp 11), (1, .tmp 13), (3, .tmp 16), (4, .tmp 19), (5, .tmp 22)], 42, "ref.go:30", #[⟨0, .data⟩, ⟨2, .data⟩, ⟨5, .data⟩, ⟨8, .data⟩, ⟨11, .data⟩], none⟩) (v := ?_) rfl (by kernel_rfl) (by kernel_rfl) (by kernel_rfl) (fun _ _ _ h => h) (Or.inl ⟨by rfl, ?_⟩) (by assumption) ?_
          rotate_left
          · (intro wS hSw; (try dsimp only at hSw); go_simp; (try with_reducible rfl))
          try simp only [Act.put, pz1, pz2, pz3]
          refine wpAnyH_ready (rs := [13]) (by kernel_rfl) (by simp) ?_
          refine AllReadyH.cons (o := ⟨some 24, .box 42 (.tmp 23), 29, "ref.go:30", #[⟨12, .data⟩], none⟩) rfl (fun K hK => ?_) AllReadyH.nil
          refine wp_boxR _ rfl rfl ?_
          intro wN m BM hq hb
          have qm := Nat.le_trans HS hq
          have nm1 : m ≠ gN := Nat.ne_of_gt (Nat.lt_of_lt_of_le RN.lt hq)
          have nm2 : m ≠ gW := Nat.ne_of_gt (Nat.lt_of_lt_of_le RV.lt hq)
          have nm3 : m ≠ gD := Nat.ne_of_gt (Nat.lt_of_lt_of_le RD.lt hq)
          have nFm := FR.ne RF hq
          (try have hb := undrew hb)
          (try replace RN := RN.below hb)
          (try replace RV := RV.below hb)
          (try replace RD := RD.below hb)
          (try replace RF := FR.below_ RF hb)
          replace HSF := HSF.next hb
          replace G1 := G1.below hb G1.lt
          clear HY
          have HY := cells5 G1
          replace HB0 := btr HB0 HB0.size hb
          replace HS := Nat.le_trans HS hb.size
          refine hK.out _ _ ?_ (fun hNew => ?_)
          · (first | exact HY | assumption)
          clear hK K hHeld
          have hHeld := hNew
          clear hNew
          try simp only [Act.put, pz1, pz2, pz3]
          refine wpAnyH_take (i := 14) (oi := ⟨some 5, .assign (.tmp 24), 29, "ref.go:30", #[⟨13, .data⟩, ⟨2, .chain⟩, ⟨0, .phase⟩, ⟨1, .phase⟩, ⟨2, .phase⟩, ⟨3, .phase⟩, ⟨4, .phase⟩, ⟨5, .phase⟩, ⟨6, .phase⟩, ⟨7, .phase⟩, ⟨8, .phase⟩, ⟨9, .phase⟩, ⟨10, .phase⟩, ⟨11, .phase⟩, ⟨12, .phase⟩, ⟨13, .phase⟩], none⟩) (v := ?_) rfl (by kernel_rfl) (by kernel_rfl) (by kernel_rfl) (fun _ _ _ h => h) (Or.inl ⟨by rfl, ?_⟩) (by assumption) ?_
          rotate_left
          · (intro wS hSw; (try dsimp only at hSw); go_simp; (try with_reducible rfl))
          try simp only [Act.put, pz1, pz2, pz3]
          refine wpAnyH_done (by kernel_rfl) ?_ _
          refine NoPanic.normal ?_
          go_wp2_with fail
          go_meet
          exact ⟨m, gN, gW, gD, AF, cf, rfl, NewL.start BM RN RV RD RF ⟨nm1, nm2, nm3, (by first | exact ngNgW | exact ngWgN.symm), (by first | exact ngNgD | exact ngDgN.symm), (by first | exact ngWgD | exact ngDgW.symm)⟩ ⟨nFm, nFgN, nFgW, nFgD⟩ ⟨by omega, by omega, by omega, by omega⟩ G1 HB0 qF⟩
      · refine wp_makeI _ _ rfl a NB rfl rfl hNB (by omega) ?_
        intro wN gW RV hq hb
        have qgW := Nat.le_trans HS hq
        (try have ngNgW := Nat.ne_of_lt (Nat.lt_of_lt_of_le RN.lt hq))
        (try have ngDgW := Nat.ne_of_lt (Nat.lt_of_lt_of_le RD.lt hq))
        (try have nFgW := FR.ne RF hq)
        clear hq
        (try have hb := undrew hb)
        (try replace RN := RN.below hb)
        (try replace RD := RD.below hb)
        (try replace RF := FR.below_ RF hb)
        replace HSF := HSF.next hb
        replace G1 := G1.below hb G1.lt
        clear HY
        have HY := cells5 G1
        replace HB0 := btr HB0 HB0.size hb
        replace HS := Nat.le_trans HS hb.size
        refine hK.out _ _ ?_ (fun hNew => ?_)
        · (first | exact HY | assumption)
        clear hK K hHeld
        have hHeld := hNew
        clear hNew
        try simp only [Act.put, pz1, pz2, pz3]
        refine wpAnyH_ready (rs := [5, 11]) (by kernel_rfl) (by simp) ?_
        refine (AllReadyH.cons (o := ⟨some 16, .makeSlice 40 (.tmp 15) (.tmp 15), 40, "ref.go:30", #[⟨4, .data⟩, ⟨4, .data⟩], none⟩) rfl (fun K hK => ?_) (AllReadyH.cons (o := ⟨some 22, .makeSlice 40 (.tmp 21) (.tmp 21), 40, "ref.go:30", #[⟨10, .data⟩, ⟨10, .data⟩], none⟩) rfl (fun K hK => ?_) AllReadyH.nil))
        · refine wp_makeI _ _ rfl a NB rfl rfl hNB (by omega) ?_
          intro wN gN RN hq hb
          have qgN := Nat.le_trans HS hq
          (try have ngWgN := Nat.ne_of_lt (Nat.lt_of_lt_of_le RV.lt hq))
          (try have ngDgN := Nat.ne_of_lt (Nat.lt_of_lt_of_le RD.lt hq))
          (try have nFgN := FR.ne RF hq)
          clear hq
          (try have hb := undrew hb)
          (try replace RV := RV.below hb)
          (try replace RD := RD.below hb)
          (try replace RF := FR.below_ RF hb)
          replace HSF := HSF.next hb
          replace G1 := G1.below hb G1.lt
          clear HY
          have HY := cells5 G1
          replace HB0 := btr HB0 HB0.size hb
          replace HS := Nat.le_trans HS hb.size
          refine hK.out _ _ ?_ (fun hNew => ?_)
          · (first | exact HY | assumption)
          clear hK K hHeld
          have hHeld := hNew
          clear hNew
          try simp only [Act.put, pz1, pz2, pz3]
          refine wpAnyH_ready (rs := [11]) (by kernel_rfl) (by simp) ?_
          refine AllReadyH.cons (o := ⟨some 22, .makeSlice 40 (.tmp 21) (.tmp 21), 40, "ref.go:30", #[⟨10, .data⟩, ⟨10, .data⟩], none⟩) rfl (fun K hK => ?_) AllReadyH.nil
          refine wp_makeI _ _ rfl a NB rfl rfl hNB (by omega) ?_
          intro wN gD RD hq hb
          have qgD := Nat.le_trans HS hq
          (try have ngNgD := Nat.ne_of_lt (Nat.lt_of_lt_of_le RN.lt hq))
          (try have ngWgD := Nat.ne_of_lt (Nat.lt_of_lt_of_le RV.lt hq))
          (try have nFgD := FR.ne RF hq)
          clear hq
          (try have hb := undrew hb)
          (try replace RN := RN.below hb)
          (try replace RV := RV.below hb)
          (try replace RF := FR.below_ RF hb)
          replace HSF := HSF.next hb
          replace G1 := G1.below hb G1.lt
          clear HY
          have HY := cells5 G1
          replace HB0 := btr HB0 HB0.size hb
          replace HS := Nat.le_trans HS hb.size
          refine hK.out _ _ ?_ (fun hNew => ?_)
          · (first | exact HY | assumption)
          clear hK K hHeld
          have hHeld := hNew
          clear hNew
          try simp only [Act.put, pz1, pz2, pz3]
          refine wpAnyH_take (i := 12) (oi := ⟨some 23, .build 42 #[(0, .tmp 11), (1, .tmp 13), (3, .tmp 16), (4, .tmp 19), (5, .tmp 22)], 42, "ref.go:30", #[⟨0, .data⟩, ⟨2, .data⟩, ⟨5, .data⟩, ⟨8, .data⟩, ⟨11, .data⟩], none⟩) (v := ?_) rfl (by kernel_rfl) (by kernel_rfl) (by kernel_rfl) (fun _ _ _ h => h) (Or.inl ⟨by rfl, ?_⟩) (by assumption) ?_
          rotate_left
          · (intro wS hSw; (try dsimp only at hSw); go_simp; (try with_reducible rfl))
          try simp only [Act.put, pz1, pz2, pz3]
          refine wpAnyH_ready (rs := [13]) (by kernel_rfl) (by simp) ?_
          refine AllReadyH.cons (o := ⟨some 24, .box 42 (.tmp 23), 29, "ref.go:30", #[⟨12, .data⟩], none⟩) rfl (fun K hK => ?_) AllReadyH.nil
          refine wp_boxR _ rfl rfl ?_
          intro wN m BM hq hb
          have qm := Nat.le_trans HS hq
          have nm1 : m ≠ gN := Nat.ne_of_gt (Nat.lt_of_lt_of_le RN.lt hq)
          have nm2 : m ≠ gW := Nat.ne_of_gt (Nat.lt_of_lt_of_le RV.lt hq)
          have nm3 : m ≠ gD := Nat.ne_of_gt (Nat.lt_of_lt_of_le RD.lt hq)
          have nFm := FR.ne RF hq
          (try have hb := undrew hb)
          (try replace RN := RN.below hb)
          (try replace RV := RV.below hb)
          (try replace RD := RD.below hb)
          (try replace RF := FR.below_ RF hb)
          replace HSF := HSF.next hb
          replace G1 := G1.below hb G1.lt
          clear HY
          have HY := cells5 G1
          replace HB0 := btr HB0 HB0.size hb
          replace HS := Nat.le_trans HS hb.size
          refine hK.out _ _ ?_ (fun hNew => ?_)
          · (first | exact HY | assumption)
          clear hK K hHeld
          have hHeld := hNew
          clear hNew
          try simp only [Act.put, pz1, pz2, pz3]
          refine wpAnyH_take (i := 14) (oi := ⟨some 5, .assign (.tmp 24), 29, "ref.go:30", #[⟨13, .data⟩, ⟨2, .chain⟩, ⟨0, .phase⟩, ⟨1, .phase⟩, ⟨2, .phase⟩, ⟨3, .phase⟩, ⟨4, .phase⟩, ⟨5, .phase⟩, ⟨6, .phase⟩, ⟨7, .phase⟩, ⟨8, .phase⟩, ⟨9, .phase⟩, ⟨10, .phase⟩, ⟨11, .phase⟩, ⟨12, .phase⟩, ⟨13, .phase⟩], none⟩) (v := ?_) rfl (by kernel_rfl) (by kernel_rfl) (by kernel_rfl) (fun _ _ _ h => h) (Or.inl ⟨by rfl, ?_⟩) (by assumption) ?_
          rotate_left
          · (intro wS hSw; (try dsimp only at hSw); go_simp; (try with_reducible rfl))
          try simp only [Act.put, pz1, pz2, pz3]
          refine wpAnyH_done (by kernel_rfl) ?_ _
          refine NoPanic.normal ?_
          go_wp2_with fail
          go_meet
          exact ⟨m, gN, gW, gD, AF, cf, rfl, NewL.start BM RN RV RD RF ⟨nm1, nm2, nm3, (by first | exact ngNgW | exact ngWgN.symm), (by first | exact ngNgD | exact ngDgN.symm), (by first | exact ngWgD | exact ngDgW.symm)⟩ ⟨nFm, nFgN, nFgW, nFgD⟩ ⟨by omega, by omega, by omega, by omega⟩ G1 HB0 qF⟩
        · refine wp_makeI _ _ rfl a NB rfl rfl hNB (by omega) ?_
          intro wN gD RD hq hb
          have qgD := Nat.le_trans HS hq
          (try have ngNgD := Nat.ne_of_lt (Nat.lt_of_lt_of_le RN.lt hq))
          (try have ngWgD := Nat.ne_of_lt (Nat.lt_of_lt_of_le RV.lt hq))
          (try have nFgD := FR.ne RF hq)
          clear hq
          (try have hb := undrew hb)
          (try replace RN := RN.below hb)
          (try replace RV := RV.below hb)
          (try replace RF := FR.below_ RF hb)
          replace HSF := HSF.next hb
          replace G1 := G1.below hb G1.lt
          clear HY
          have HY := cells5 G1
          replace HB0 := btr HB0 HB0.size hb
          replace HS := Nat.le_trans HS hb.size
          refine hK.out _ _ ?_ (fun hNew => ?_)
          · (first | exact HY | assumption)
          clear hK K hHeld
          have hHeld := hNew
          clear hNew
          try simp only [Act.put, pz1, pz2, pz3]
          refine wpAnyH_ready (rs := [5]) (by kernel_rfl) (by simp) ?_
          refine AllReadyH.cons (o := ⟨some 16, .makeSlice 40 (.tmp 15) (.tmp 15), 40, "ref.go:30", #[⟨4, .data⟩, ⟨4, .data⟩], none⟩) rfl (fun K hK => ?_) AllReadyH.nil
          refine wp_makeI _ _ rfl a NB rfl rfl hNB (by omega) ?_
          intro wN gN RN hq hb
          have qgN := Nat.le_trans HS hq
          (try have ngWgN := Nat.ne_of_lt (Nat.lt_of_lt_of_le RV.lt hq))
          (try have ngDgN := Nat.ne_of_lt (Nat.lt_of_lt_of_le RD.lt hq))
          (try have nFgN := FR.ne RF hq)
          clear hq
          (try have hb := undrew hb)
          (try replace RV := RV.below hb)
          (try replace RD := RD.below hb)
          (try replace RF := FR.below_ RF hb)
          replace HSF := HSF.next hb
          replace G1 := G1.below hb G1.lt
          clear HY
          have HY := cells5 G1
          replace HB0 := btr HB0 HB0.size hb
          replace HS := Nat.le_trans HS hb.size
          refine hK.out _ _ ?_ (fun hNew => ?_)
          · (first | exact HY | assumption)
          clear hK K hHeld
          have hHeld := hNew
          clear hNew
          try simp only [Act.put, pz1, pz2, pz3]
          refine wpAnyH_take (i := 12) (oi := ⟨some 23, .build 42 #[(0, .tmp 11), (1, .tmp 13), (3, .tmp 16), (4, .tmp 19), (5, .tmp 22)], 42, "ref.go:30", #[⟨0, .data⟩, ⟨2, .data⟩, ⟨5, .data⟩, ⟨8, .data⟩, ⟨11, .data⟩], none⟩) (v := ?_) rfl (by kernel_rfl) (by kernel_rfl) (by kernel_rfl) (fun _ _ _ h => h) (Or.inl ⟨by rfl, ?_⟩) (by assumption) ?_
          rotate_left
          · (intro wS hSw; (try dsimp only at hSw); go_simp; (try with_reducible rfl))
          try simp only [Act.put, pz1, pz2, pz3]
          refine wpAnyH_ready (rs := [13]) (by kernel_rfl) (by simp) ?_
          refine AllReadyH.cons (o := ⟨some 24, .box 42 (.tmp 23), 29, "ref.go:30", #[⟨12, .data⟩], none⟩) rfl (fun K hK => ?_) AllReadyH.nil
          refine wp_boxR _ rfl rfl ?_
          intro wN m BM hq hb
          have qm := Nat.le_trans HS hq
          have nm1 : m ≠ gN := Nat.ne_of_gt (Nat.lt_of_lt_of_le RN.lt hq)
          have nm2 : m ≠ gW := Nat.ne_of_gt (Nat.lt_of_lt_of_le RV.lt hq)
          have nm3 : m ≠ gD := Nat.ne_of_gt (Nat.lt_of_lt_of_le RD.lt hq)
          have nFm := FR.ne RF hq
          (try have hb := undrew hb)
          (try replace RN := RN.below hb)
          (try replace RV := RV.below hb)
          (try replace RD := RD.below hb)
          (try replace RF := FR.below_ RF hb)
          replace HSF := HSF.next hb
          replace G1 := G1.below hb G1.lt
          clear HY
          have HY := cells5 G1
          replace HB0 := btr HB0 HB0.size hb
          replace HS := Nat.le_trans HS hb.size
          refine hK.out _ _ ?_ (fun hNew => ?_)
          · (first | exact HY | assumption)
          clear hK K hHeld
          have hHeld := hNew
          clear hNew
          try simp only [Act.put, pz1, pz2, pz3]
          refine wpAnyH_take (i := 14) (oi := ⟨some 5, .assign (.tmp 24), 29, "ref.go:30", #[⟨13, .data⟩, ⟨2, .chain⟩, ⟨0, .phase⟩, ⟨1, .phase⟩, ⟨2, .phase⟩, ⟨3, .phase⟩, ⟨4, .phase⟩, ⟨5, .phase⟩, ⟨6, .phase⟩, ⟨7, .phase⟩, ⟨8, .phase⟩, ⟨9, .phase⟩, ⟨10, .phase⟩, ⟨11, .phase⟩, ⟨12, .phase⟩, ⟨13, .phase⟩], none⟩) (v := ?_) rfl (by kernel_rfl) (by kernel_rfl) (by kernel_rfl) (fun _ _ _ h => h) (Or.inl ⟨by rfl, ?_⟩) (by assumption) ?_
          rotate_left
          · (intro wS hSw; (try dsimp only at hSw); go_simp; (try with_reducible rfl))
          try simp only [Act.put, pz1, pz2, pz3]
          refine wpAnyH_done (by kernel_rfl) ?_ _
          refine NoPanic.normal ?_
          go_wp2_with fail
          go_meet
          exact ⟨m, gN, gW, gD, AF, cf, rfl, NewL.start BM RN RV RD RF ⟨nm1, nm2, nm3, (by first | exact ngNgW | exact ngWgN.symm), (by first | exact ngNgD | exact ngDgN.symm), (by first | exact ngWgD | exact ngDgW.symm)⟩ ⟨nFm, nFgN, nFgW, nFgD⟩ ⟨by omega, by omega, by omega, by omega⟩ G1 HB0 qF⟩
      · refine wp_makeI _ _ rfl a NB rfl rfl hNB (by omega) ?_
        intro wN gD RD hq hb
        have qgD := Nat.le_trans HS hq
        (try have ngNgD := Nat.ne_of_lt (Nat.lt_of_lt_of_le RN.lt hq))
        (try have ngWgD := Nat.ne_of_lt (Nat.lt_of_lt_of_le RV.lt hq))
        (try have nFgD := FR.ne RF hq)
        clear hq
        (try have hb := undrew hb)
        (try replace RN := RN.below hb)
        (try replace RV := RV.below hb)
        (try replace RF := FR.below_ RF hb)
        replace HSF := HSF.next hb
        replace G1 := G1.below hb G1.lt
        clear HY
        have HY := cells5 G1
        replace HB0 := btr HB0 HB0.size hb
        replace HS := Nat.le_trans HS hb.size
        refine hK.out _ _ ?_ (fun hNew => ?_)
        · (first | exact HY | assumption)
        clear hK K hHeld
        have hHeld := hNew
        clear hNew
        try simp only [Act.put, pz1, pz2, pz3]
        refine wpAnyH_ready (rs := [5, 8]) (by kernel_rfl) (by simp) ?_
        refine (AllReadyH.cons (o := ⟨some 16, .makeSlice 40 (.tmp 15) (.tmp 15), 40, "ref.go:30", #[⟨4, .data⟩, ⟨4, .data⟩], none⟩) rfl (fun K hK => ?_) (AllReadyH.cons (o := ⟨some 19, .makeSlice 40 (.tmp 18) (.tmp 18), 40, "ref.go:30", #[⟨7, .data⟩, ⟨7, .data⟩], none⟩) rfl (fun K hK => ?_) AllReadyH.nil))
        · refine wp_makeI _ _ rfl a NB rfl rfl hNB (by omega) ?_
          intro wN gN RN hq hb
          have qgN := Nat.le_trans HS hq
          (try have ngWgN := Nat.ne_of_lt (Nat.lt_of_lt_of_le RV.lt hq))
          (try have ngDgN := Nat.ne_of_lt (Nat.lt_of_lt_of_le RD.lt hq))
          (try have nFgN := FR.ne RF hq)
          clear hq
          (try have hb := undrew hb)
          (try replace RV := RV.below hb)
          (try replace RD := RD.below hb)
          (try replace RF := FR.below_ RF hb)
          replace HSF := HSF.next hb
          replace G1 := G1.below hb G1.lt
          clear HY
          have HY := cells5 G1
          replace HB0 := btr HB0 HB0.size hb
          replace HS := Nat.le_trans HS hb.size
          refine hK.out _ _ ?_ (fun hNew => ?_)
          · (first | exact HY | assumption)
          clear hK K hHeld
          have hHeld := hNew
          clear hNew
          try simp only [Act.put, pz1, pz2, pz3]
          refine wpAnyH_ready (rs := [8]) (by kernel_rfl) (by simp) ?_
          refine AllReadyH.cons (o := ⟨some 19, .makeSlice 40 (.tmp 18) (.tmp 18), 40, "ref.go:30", #[⟨7, .data⟩, ⟨7, .data⟩], none⟩) rfl (fun K hK => ?_) AllReadyH.nil
          refine wp_makeI _ _ rfl a NB rfl rfl hNB (by omega) ?_
          intro wN gW RV hq hb
          have qgW := Nat.le_trans HS hq
          (try have ngNgW := Nat.ne_of_lt (Nat.lt_of_lt_of_le RN.lt hq))
          (try have ngDgW := Nat.ne_of_lt (Nat.lt_of_lt_of_le RD.lt hq))
          (try have nFgW := FR.ne RF hq)
          clear hq
          (try have hb := undrew hb)
          (try replace RN := RN.below hb)
          (try replace RD := RD.below hb)
          (try replace RF := FR.below_ RF hb)
          replace HSF := HSF.next hb
          replace G1 := G1.below hb G1.lt
          clear HY
          have HY := cells5 G1
          replace HB0 := btr HB0 HB0.size hb
          replace HS := Nat.le_trans HS hb.size
          refine hK.out _ _ ?_ (fun hNew => ?_)
          · (first | exact HY | assumption)
          clear hK K hHeld
          have hHeld := hNew
          clear hNew
          try simp only [Act.put, pz1, pz2, pz3]
          refine wpAnyH_take (i := 12) (oi := ⟨some 23, .build 42 #[(0, .tmp 11), (1, .tmp 13), (3, .tmp 16), (4, .tmp 19), (5, .tmp 22)], 42, "ref.go:30", #[⟨0, .data⟩, ⟨2, .data⟩, ⟨5, .data⟩, ⟨8, .data⟩, ⟨11, .data⟩], none⟩) (v := ?_) rfl (by kernel_rfl) (by kernel_rfl) (by kernel_rfl) (fun _ _ _ h => h) (Or.inl ⟨by rfl, ?_⟩) (by assumption) ?_
          rotate_left
          · (intro wS hSw; (try dsimp only at hSw); go_simp; (try with_reducible rfl))
          try simp only [Act.put, pz1, pz2, pz3]
          refine wpAnyH_ready (rs := [13]) (by kernel_rfl) (by simp) ?_
          refine AllReadyH.cons (o := ⟨some 24, .box 42 (.tmp 23), 29, "ref.go:30", #[⟨12, .data⟩], none⟩) rfl (fun K hK => ?_) AllReadyH.nil
          refine wp_boxR _ rfl rfl ?_
          intro wN m BM hq hb
          have qm := Nat.le_trans HS hq
          have nm1 : m ≠ gN := Nat.ne_of_gt (Nat.lt_of_lt_of_le RN.lt hq)
          have nm2 : m ≠ gW := Nat.ne_of_gt (Nat.lt_of_lt_of_le RV.lt hq)
          have nm3 : m ≠ gD := Nat.ne_of_gt (Nat.lt_of_lt_of_le RD.lt hq)
          have nFm := FR.ne RF hq
          (try have hb := undrew hb)
          (try replace RN := RN.below hb)
          (try replace RV := RV.below hb)
          (try replace RD := RD.below hb)
          (try replace RF := FR.below_ RF hb)
          replace HSF := HSF.next hb
          replace G1 := G1.below hb G1.lt
          clear HY
          have HY := cells5 G1
          replace HB0 := btr HB0 HB0.size hb
          replace HS := Nat.le_trans HS hb.size
          refine hK.out _ _ ?_ (fun hNew => ?_)
          · (first | exact HY | assumption)
          clear hK K hHeld
          have hHeld := hNew
          clear hNew
          try simp only [Act.put, pz1, pz2, pz3]
          refine wpAnyH_take (i := 14) (oi := ⟨some 5, .assign (.tmp 24), 29, "ref.go:30", #[⟨13, .data⟩, ⟨2, .chain⟩, ⟨0, .phase⟩, ⟨1, .phase⟩, ⟨2, .phase⟩, ⟨3, .phase⟩, ⟨4, .phase⟩, ⟨5, .phase⟩, ⟨6, .phase⟩, ⟨7, .phase⟩, ⟨8, .phase⟩, ⟨9, .phase⟩, ⟨10, .phase⟩, ⟨11, .phase⟩, ⟨12, .phase⟩, ⟨13, .phase⟩], none⟩) (v := ?_) rfl (by kernel_rfl) (by kernel_rfl) (by kernel_rfl) (fun _ _ _ h => h) (Or.inl ⟨by rfl, ?_⟩) (by assumption) ?_
          rotate_left
          · (intro wS hSw; (try dsimp only at hSw); go_simp; (try with_reducible rfl))
          try simp only [Act.put, pz1, pz2, pz3]
          refine wpAnyH_done (by kernel_rfl) ?_ _
          refine NoPanic.normal ?_
          go_wp2_with fail
          go_meet
          exact ⟨m, gN, gW, gD, AF, cf, rfl, NewL.start BM RN RV RD RF ⟨nm1, nm2, nm3, (by first | exact ngNgW | exact ngWgN.symm), (by first | exact ngNgD | exact ngDgN.symm), (by first | exact ngWgD | exact ngDgW.symm)⟩ ⟨nFm, nFgN, nFgW, nFgD⟩ ⟨by omega, by omega, by omega, by omega⟩ G1 HB0 qF⟩
        · refine wp_makeI _ _ rfl a NB rfl rfl hNB (by omega) ?_
          intro wN gW RV hq hb
          have qgW := Nat.le_trans HS hq
          (try have ngNgW := Nat.ne_of_lt (Nat.lt_of_lt_of_le RN.lt hq))
          (try have ngDgW := Nat.ne_of_lt (Nat.lt_of_lt_of_le RD.lt hq))
          (try have nFgW := FR.ne RF hq)
          clear hq
          (try have hb := undrew hb)
          (try replace RN := RN.below hb)
          (try replace RD := RD.below hb)
          (try replace RF := FR.below_ RF hb)
          replace HSF := HSF.next hb
          replace G1 := G1.below hb G1.lt
          clear HY
          have HY := cells5 G1
          replace HB0 := btr HB0 HB0.size hb
          replace HS := Nat.le_trans HS hb.size
          refine hK.out _ _ ?_ (fun hNew => ?_)
          · (first | exact HY | assumption)
          clear hK K hHeld
          have hHeld := hNew
          clear hNew
          try simp only [Act.put, pz1, pz2, pz3]
          refine wpAnyH_ready (rs := [5]) (by kernel_rfl) (by simp) ?_
          refine AllReadyH.cons (o := ⟨some 16, .makeSlice 40 (.tmp 15) (.tmp 15), 40, "ref.go:30", #[⟨4, .data⟩, ⟨4, .data⟩], none⟩) rfl (fun K hK => ?_) AllReadyH.nil
          refine wp_makeI _ _ rfl a NB rfl rfl hNB (by omega) ?_
          intro wN gN RN hq hb
          have qgN := Nat.le_trans HS hq
          (try have ngWgN := Nat.ne_of_lt (Nat.lt_of_lt_of_le RV.lt hq))
          (try have ngDgN := Nat.ne_of_lt (Nat.lt_of_lt_of_le RD.lt hq))
          (try have nFgN := FR.ne RF hq)
          clear hq
          (try have hb := undrew hb)
          (try replace RV := RV.below hb)
          (try replace RD := RD.below hb)
          (try replace RF := FR.below_ RF hb)
          replace HSF := HSF.next hb
          replace G1 := G1.below hb G1.lt
          clear HY
          have HY := cells5 G1
          replace HB0 := btr HB0 HB0.size hb
          replace HS := Nat.le_trans HS hb.size
          refine hK.out _ _ ?_ (fun hNew => ?_)
          · (first | exact HY | assumption)
          clear hK K hHeld
          have hHeld := hNew
          clear hNew
          try simp only [Act.put, pz1, pz2, pz3]
          refine wpAnyH_take (i := 12) (oi := ⟨some 23, .build 42 #[(0, .tmp 11), (1, .tmp 13), (3, .tmp 16), (4, .tmp 19), (5, .tmp 22)], 42, "ref.go:30", #[⟨0, .data⟩, ⟨2, .data⟩, ⟨5, .data⟩, ⟨8, .data⟩, ⟨11, .data⟩], none⟩) (v := ?_) rfl (by kernel_rfl) (by kernel_rfl) (by kernel_rfl) (fun _ _ _ h => h) (Or.inl ⟨by rfl, ?_⟩) (by assumption) ?_
          rotate_left
          · (intro wS hSw; (try dsimp only at hSw); go_simp; (try with_reducible rfl))
          try simp only [Act.put, pz1, pz2, pz3]
          refine wpAnyH_ready (rs := [13]) (by kernel_rfl) (by simp) ?_
          refine AllReadyH.cons (o := ⟨some 24, .box 42 (.tmp 23), 29, "ref.go:30", #[⟨12, .data⟩], none⟩) rfl (fun K hK => ?_) AllReadyH.nil
          refine wp_boxR _ rfl rfl ?_
          intro wN m BM hq hb
          have qm := Nat.le_trans HS hq
          have nm1 : m ≠ gN := Nat.ne_of_gt (Nat.lt_of_lt_of_le RN.lt hq)
          have nm2 : m ≠ gW := Nat.ne_of_gt (Nat.lt_of_lt_of_le RV.lt hq)
          have nm3 : m ≠ gD := Nat.ne_of_gt (Nat.lt_of_lt_of_le RD.lt hq)
          have nFm := FR.ne RF hq
          (try have hb := undrew hb)
          (try replace RN := RN.below hb)
          (try replace RV := RV.below hb)
          (try replace RD := RD.below hb)
          (try replace RF := FR.below_ RF hb)
          replace HSF := HSF.next hb
          replace G1 := G1.below hb G1.lt
          clear HY
          have HY := cells5 G1
          replace HB0 := btr HB0 HB0.size hb
          replace HS := Nat.le_trans HS hb.size
          refine hK.out _ _ ?_ (fun hNew => ?_)
          · (first | exact HY | assumption)
          clear hK K hHeld
          have hHeld := hNew
          clear hNew
          try simp only [Act.put, pz1, pz2, pz3]
          refine wpAnyH_take (i := 14) (oi := ⟨some 5, .assign (.tmp 24), 29, "ref.go:30", #[⟨13, .data⟩, ⟨2, .chain⟩, ⟨0, .phase⟩, ⟨1, .phase⟩, ⟨2, .phase⟩, ⟨3, .phase⟩, ⟨4, .phase⟩, ⟨5, .phase⟩, ⟨6, .phase⟩, ⟨7, .phase⟩, ⟨8, .phase⟩, ⟨9, .phase⟩, ⟨10, .phase⟩, ⟨11, .phase⟩, ⟨12, .phase⟩, ⟨13, .phase⟩], none⟩) (v := ?_) rfl (by kernel_rfl) (by kernel_rfl) (by kernel_rfl) (fun _ _ _ h => h) (Or.inl ⟨by rfl, ?_⟩) (by assumption) ?_
          rotate_left
          · (intro wS hSw; (try dsimp only at hSw); go_simp; (try with_reducible rfl))
          try simp only [Act.put, pz1, pz2, pz3]
          refine wpAnyH_done (by kernel_rfl) ?_ _
          refine NoPanic.normal ?_
          go_wp2_with fail
          go_meet
          exact ⟨m, gN, gW, gD, AF, cf, rfl, NewL.start BM RN RV RD RF ⟨nm1, nm2, nm3, (by first | exact ngNgW | exact ngWgN.symm), (by first | exact ngNgD | exact ngDgN.symm), (by first | exact ngWgD | exact ngDgW.symm)⟩ ⟨nFm, nFgN, nFgW, nFgD⟩ ⟨by omega, by omega, by omega, by omega⟩ G1 HB0 qF⟩
    · refine wp_makeI _ _ rfl a NB rfl rfl hNB (by omega) ?_
      intro wN gN RN hq hb
      have qgN := Nat.le_trans HS hq
      (try have ngWgN := Nat.ne_of_lt (Nat.lt_of_lt_of_le RV.lt hq))
      (try have ngDgN := Nat.ne_of_lt (Nat.lt_of_lt_of_le RD.lt hq))
      (try have nFgN := FR.ne RF hq)
      clear hq
      (try have hb := undrew hb)
      (try replace RV := RV.below hb)
      (try replace RD := RD.below hb)
      (try replace RF := FR.below_ RF hb)
      replace HSF := HSF.next hb
      replace G1 := G1.below hb G1.lt
      clear HY
      have HY := cells5 G1
      replace HB0 := btr HB0 HB0.size hb
      replace HS := Nat.le_trans HS hb.size
      refine hK.out _ _ ?_ (fun hNew => ?_)
      · (first | exact HY | assumption)
      clear hK K hHeld
      have hHeld := hNew
      clear hNew
      try simp only [Act.put, pz1, pz2, pz3]
      refine wpAnyH_ready (rs := [2, 8, 11]) (by kernel_rfl) (by simp) ?_
      refine (AllReadyH.cons (o := ⟨some 13, .call { callee := .builtin .append, args := #[.const (.slice none 0 0), .tmp 12], argTypes := #[24, 24] }, 24, "ref.go:30", #[⟨1, .data⟩], none⟩) rfl (fun K hK => ?_) (AllReadyH.cons (o := ⟨some 19, .makeSlice 40 (.tmp 18) (.tmp 18), 40, "ref.go:30", #[⟨7, .data⟩, ⟨7, .data⟩], none⟩) rfl (fun K hK => ?_) (AllReadyH.cons (o := ⟨some 22, .makeSlice 40 (.tmp 21) (.tmp 21), 40, "ref.go:30", #[⟨10, .data⟩, ⟨10, .data⟩], none⟩) rfl (fun K hK => ?_) AllReadyH.nil)))
      · refine wp_appF0 _ rfl rfl fs A c0 rfl HSF hfl ?_
        intro wN AF cf RF hq hb
        have qF := FGe.le hq HS
        (try have nFgN := FNe.fresh hq RN.lt)
        (try have nFgW := FNe.fresh hq RV.lt)
        (try have nFgD := FNe.fresh hq RD.lt)
        clear hq
        (try have hb := undrew hb)
        (try replace RN := RN.below hb)
        (try replace RV := RV.below hb)
        (try replace RD := RD.below hb)
        replace HSF := HSF.next hb
        replace G1 := G1.below hb G1.lt
        clear HY
        have HY := cells5 G1
        replace HB0 := btr HB0 HB0.size hb
        replace HS := Nat.le_trans HS hb.size
        refine hK.out _ _ ?_ (fun hNew => ?_)
        · (first | exact HY | assumption)
        clear hK K hHeld
        have hHeld := hNew
        clear hNew
        try simp only [Act.put, pz1, pz2, pz3]
        refine wpAnyH_ready (rs := [8, 11]) (by kernel_rfl) (by simp) ?_
        refine (AllReadyH.cons (o := ⟨some 19, .makeSlice 40 (.tmp 18) (.tmp 18), 40, "ref.go:30", #[⟨7, .data⟩, ⟨7, .data⟩], none⟩) rfl (fun K hK => ?_) (AllReadyH.cons (o := ⟨some 22, .makeSlice 40 (.tmp 21) (.tmp 21), 40, "ref.go:30", #[⟨10, .data⟩, ⟨10, .data⟩], none⟩) rfl (fun K hK => ?_) AllReadyH.nil))
        · refine wp_makeI _ _ rfl a NB rfl rfl hNB (by omega) ?_
          intro wN gW RV hq hb
          have qgW := Nat.le_trans HS hq
          (try have ngNgW := Nat.ne_of_lt (Nat.lt_of_lt_of_le RN.lt hq))
          (try have ngDgW := Nat.ne_of_lt (Nat.lt_of_lt_of_le RD.lt hq))
          (try have nFgW := FR.ne RF hq)
          clear hq
          (try have hb := undrew hb)
          (try replace RN := RN.below hb)
          (try replace RD := RD.below hb)
          (try replace RF := FR.below_ RF hb)
          replace HSF := HSF.next hb
          replace G1 := G1.below hb G1.lt
          clear HY
          have HY := cells5 G1
          replace HB0 := btr HB0 HB0.size hb
          replace HS := Nat.le_trans HS hb.size
          refine hK.out _ _ ?_ (fun hNew => ?_)
          · (first | exact HY | assumption)
          clear hK K hHeld
          have hHeld := hNew
          clear hNew
          try simp only [Act.put, pz1, pz2, pz3]
          refine wpAnyH_ready (rs := [11]) (by kernel_rfl) (by simp) ?_
          refine AllReadyH.cons (o := ⟨some 22, .makeSlice 40 (.tmp 21) (.tmp 21), 40, "ref.go:30", #[⟨10, .data⟩, ⟨10, .data⟩], none⟩) rfl (fun K hK => ?_) AllReadyH.nil
          refine wp_makeI _ _ rfl a NB rfl rfl hNB (by omega) ?_
          intro wN gD RD hq hb
          have qgD := Nat.le_trans HS hq
          (try have ngNgD := Nat.ne_of_lt (Nat.lt_of_lt_of_le RN.lt hq))
          (try have ngWgD := Nat.ne_of_lt (Nat.lt_of_lt_of_le RV.lt hq))
          (try have nFgD := FR.ne RF hq)
          clear hq
          (try have hb := undrew hb)
          (try replace RN := RN.below hb)
          (try replace RV := RV.below hb)
          (try replace RF := FR.below_ RF hb)
          replace HSF := HSF.next hb
          replace G1 := G1.below hb G1.lt
          clear HY
          have HY := cells5 G1
          replace HB0 := btr HB0 HB0.size hb
          replace HS := Nat.le_trans HS hb.size
          refine hK.out _ _ ?_ (fun hNew => ?_)
          · (first | exact HY | assumption)
          clear hK K hHeld
          have hHeld := hNew
          clear hNew
          try simp only [Act.put, pz1, pz2, pz3]
          refine wpAnyH_take (i := 12) (oi := ⟨some 23, .build 42 #[(0, .tmp 11), (1, .tmp 13), (3, .tmp 16), (4, .tmp 19), (5, .tmp 22)], 42, "ref.go:30", #[⟨0, .data⟩, ⟨2, .data⟩, ⟨5, .data⟩, ⟨8, .data⟩, ⟨11, .data⟩], none⟩) (v := ?_) rfl (by kernel_rfl) (by kernel_rfl) (by kernel_rfl) (fun _ _ _ h => h) (Or.inl ⟨by rfl, ?_⟩) (by assumption) ?_
          rotate_left
          · (intro wS hSw; (try dsimp only at hSw); go_simp; (try with_reducible rfl))
          try simp only [Act.put, pz1, pz2, pz3]
          refine wpAnyH_ready (rs := [13]) (by kernel_rfl) (by simp) ?_
          refine AllReadyH.cons (o := ⟨some 24, .box 42 (.tmp 23), 29, "ref.go:30", #[⟨12, .data⟩], none⟩) rfl (fun K hK => ?_) AllReadyH.nil
          refine wp_boxR _ rfl rfl ?_
          intro wN m BM hq hb
          have qm := Nat.le_trans HS hq
          have nm1 : m ≠ gN := Nat.ne_of_gt (Nat.lt_of_lt_of_le RN.lt hq)
          have nm2 : m ≠ gW := Nat.ne_of_gt (Nat.lt_of_lt_of_le RV.lt hq)
          have nm3 : m ≠ gD := Nat.ne_of_gt (Nat.lt_of_lt_of_le RD.lt hq)
          have nFm := FR.ne RF hq
          (try have hb := undrew hb)
          (try replace RN := RN.below hb)
          (try replace RV := RV.below hb)
          (try replace RD := RD.below hb)
          (try replace RF := FR.below_ RF hb)
          replace HSF := HSF.next hb
          replace G1 := G1.below hb G1.lt
          clear HY
          have HY := cells5 G1
          replace HB0 := btr HB0 HB0.size hb
          replace HS := Nat.le_trans HS hb.size
          refine hK.out _ _ ?_ (fun hNew => ?_)
          · (first | exact HY | assumption)
          clear hK K hHeld
          have hHeld := hNew
          clear hNew
          try simp only [Act.put, pz1, pz2, pz3]
          refine wpAnyH_take (i := 14) (oi := ⟨some 5, .assign (.tmp 24), 29, "ref.go:30", #[⟨13, .data⟩, ⟨2, .chain⟩, ⟨0, .phase⟩, ⟨1, .phase⟩, ⟨2, .phase⟩, ⟨3, .phase⟩, ⟨4, .phase⟩, ⟨5, .phase⟩, ⟨6, .phase⟩, ⟨7, .phase⟩, ⟨8, .phase⟩, ⟨9, .phase⟩, ⟨10, .phase⟩, ⟨11, .phase⟩, ⟨12, .phase⟩, ⟨13, .phase⟩], none⟩) (v := ?_) rfl (by kernel_rfl) (by kernel_rfl) (by kernel_rfl) (fun _ _ _ h => h) (Or.inl ⟨by rfl, ?_⟩) (by assumption) ?_
          rotate_left
          · (intro wS hSw; (try dsimp only at hSw); go_simp; (try with_reducible rfl))
          try simp only [Act.put, pz1, pz2, pz3]
          refine wpAnyH_done (by kernel_rfl) ?_ _
          refine NoPanic.normal ?_
          go_wp2_with fail
          go_meet
          exact ⟨m, gN, gW, gD, AF, cf, rfl, NewL.start BM RN RV RD RF ⟨nm1, nm2, nm3, (by first | exact ngNgW | exact ngWgN.symm), (by first | exact ngNgD | exact ngDgN.symm), (by first | exact ngWgD | exact ngDgW.symm)⟩ ⟨nFm, nFgN, nFgW, nFgD⟩ ⟨by omega, by omega, by omega, by omega⟩ G1 HB0 qF⟩
        · refine wp_makeI _ _ rfl a NB rfl rfl hNB (by omega) ?_
          intro wN gD RD hq hb
          have qgD := Nat.le_trans HS hq
          (try have ngNgD := Nat.ne_of_lt (Nat.lt_of_lt_of_le RN.lt hq))
          (try have ngWgD := Nat.ne_of_lt (Nat.lt_of_lt_of_le RV.lt hq))
          (try have nFgD := FR.ne RF hq)
          clear hq
          (try have hb := undrew hb)
          (try replace RN := RN.below hb)
          (try replace RV := RV.below hb)
          (try replace RF := FR.below_ RF hb)
          replace HSF := HSF.next hb
          replace G1 := G1.below hb G1.lt
          clear HY
          have HY := cells5 G1
          replace HB0 := btr HB0 HB0.size hb
          replace HS := Nat.le_trans HS hb.size
          refine hK.out _ _ ?_ (fun hNew => ?_)
          · (first | exact HY | assumption)
          clear hK K hHeld
          have hHeld := hNew
          clear hNew
          try simp only [Act.put, pz1, pz2, pz3]
          refine wpAnyH_ready (rs := [8]) (by kernel_rfl) (by simp) ?_
          refine AllReadyH.cons (o := ⟨some 19, .makeSlice 40 (.tmp 18) (.tmp 18), 40, "ref.go:30", #[⟨7, .data⟩, ⟨7, .data⟩], none⟩) rfl (fun K hK => ?_) AllReadyH.nil
          refine wp_makeI _ _ rfl a NB rfl rfl hNB (by omega) ?_
          intro wN gW RV hq hb
          have qgW := Nat.le_trans HS hq
          (try have ngNgW := Nat.ne_of_lt (Nat.lt_of_lt_of_le RN.lt hq))
          (try have ngDgW := Nat.ne_of_lt (Nat.lt_of_lt_of_le RD.lt hq))
          (try have nFgW := FR.ne RF hq)
          clear hq
          (try have hb := undrew hb)
          (try replace RN := RN.below hb)
          (try replace RD := RD.below hb)
          (try replace RF := FR.below_ RF hb)
          replace HSF := HSF.next hb
          replace G1 := G1.below hb G1.lt
          clear HY
          have HY := cells5 G1
          replace HB0 := btr HB0 HB0.size hb
          replace HS := Nat.le_trans HS hb.size
          refine hK.out _ _ ?_ (fun hNew => ?_)
          · (first | exact HY | assumption)
          clear hK K hHeld
          have hHeld := hNew
          clear hNew
          try simp only [Act.put, pz1, pz2, pz3]
          refine wpAnyH_take (i := 12) (oi := ⟨some 23, .build 42 #[(0, .tmp 11), (1, .tmp 13), (3, .tmp 16), (4, .tmp 19), (5, .tmp 22)], 42, "ref.go:30", #[⟨0, .data⟩, ⟨2, .data⟩, ⟨5, .data⟩, ⟨8, .data⟩, ⟨11, .data⟩], none⟩) (v := ?_) rfl (by kernel_rfl) (by kernel_rfl) (by kernel_rfl) (fun _ _ _ h => h) (Or.inl ⟨by rfl, ?_⟩) (by assumption) ?_
          rotate_left
          · (intro wS hSw; (try dsimp only at hSw); go_simp; (try with_reducible rfl))
          try simp only [Act.put, pz1, pz2, pz3]
          refine wpAnyH_ready (rs := [13]) (by kernel_rfl) (by simp) ?_
          refine AllReadyH.cons (o := ⟨some 24, .box 42 (.tmp 23), 29, "ref.go:30", #[⟨12, .data⟩], none⟩) rfl (fun K hK => ?_) AllReadyH.nil
          refine wp_boxR _ rfl rfl ?_
          intro wN m BM hq hb
          have qm := Nat.le_trans HS hq
          have nm1 : m ≠ gN := Nat.ne_of_gt (Nat.lt_of_lt_of_le RN.lt hq)
          have nm2 : m ≠ gW := Nat.ne_of_gt (Nat.lt_of_lt_of_le RV.lt hq)
          have nm3 : m ≠ gD := Nat.ne_of_gt (Nat.lt_of_lt_of_le RD.lt hq)
          have nFm := FR.ne RF hq
          (try have hb := undrew hb)
          (try replace RN := RN.below hb)
          (try replace RV := RV.below hb)
          (try replace RD := RD.below hb)
          (try replace RF := FR.below_ RF hb)
          replace HSF := HSF.next hb
          replace G1 := G1.below hb G1.lt
          clear HY
          have HY := cells5 G1
          replace HB0 := btr HB0 HB0.size hb
          replace HS := Nat.le_trans HS hb.size
          refine hK.out _ _ ?_ (fun hNew => ?_)
          · (first | exact HY | assumption)
          clear hK K hHeld
          have hHeld := hNew
          clear hNew
          try simp only [Act.put, pz1, pz2, pz3]
          refine wpAnyH_take (i := 14) (oi := ⟨some 5, .assign (.tmp 24), 29, "ref.go:30", #[⟨13, .data⟩, ⟨2, .chain⟩, ⟨0, .phase⟩, ⟨1, .phase⟩, ⟨2, .phase⟩, ⟨3, .phase⟩, ⟨4, .phase⟩, ⟨5, .phase⟩, ⟨6, .phase⟩, ⟨7, .phase⟩, ⟨8, .phase⟩, ⟨9, .phase⟩, ⟨10, .phase⟩, ⟨11, .phase⟩, ⟨12, .phase⟩, ⟨13, .phase⟩], none⟩) (v := ?_) rfl (by kernel_rfl) (by kernel_rfl) (by kernel_rfl) (fun _ _ _ h => h) (Or.inl ⟨by rfl, ?_⟩) (by assumption) ?_
          rotate_left
          · (intro wS hSw; (try dsimp only at hSw); go_simp; (try with_reducible rfl))
          try simp only [Act.put, pz1, pz2, pz3]
          refine wpAnyH_done (by kernel_rfl) ?_ _
          refine NoPanic.normal ?_
          go_wp2_with fail
          go_meet
          exact ⟨m, gN, gW, gD, AF, cf, rfl, NewL.start BM RN RV RD RF ⟨nm1, nm2, nm3, (by first | exact ngNgW | exact ngWgN.symm), (by first | exact ngNgD | exact ngDgN.symm), (by first | exact ngWgD | exact ngDgW.symm)⟩ ⟨nFm, nFgN, nFgW, nFgD⟩ ⟨by omega, by omega, by omega, by omega⟩ G1 HB0 qF⟩
      · refine wp_makeI _ _ rfl a NB rfl rfl hNB (by omega) ?_
        intro wN gW RV hq hb
        have qgW := Nat.le_trans HS hq
        (try have ngNgW := Nat.ne_of_lt (Nat.lt_of_lt_of_le RN.lt hq))
        (try have ngDgW := Nat.ne_of_lt (Nat.lt_of_lt_of_le RD.lt hq))
        (try have nFgW := FR.ne RF hq)
        clear hq
        (try have hb := undrew hb)
        (try replace RN := RN.below hb)
        (try replace RD := RD.below hb)
        (try replace RF := FR.below_ RF hb)
        replace HSF := HSF.next hb
        replace G1 := G1.below hb G1.lt
        clear HY
        have HY := cells5 G1
        replace HB0 := btr HB0 HB0.size hb
        replace HS := Nat.le_trans HS hb.size
        refine hK.out _ _ ?_ (fun hNew => ?_)
        · (first | exact HY | assumption)
        clear hK K hHeld
        have hHeld := hNew
        clear hNew
        try simp only [Act.put, pz1, pz2, pz3]
        refine wpAnyH_ready (rs := [2, 11]) (by kernel_rfl) (by simp) ?_
        refine (AllReadyH.cons (o := ⟨some 13, .call { callee := .builtin .append, args := #[.const (.slice none 0 0), .tmp 12], argTypes := #[24, 24] }, 24, "ref.go:30", #[⟨1, .data⟩], none⟩) rfl (fun K hK => ?_) (AllReadyH.cons (o := ⟨some 22, .makeSlice 40 (.tmp 21) (.tmp 21), 40, "ref.go:30", #[⟨10, .data⟩, ⟨10, .data⟩], none⟩) rfl (fun K hK => ?_) AllReadyH.nil))
        · refine wp_appF0 _ rfl rfl fs A c0 rfl HSF hfl ?_
          intro wN AF cf RF hq hb
          have qF := FGe.le hq HS
          (try have nFgN := FNe.fresh hq RN.lt)
          (try have nFgW := FNe.fresh hq RV.lt)
          (try have nFgD := FNe.fresh hq RD.lt)
          clear hq
          (try have hb := undrew hb)
          (try replace RN := RN.below hb)
          (try replace RV := RV.below hb)
          (try replace RD := RD.below hb)
          replace HSF := HSF.next hb
          replace G1 := G1.below hb G1.lt
          clear HY
          have HY := cells5 G1
          replace HB0 := btr HB0 HB0.size hb
          replace HS := Nat.le_trans HS hb.size
          refine hK.out _ _ ?_ (fun hNew => ?_)
          · (first | exact HY | assumption)
          clear hK K hHeld
          have hHeld := hNew
          clear hNew
          try simp only [Act.put, pz1, pz2, pz3]
          refine wpAnyH_ready (rs := [11]) (by kernel_rfl) (by simp) ?_
          refine AllReadyH.cons (o := ⟨some 22, .makeSlice 40 (.tmp 21) (.tmp 21), 40, "ref.go:30", #[⟨10, .data⟩, ⟨10, .data⟩], none⟩) rfl (fun K hK => ?_) AllReadyH.nil
          refine wp_makeI _ _ rfl a NB rfl rfl hNB (by omega) ?_
          intro wN gD RD hq hb
          have qgD := Nat.le_trans HS hq
          (try have ngNgD := Nat.ne_of_lt (Nat.lt_of_lt_of_le RN.lt hq))
          (try have ngWgD := Nat.ne_of_lt (Nat.lt_of_lt_of_le RV.lt hq))
          (try have nFgD := FR.ne RF hq)
          clear hq
          (try have hb := undrew hb)
          (try replace RN := RN.below hb)
          (try replace RV := RV.below hb)
          (try replace RF := FR.below_ RF hb)
          replace HSF := HSF.next hb
          replace G1 := G1.below hb G1.lt
          clear HY
          have HY := cells5 G1
          replace HB0 := btr HB0 HB0.size hb
          replace HS := Nat.le_trans HS hb.size
          refine hK.out _ _ ?_ (fun hNew => ?_)
          · (first | exact HY | assumption)
          clear hK K hHeld
          have hHeld := hNew
          clear hNew
          try simp only [Act.put, pz1, pz2, pz3]
          refine wpAnyH_take (i := 12) (oi := ⟨some 23, .build 42 #[(0, .tmp 11), (1, .tmp 13), (3, .tmp 16), (4, .tmp 19), (5, .tmp 22)], 42, "ref.go:30", #[⟨0, .data⟩, ⟨2, .data⟩, ⟨5, .data⟩, ⟨8, .data⟩, ⟨11, .data⟩], none⟩) (v := ?_) rfl (by kernel_rfl) (by kernel_rfl) (by kernel_rfl) (fun _ _ _ h => h) (Or.inl ⟨by rfl, ?_⟩) (by assumption) ?_
          rotate_left
          · (intro wS hSw; (try dsimp only at hSw); go_simp; (try with_reducible rfl))
          try simp only [Act.put, pz1, pz2, pz3]
          refine wpAnyH_ready (rs := [13]) (by kernel_rfl) (by simp) ?_
          refine AllReadyH.cons (o := ⟨some 24, .box 42 (.tmp 23), 29, "ref.go:30", #[⟨12, .data⟩], none⟩) rfl (fun K hK => ?_) AllReadyH.nil
          refine wp_boxR _ rfl rfl ?_
          intro wN m BM hq hb
          have qm := Nat.le_trans HS hq
          have nm1 : m ≠ gN := Nat.ne_of_gt (Nat.lt_of_lt_of_le RN.lt hq)
          have nm2 : m ≠ gW := Nat.ne_of_gt (Nat.lt_of_lt_of_le RV.lt hq)
          have nm3 : m ≠ gD := Nat.ne_of_gt (Nat.lt_of_lt_of_le RD.lt hq)
          have nFm := FR.ne RF hq
          (try have hb := undrew hb)
          (try replace RN := RN.below hb)
          (try replace RV := RV.below hb)
          (try replace RD := RD.below hb)
          (try replace RF := FR.below_ RF hb)
          replace HSF := HSF.next hb
          replace G1 := G1.below hb G1.lt
          clear HY
          have HY := cells5 G1
          replace HB0 := btr HB0 HB0.size hb
          replace HS := Nat.le_trans HS hb.size
          refine hK.out _ _ ?_ (fun hNew => ?_)
          · (first | exact HY | assumption)
          clear hK K hHeld
          have hHeld := hNew
          clear hNew
          try simp only [Act.put, pz1, pz2, pz3]
          refine wpAnyH_take (i := 14) (oi := ⟨some 5, .assign (.tmp 24), 29, "ref.go:30", #[⟨13, .data⟩, ⟨2, .chain⟩, ⟨0, .phase⟩, ⟨1, .phase⟩, ⟨2, .phase⟩, ⟨3, .phase⟩, ⟨4, .phase⟩, ⟨5, .phase⟩, ⟨6, .phase⟩, ⟨7, .phase⟩, ⟨8, .phase⟩, ⟨9, .phase⟩, ⟨10, .phase⟩, ⟨11, .phase⟩, ⟨12, .phase⟩, ⟨13, .phase⟩], none⟩) (v := ?_) rfl (by kernel_rfl) (by kernel_rfl) (by kernel_rfl) (fun _ _ _ h => h) (Or.inl ⟨by rfl, ?_⟩) (by assumption) ?_
          rotate_left
          · (intro wS hSw; (try dsimp only at hSw); go_simp; (try with_reducible rfl))
          try simp only [Act.put, pz1, pz2, pz3]
          refine wpAnyH_done (by kernel_rfl) ?_ _
          refine NoPanic.normal ?_
          go_wp2_with fail
          go_meet
          exact ⟨m, gN, gW, gD, AF, cf, rfl, NewL.start BM RN RV RD RF ⟨nm1, nm2, nm3, (by first | exact ngNgW | exact ngWgN.symm), (by first | exact ngNgD | exact ngDgN.symm), (by first | exact ngWgD | exact ngDgW.symm)⟩ ⟨nFm, nFgN, nFgW, nFgD⟩ ⟨by omega, by omega, by omega, by omega⟩ G1 HB0 qF⟩
        · refine wp_makeI _ _ rfl a NB rfl rfl hNB (by omega) ?_
          intro wN gD RD hq hb
          have qgD := Nat.le_trans HS hq
          (try have ngNgD := Nat.ne_of_lt (Nat.lt_of_lt_of_le RN.lt hq))
          (try have ngWgD := Nat.ne_of_lt (Nat.lt_of_lt_of_le RV.lt hq))
          (try have nFgD := FR.ne RF hq)
          clear hq
          (try have hb := undrew hb)
          (try replace RN := RN.below hb)
          (try replace RV := RV.below hb)
          (try replace RF := FR.below_ RF hb)
          replace HSF := HSF.next hb
          replace G1 := G1.below hb G1.lt
          clear HY
          have HY := cells5 G1
          replace HB0 := btr HB0 HB0.size hb
          replace HS := Nat.le_trans HS hb.size
          refine hK.out _ _ ?_ (fun hNew => ?_)
          · (first | exact HY | assumption)
          clear hK K hHeld
          have hHeld := hNew
          clear hNew
          try simp only [Act.put, pz1, pz2, pz3]
          refine wpAnyH_ready (rs := [2]) (by kernel_rfl) (by simp) ?_
          refine AllReadyH.cons (o := ⟨some 13, .call { callee := .builtin .append, args := #[.const (.slice none 0 0), .tmp 12], argTypes := #[24, 24] }, 24, "ref.go:30", #[⟨1, .data⟩], none⟩) rfl (fun K hK => ?_) AllReadyH.nil
          refine wp_appF0 _ rfl rfl fs A c0 rfl HSF hfl ?_
          intro wN AF cf RF hq hb
          have qF := FGe.le hq HS
          (try have nFgN := FNe.fresh hq RN.lt)
          (try have nFgW := FNe.fresh hq RV.lt)
          (try have nFgD := FNe.fresh hq RD.lt)
          clear hq
          (try have hb := undrew hb)
          (try replace RN := RN.below hb)
          (try replace RV := RV.below hb)
          (try replace RD := RD.below hb)
          replace HSF := HSF.next hb
          replace G1 := G1.below hb G1.lt
          clear HY
          have HY := cells5 G1
          replace HB0 := btr HB0 HB0.size hb
          replace HS := Nat.le_trans HS hb.size
          refine hK.out _ _ ?_ (fun hNew => ?_)
          · (first | exact HY | assumption)
          clear hK K hHeld
          have hHeld := hNew
          clear hNew
          try simp only [Act.put, pz1, pz2, pz3]
          refine wpAnyH_take (i := 12) (oi := ⟨some 23, .build 42 #[(0, .tmp 11), (1, .tmp 13), (3, .tmp 16), (4, .tmp 19), (5, .tmp 22)], 42, "ref.go:30", #[⟨0, .data⟩, ⟨2, .data⟩, ⟨5, .data⟩, ⟨8, .data⟩, ⟨11, .data⟩], none⟩) (v := ?_) rfl (by kernel_rfl) (by kernel_rfl) (by kernel_rfl) (fun _ _ _ h => h) (Or.inl ⟨by rfl, ?_⟩) (by assumption) ?_
          rotate_left
          · (intro wS hSw; (try dsimp only at hSw); go_simp; (try with_reducible rfl))
          try simp only [Act.put, pz1, pz2, pz3]
          refine wpAnyH_ready (rs := [13]) (by kernel_rfl) (by simp) ?_
          refine AllReadyH.cons (o := ⟨some 24, .box 42 (.tmp 23), 29, "ref.go:30", #[⟨12, .data⟩], none⟩) rfl (fun K hK => ?_) AllReadyH.nil
          refine wp_boxR _ rfl rfl ?_
          intro wN m BM hq hb
          have qm := Nat.le_trans HS hq
          have nm1 : m ≠ gN := Nat.ne_of_gt (Nat.lt_of_lt_of_le RN.lt hq)
          have nm2 : m ≠ gW := Nat.ne_of_gt (Nat.lt_of_lt_of_le RV.lt hq)
          have nm3 : m ≠ gD := Nat.ne_of_gt (Nat.lt_of_lt_of_le RD.lt hq)
          have nFm := FR.ne RF hq
          (try have hb := undrew hb)
          (try replace RN := RN.below hb)
          (try replace RV := RV.below hb)
          (try replace RD := RD.below hb)
          (try replace RF := FR.below_ RF hb)
          replace HSF := HSF.next hb
          replace G1 := G1.below hb G1.lt
          clear HY
          have HY := cells5 G1
          replace HB0 := btr HB0 HB0.size hb
          replace HS := Nat.le_trans HS hb.size
          refine hK.out _ _ ?_ (fun hNew => ?_)
          · (first | exact HY | assumption)
          clear hK K hHeld
          have hHeld := hNew
          clear hNew
          try simp only [Act.put, pz1, pz2, pz3]
          refine wpAnyH_take (i := 14) (oi := ⟨some 5, .assign (.tmp 24), 29, "ref.go:30", #[⟨13, .data⟩, ⟨2, .chain⟩, ⟨0, .phase⟩, ⟨1, .phase⟩, ⟨2, .phase⟩, ⟨3, .phase⟩, ⟨4, .phase⟩, ⟨5, .phase⟩, ⟨6, .phase⟩, ⟨7, .phase⟩, ⟨8, .phase⟩, ⟨9, .phase⟩, ⟨10, .phase⟩, ⟨11, .phase⟩, ⟨12, .phase⟩, ⟨13, .phase⟩], none⟩) (v := ?_) rfl (by kernel_rfl) (by kernel_rfl) (by kernel_rfl) (fun _ _ _ h => h) (Or.inl ⟨by rfl, ?_⟩) (by assumption) ?_
          rotate_left
          · (intro wS hSw; (try dsimp only at hSw); go_simp; (try with_reducible rfl))
          try simp only [Act.put, pz1, pz2, pz3]
          refine wpAnyH_done (by kernel_rfl) ?_ _
          refine NoPanic.normal ?_
          go_wp2_with fail
          go_meet
          exact ⟨m, gN, gW, gD, AF, cf, rfl, NewL.start BM RN RV RD RF ⟨nm1, nm2, nm3, (by first | exact ngNgW | exact ngWgN.symm), (by first | exact ngNgD | exact ngDgN.symm), (by first | exact ngWgD | exact ngDgW.symm)⟩ ⟨nFm, nFgN, nFgW, nFgD⟩ ⟨by omega, by omega, by omega, by omega⟩ G1 HB0 qF⟩
      · refine wp_makeI _ _ rfl a NB rfl rfl hNB (by omega) ?_
        intro wN gD RD hq hb
        have qgD := Nat.le_trans HS hq
        (try have ngNgD := Nat.ne_of_lt (Nat.lt_of_lt_of_le RN.lt hq))
        (try have ngWgD := Nat.ne_of_lt (Nat.lt_of_lt_of_le RV.lt hq))
        (try have nFgD := FR.ne RF hq)
        clear hq
        (try have hb := undrew hb)
        (try replace RN := RN.below hb)
        (try replace RV := RV.below hb)
        (try replace RF := FR.below_ RF hb)
        replace HSF := HSF.next hb
        replace G1 := G1.below hb G1.lt
        clear HY
        have HY := cells5 G1
        replace HB0 := btr HB0 HB0.size hb
        replace HS := Nat.le_trans HS hb.size
        refine hK.out _ _ ?_ (fun hNew => ?_)
        · (first | exact HY | assumption)
        clear hK K hHeld
        have hHeld := hNew
        clear hNew
        try simp only [Act.put, pz1, pz2, pz3]
        refine wpAnyH_ready (rs := [2, 8]) (by kernel_rfl) (by simp) ?_
        refine (AllReadyH.cons (o := ⟨some 13, .call { callee := .builtin .append, args := #[.const (.slice none 0 0), .tmp 12], argTypes := #[24, 24] }, 24, "ref.go:30", #[⟨1, .data⟩], none⟩) rfl (fun K hK => ?_) (AllReadyH.cons (o := ⟨some 19, .makeSlice 40 (.tmp 18) (.tmp 18), 40, "ref.go:30", #[⟨7, .data⟩, ⟨7, .data⟩], none⟩) rfl (fun K hK => ?_) AllReadyH.nil))
        · refine wp_appF0 _ rfl rfl fs A c0 rfl HSF hfl ?_
          intro wN AF cf RF hq hb
          have qF := FGe.le hq HS
          (try have nFgN := FNe.fresh hq RN.lt)
          (try have nFgW := FNe.fresh hq RV.lt)
          (try have nFgD := FNe.fresh hq RD.lt)
          clear hq
          (try have hb := undrew hb)
          (try replace RN := RN.below hb)
          (try replace RV := RV.below hb)
          (try replace RD := RD.below hb)
          replace HSF := HSF.next hb
          replace G1 := G1.below hb G1.lt
          clear HY
          have HY := cells5 G1
          replace HB0 := btr HB0 HB0.size hb
          replace HS := Nat.le_trans HS hb.size
          refine hK.out _ _ ?_ (fun hNew => ?_)
          · (first | exact HY | assumption)
          clear hK K hHeld
          have hHeld := hNew
          clear hNew
          try simp only [Act.put, pz1, pz2, pz3]
          refine wpAnyH_ready (rs := [8]) (by kernel_rfl) (by simp) ?_
          refine AllReadyH.cons (o := ⟨some 19, .makeSlice 40 (.tmp 18) (.tmp 18), 40, "ref.go:30", #[⟨7, .data⟩, ⟨7, .data⟩], none⟩) rfl (fun K hK => ?_) AllReadyH.nil
          refine wp_makeI _ _ rfl a NB rfl rfl hNB (by omega) ?_
          intro wN gW RV hq hb
          have qgW := Nat.le_trans HS hq
          (try have ngNgW := Nat.ne_of_lt (Nat.lt_of_lt_of_le RN.lt hq))
          (try have ngDgW := Nat.ne_of_lt (Nat.lt_of_lt_of_le RD.lt hq))
          (try have nFgW := FR.ne RF hq)
          clear hq
          (try have hb := undrew hb)
          (try replace RN := RN.below hb)
          (try replace RD := RD.below hb)
          (try replace RF := FR.below_ RF hb)
          replace HSF := HSF.next hb
          replace G1 := G1.below hb G1.lt
          clear HY
          have HY := cells5 G1
          replace HB0 := btr HB0 HB0.size hb
          replace HS := Nat.le_trans HS hb.size
          refine hK.out _ _ ?_ (fun hNew => ?_)
          · (first | exact HY | assumption)
          clear hK K hHeld
          have hHeld := hNew
          clear hNew
          try simp only [Act.put, pz1, pz2, pz3]
          refine wpAnyH_take (i := 12) (oi := ⟨some 23, .build 42 #[(0, .tmp 11), (1, .tmp 13), (3, .tmp 16), (4, .tmp 19), (5, .tmp 22)], 42, "ref.go:30", #[⟨0, .data⟩, ⟨2, .data⟩, ⟨5, .data⟩, ⟨8, .data⟩, ⟨11, .data⟩], none⟩) (v := ?_) rfl (by kernel_rfl) (by kernel_rfl) (by kernel_rfl) (fun _ _ _ h => h) (Or.inl ⟨by rfl, ?_⟩) (by assumption) ?_
          rotate_left
          · (intro wS hSw; (try dsimp only at hSw); go_simp; (try with_reducible rfl))
          try simp only [Act.put, pz1, pz2, pz3]
          refine wpAnyH_ready (rs := [13]) (by kernel_rfl) (by simp) ?_
          refine AllReadyH.cons (o := ⟨some 24, .box 42 (.tmp 23), 29, "ref.go:30", #[⟨12, .data⟩], none⟩) rfl (fun K hK => ?_) AllReadyH.nil
          refine wp_boxR _ rfl rfl ?_
          intro wN m BM hq hb
          have qm := Nat.le_trans HS hq
          have nm1 : m ≠ gN := Nat.ne_of_gt (Nat.lt_of_lt_of_le RN.lt hq)
          have nm2 : m ≠ gW := Nat.ne_of_gt (Nat.lt_of_lt_of_le RV.lt hq)
          have nm3 : m ≠ gD := Nat.ne_of_gt (Nat.lt_of_lt_of_le RD.lt hq)
          have nFm := FR.ne RF hq
          (try have hb := undrew hb)
          (try replace RN := RN.below hb)
          (try replace RV := RV.below hb)
          (try replace RD := RD.below hb)
          (try replace RF := FR.below_ RF hb)
          replace HSF := HSF.next hb
          replace G1 := G1.below hb G1.lt
          clear HY
          have HY := cells5 G1
          replace HB0 := btr HB0 HB0.size hb
          replace HS := Nat.le_trans HS hb.size
          refine hK.out _ _ ?_ (fun hNew => ?_)
          · (first | exact HY | assumption)
          clear hK K hHeld
          have hHeld := hNew
          clear hNew
          try simp only [Act.put, pz1, pz2, pz3]
          refine wpAnyH_take (i := 14) (oi := ⟨some 5, .assign (.tmp 24), 29, "ref.go:30", #[⟨13, .data⟩, ⟨2, .chain⟩, ⟨0, .phase⟩, ⟨1, .phase⟩, ⟨2, .phase⟩, ⟨3, .phase⟩, ⟨4, .phase⟩, ⟨5, .phase⟩, ⟨6, .phase⟩, ⟨7, .phase⟩, ⟨8, .phase⟩, ⟨9, .phase⟩, ⟨10, .phase⟩, ⟨11, .phase⟩, ⟨12, .phase⟩, ⟨13, .phase⟩], none⟩) (v := ?_) rfl (by kernel_rfl) (by kernel_rfl) (by kernel_rfl) (fun _ _ _ h => h) (Or.inl ⟨by rfl, ?_⟩) (by assumption) ?_
          rotate_left
          · (intro wS hSw; (try dsimp only at hSw); go_simp; (try with_reducible rfl))
          try simp only [Act.put, pz1, pz2, pz3]
          refine wpAnyH_done (by kernel_rfl) ?_ _
          refine NoPanic.normal ?_
          go_wp2_with fail
          go_meet
          exact ⟨m, gN, gW, gD, AF, cf, rfl, NewL.start BM RN RV RD RF ⟨nm1, nm2, nm3, (by first | exact ngNgW | exact ngWgN.symm), (by first | exact ngNgD | exact ngDgN.symm), (by first | exact ngWgD | exact ngDgW.symm)⟩ ⟨nFm, nFgN, nFgW, nFgD⟩ ⟨by omega, by omega, by omega, by omega⟩ G1 HB0 qF⟩
        · refine wp_makeI _ _ rfl a NB rfl rfl hNB (by omega) ?_
          intro wN gW RV hq hb
          have qgW := Nat.le_trans HS hq
          (try have ngNgW := Nat.ne_of_lt (Nat.lt_of_lt_of_le RN.lt hq))
          (try have ngDgW := Nat.ne_of_lt (Nat.lt_of_lt_of_le RD.lt hq))
          (try have nFgW := FR.ne RF hq)
          clear hq
          (try have hb := undrew hb)
          (try replace RN := RN.below hb)
          (try replace RD := RD.below hb)
          (try replace RF := FR.below_ RF hb)
          replace HSF := HSF.next hb
          replace G1 := G1.below hb G1.lt
          clear HY
          have HY := cells5 G1
          replace HB0 := btr HB0 HB0.size hb
          replace HS := Nat.le_trans HS hb.size
          refine hK.out _ _ ?_ (fun hNew => ?_)
          · (first | exact HY | assumption)
          clear hK K hHeld
          have hHeld := hNew
          clear hNew
          try simp only [Act.put, pz1, pz2, pz3]
          refine wpAnyH_ready (rs := [2]) (by kernel_rfl) (by simp) ?_
          refine AllReadyH.cons (o := ⟨some 13, .call { callee := .builtin .append, args := #[.const (.slice none 0 0), .tmp 12], argTypes := #[24, 24] }, 24, "ref.go:30", #[⟨1, .data⟩], none⟩) rfl (fun K hK => ?_) AllReadyH.nil
          refine wp_appF0 _ rfl rfl fs A c0 rfl HSF hfl ?_
          intro wN AF cf RF hq hb
          have qF := FGe.le hq HS
          (try have nFgN := FNe.fresh hq RN.lt)
          (try have nFgW := FNe.fresh hq RV.lt)
          (try have nFgD := FNe.fresh hq RD.lt)
          clear hq
          (try have hb := undrew hb)
          (try replace RN := RN.below hb)
          (try replace RV := RV.below hb)
          (try replace RD := RD.below hb)
          replace HSF := HSF.next hb
          replace G1 := G1.below hb G1.lt
          clear HY
          have HY := cells5 G1
          replace HB0 := btr HB0 HB0.size hb
          replace HS := Nat.le_trans HS hb.size
          refine hK.out _ _ ?_ (fun hNew => ?_)
          · (first | exact HY | assumption)
          clear hK K hHeld
          have hHeld := hNew
          clear hNew
          try simp only [Act.put, pz1, pz2, pz3]
          refine wpAnyH_take (i := 12) (oi := ⟨some 23, .build 42 #[(0, .tmp 11), (1, .tmp 13), (3, .tmp 16), (4, .tmp 19), (5, .tmp 22)], 42, "ref.go:30", #[⟨0, .data⟩, ⟨2, .data⟩, ⟨5, .data⟩, ⟨8, .data⟩, ⟨11, .data⟩], none⟩) (v := ?_) rfl (by kernel_rfl) (by kernel_rfl) (by kernel_rfl) (fun _ _ _ h => h) (Or.inl ⟨by rfl, ?_⟩) (by assumption) ?_
          rotate_left
          · (intro wS hSw; (try dsimp only at hSw); go_simp; (try with_reducible rfl))
          try simp only [Act.put, pz1, pz2, pz3]
          refine wpAnyH_ready (rs := [13]) (by kernel_rfl) (by simp) ?_
          refine AllReadyH.cons (o := ⟨some 24, .box 42 (.tmp 23), 29, "ref.go:30", #[⟨12, .data⟩], none⟩) rfl (fun K hK => ?_) AllReadyH.nil
          refine wp_boxR _ rfl rfl ?_
          intro wN m BM hq hb
          have qm := Nat.le_trans HS hq
          have nm1 : m ≠ gN := Nat.ne_of_gt (Nat.lt_of_lt_of_le RN.lt hq)
          have nm2 : m ≠ gW := Nat.ne_of_gt (Nat.lt_of_lt_of_le RV.lt hq)
          have nm3 : m ≠ gD := Nat.ne_of_gt (Nat.lt_of_lt_of_le RD.lt hq)
          have nFm := FR.ne RF hq
          (try have hb := undrew hb)
          (try replace RN := RN.below hb)
          (try replace RV := RV.below hb)
          (try replace RD := RD.below hb)
          (try replace RF := FR.below_ RF hb)
          replace HSF := HSF.next hb
          replace G1 := G1.below hb G1.lt
          clear HY
          have HY := cells5 G1
          replace HB0 := btr HB0 HB0.size hb
          replace HS := Nat.le_trans HS hb.size
          refine hK.out _ _ ?_ (fun hNew => ?_)
          · (first | exact HY | assumption)
          clear hK K hHeld
          have hHeld := hNew
          clear hNew
          try simp only [Act.put, pz1, pz2, pz3]
          refine wpAnyH_take (i := 14) (oi := ⟨some 5, .assign (.tmp 24), 29, "ref.go:30", #[⟨13, .data⟩, ⟨2, .chain⟩, ⟨0, .phase⟩, ⟨1, .phase⟩, ⟨2, .phase⟩, ⟨3, .phase⟩, ⟨4, .phase⟩, ⟨5, .phase⟩, ⟨6, .phase⟩, ⟨7, .phase⟩, ⟨8, .phase⟩, ⟨9, .phase⟩, ⟨10, .phase⟩, ⟨11, .phase⟩, ⟨12, .phase⟩, ⟨13, .phase⟩], none⟩) (v := ?_) rfl (by kernel_rfl) (by kernel_rfl) (by kernel_rfl) (fun _ _ _ h => h) (Or.inl ⟨by rfl, ?_⟩) (by assumption) ?_
          rotate_left
          · (intro wS hSw; (try dsimp only at hSw); go_simp; (try with_reducible rfl))
          try simp only [Act.put, pz1, pz2, pz3]
          refine wpAnyH_done (by kernel_rfl) ?_ _
          refine NoPanic.normal ?_
          go_wp2_with fail
          go_meet
          exact ⟨m, gN, gW, gD, AF, cf, rfl, NewL.start BM RN RV RD RF ⟨nm1, nm2, nm3, (by first | exact ngNgW | exact ngWgN.symm), (by first | exact ngNgD | exact ngDgN.symm), (by first | exact ngWgD | exact ngDgW.symm)⟩ ⟨nFm, nFgN, nFgW, nFgD⟩ ⟨by omega, by omega, by omega, by omega⟩ G1 HB0 qF⟩
    · refine wp_makeI _ _ rfl a NB rfl rfl hNB (by omega) ?_
      intro wN gW RV hq hb
      have qgW := Nat.le_trans HS hq
      (try have ngNgW := Nat.ne_of_lt (Nat.lt_of_lt_of_le RN.lt hq))
      (try have ngDgW := Nat.ne_of_lt (Nat.lt_of_lt_of_le RD.lt hq))
      (try have nFgW := FR.ne RF hq)
      clear hq
      (try have hb := undrew hb)
      (try replace RN := RN.below hb)
      (try replace RD := RD.below hb)
      (try replace RF := FR.below_ RF hb)
      replace HSF := HSF.next hb
      replace G1 := G1.below hb G1.lt
      clear HY
      have HY := cells5 G1
      replace HB0 := btr HB0 HB0.size hb
      replace HS := Nat.le_trans HS hb.size
      refine hK.out _ _ ?_ (fun hNew => ?_)
      · (first | exact HY | assumption)
      clear hK K hHeld
      have hHeld := hNew
      clear hNew
      try simp only [Act.put, pz1, pz2, pz3]
      refine wpAnyH_ready (rs := [2, 5, 11]) (by kernel_rfl) (by simp) ?_
      refine (AllReadyH.cons (o := ⟨some 13, .call { callee := .builtin .append, args := #[.const (.slice none 0 0), .tmp 12], argTypes := #[24, 24] }, 24, "ref.go:30", #[⟨1, .data⟩], none⟩) rfl (fun K hK => ?_) (AllReadyH.cons (o := ⟨some 16, .makeSlice 40 (.tmp 15) (.tmp 15), 40, "ref.go:30", #[⟨4, .data⟩, ⟨4, .data⟩], none⟩) rfl (fun K hK => ?_) (AllReadyH.cons (o := ⟨some 22, .makeSlice 40 (.tmp 21) (.tmp 21), 40, "ref.go:30", #[⟨10, .data⟩, ⟨10, .data⟩], none⟩) rfl (fun K hK => ?_) AllReadyH.nil)))
      · refine wp_appF0 _ rfl rfl fs A c0 rfl HSF hfl ?_
        intro wN AF cf RF hq hb
        have qF := FGe.le hq HS
        (try have nFgN := FNe.fresh hq RN.lt)
        (try have nFgW := FNe.fresh hq RV.lt)
        (try have nFgD := FNe.fresh hq RD.lt)
        clear hq
        (try have hb := undrew hb)
        (try replace RN := RN.below hb)
        (try replace RV := RV.below hb)
        (try replace RD := RD.below hb)
        replace HSF := HSF.next hb
        replace G1 := G1.below hb G1.lt
        clear HY
        have HY := cells5 G1
        replace HB0 := btr HB0 HB0.size hb
        replace HS := Nat.le_trans HS hb.size
        refine hK.out _ _ ?_ (fun hNew => ?_)
        · (first | exact HY | assumption)
        clear hK K hHeld
        have hHeld := hNew
        clear hNew
        try simp only [Act.put, pz1, pz2, pz3]
        refine wpAnyH_ready (rs := [5, 11]) (by kernel_rfl) (by simp) ?_
        refine (AllReadyH.cons (o := ⟨some 16, .makeSlice 40 (.tmp 15) (.tmp 15), 40, "ref.go:30", #[⟨4, .data⟩, ⟨4, .data⟩], none⟩) rfl (fun K hK => ?_) (AllReadyH.cons (o := ⟨some 22, .makeSlice 40 (.tmp 21) (.tmp 21), 40, "ref.go:30", #[⟨10, .data⟩, ⟨10, .data⟩], none⟩) rfl (fun K hK => ?_) AllReadyH.nil))
        · refine wp_makeI _ _ rfl a NB rfl rfl hNB (by omega) ?_
          intro wN gN RN hq hb
          have qgN := Nat.le_trans HS hq
          (try have ngWgN := Nat.ne_of_lt (Nat.lt_of_lt_of_le RV.lt hq))
          (try have ngDgN := Nat.ne_of_lt (Nat.lt_of_lt_of_le RD.lt hq))
          (try have nFgN := FR.ne RF hq)
          clear hq
          (try have hb := undrew hb)
          (try replace RV := RV.below hb)
          (try replace RD := RD.below hb)
          (try replace RF := FR.below_ RF hb)
          replace HSF := HSF.next hb
          replace G1 := G1.below hb G1.lt
          clear HY
          have HY := cells5 G1
          replace HB0 := btr HB0 HB0.size hb
          replace HS := Nat.le_trans HS hb.size
          refine hK.out _ _ ?_ (fun hNew => ?_)
          · (first | exact HY | assumption)
          clear hK K hHeld
          have hHeld := hNew
          clear hNew
          try simp only [Act.put, pz1, pz2, pz3]
          refine wpAnyH_ready (rs := [11]) (by kernel_rfl) (by simp) ?_
          refine AllReadyH.cons (o := ⟨some 22, .makeSlice 40 (.tmp 21) (.tmp 21), 40, "ref.go:30", #[⟨10, .data⟩, ⟨10, .data⟩], none⟩) rfl (fun K hK => ?_) AllReadyH.nil
          refine wp_makeI _ _ rfl a NB rfl rfl hNB (by omega) ?_
          intro wN gD RD hq hb
          have qgD := Nat.le_trans HS hq
          (try have ngNgD := Nat.ne_of_lt (Nat.lt_of_lt_of_le RN.lt hq))
          (try have ngWgD := Nat.ne_of_lt (Nat.lt_of_lt_of_le RV.lt hq))
          (try have nFgD := FR.ne RF hq)
          clear hq
          (try have hb := undrew hb)
          (try replace RN := RN.below hb)
          (try replace RV := RV.below hb)
          (try replace RF := FR.below_ RF hb)
          replace HSF := HSF.next hb
          replace G1 := G1.below hb G1.lt
          clear HY
          have HY := cells5 G1
          replace HB0 := btr HB0 HB0.size hb
          replace HS := Nat.le_trans HS hb.size
          refine hK.out _ _ ?_ (fun hNew => ?_)
          · (first | exact HY | assumption)
          clear hK K hHeld
          have hHeld := hNew
          clear hNew
          try simp only [Act.put, pz1, pz2, pz3]
          refine wpAnyH_take (i := 12) (oi := ⟨some 23, .build 42 #[(0, .tmp 11), (1, .tmp 13), (3, .tmp 16), (4, .tmp 19), (5, .tmp 22)], 42, "ref.go:30", #[⟨0, .data⟩, ⟨2, .data⟩, ⟨5, .data⟩, ⟨8, .data⟩, ⟨11, .data⟩], none⟩) (v := ?_) rfl (by kernel_rfl) (by kernel_rfl) (by kernel_rfl) (fun _ _ _ h => h) (Or.inl ⟨by rfl, ?_⟩) (by assumption) ?_
          rotate_left
          · (intro wS hSw; (try dsimp only at hSw); go_simp; (try with_reducible rfl))
          try simp only [Act.put, pz1, pz2, pz3]
          refine wpAnyH_ready (rs := [13]) (by kernel_rfl) (by simp) ?_
          refine AllReadyH.cons (o := ⟨some 24, .box 42 (.tmp 23), 29, "ref.go:30", #[⟨12, .data⟩], none⟩) rfl (fun K hK => ?_) AllReadyH.nil
          refine wp_boxR _ rfl rfl ?_
          intro wN m BM hq hb
          have qm := Nat.le_trans HS hq
          have nm1 : m ≠ gN := Nat.ne_of_gt (Nat.lt_of_lt_of_le RN.lt hq)
          have nm2 : m ≠ gW := Nat.ne_of_gt (Nat.lt_of_lt_of_le RV.lt hq)
          have nm3 : m ≠ gD := Nat.ne_of_gt (Nat.lt_of_lt_of_le RD.lt hq)
          have nFm := FR.ne RF hq
          (try have hb := undrew hb)
          (try replace RN := RN.below hb)
          (try replace RV := RV.below hb)
          (try replace RD := RD.below hb)
          (try replace RF := FR.below_ RF hb)
          replace HSF := HSF.next hb
          replace G1 := G1.below hb G1.lt
          clear HY
          have HY := cells5 G1
          replace HB0 := btr HB0 HB0.size hb
          replace HS := Nat.le_trans HS hb.size
          refine hK.out _ _ ?_ (fun hNew => ?_)
          · (first | exact HY | assumption)
          clear hK K hHeld
          have hHeld := hNew
          clear hNew
          try simp only [Act.put, pz1, pz2, pz3]
          refine wpAnyH_take (i := 14) (oi := ⟨some 5, .assign (.tmp 24), 29, "ref.go:30", #[⟨13, .data⟩, ⟨2, .chain⟩, ⟨0, .phase⟩, ⟨1, .phase⟩, ⟨2, .phase⟩, ⟨3, .phase⟩, ⟨4, .phase⟩, ⟨5, .phase⟩, ⟨6, .phase⟩, ⟨7, .phase⟩, ⟨8, .phase⟩, ⟨9, .phase⟩, ⟨10, .phase⟩, ⟨11, .phase⟩, ⟨12, .phase⟩, ⟨13, .phase⟩], none⟩) (v := ?_) rfl (by kernel_rfl) (by kernel_rfl) (by kernel_rfl) (fun _ _ _ h => h) (Or.inl ⟨by rfl, ?_⟩) (by assumption) ?_
          rotate_left
          · (intro wS hSw; (try dsimp only at hSw); go_simp; (try with_reducible rfl))
          try simp only [Act.put, pz1, pz2, pz3]
          refine wpAnyH_done (by kernel_rfl) ?_ _
          refine NoPanic.normal ?_
          go_wp2_with fail
          go_meet
          exact ⟨m, gN, gW, gD, AF, cf, rfl, NewL.start BM RN RV RD RF ⟨nm1, nm2, nm3, (by first | exact ngNgW | exact ngWgN.symm), (by first | exact ngNgD | exact ngDgN.symm), (by first | exact ngWgD | exact ngDgW.symm)⟩ ⟨nFm, nFgN, nFgW, nFgD⟩ ⟨by omega, by omega, by omega, by omega⟩ G1 HB0 qF⟩
        · refine wp_makeI _ _ rfl a NB rfl rfl hNB (by omega) ?_
          intro wN gD RD hq hb
          have qgD := Nat.le_trans HS hq
          (try have ngNgD := Nat.ne_of_lt (Nat.lt_of_lt_of_le RN.lt hq))
          (try have ngWgD := Nat.ne_of_lt (Nat.lt_of_lt_of_le RV.lt hq))
          (try have nFgD := FR.ne RF hq)
          clear hq
          (try have hb := undrew hb)
          (try replace RN := RN.below hb)
          (try replace RV := RV.below hb)
          (try replace RF := FR.below_ RF hb)
          replace HSF := HSF.next hb
          replace G1 := G1.below hb G1.lt
          clear HY
          have HY := cells5 G1
          replace HB0 := btr HB0 HB0.size hb
          replace HS := Nat.le_trans HS hb.size
          refine hK.out _ _ ?_ (fun hNew => ?_)
          · (first | exact HY | assumption)
          clear hK K hHeld
          have hHeld := hNew
          clear hNew
          try simp only [Act.put, pz1, pz2, pz3]
          refine wpAnyH_ready (rs := [5]) (by kernel_rfl) (by simp) ?_
          refine AllReadyH.cons (o := ⟨some 16, .makeSlice 40 (.tmp 15) (.tmp 15), 40, "ref.go:30", #[⟨4, .data⟩, ⟨4, .data⟩], none⟩) rfl (fun K hK => ?_) AllReadyH.nil
          refine wp_makeI _ _ rfl a NB rfl rfl hNB (by omega) ?_
          intro wN gN RN hq hb
          have qgN := Nat.le_trans HS hq
          (try have ngWgN := Nat.ne_of_lt (Nat.lt_of_lt_of_le RV.lt hq))
          (try have ngDgN := Nat.ne_of_lt (Nat.lt_of_lt_of_le RD.lt hq))
          (try have nFgN := FR.ne RF hq)
          clear hq
          (try have hb := undrew hb)
          (try replace RV := RV.below hb)
          (try replace RD := RD.below hb)
          (try replace RF := FR.below_ RF hb)
          replace HSF := HSF.next hb
          replace G1 := G1.below hb G1.lt
          clear HY
          have HY := cells5 G1
          replace HB0 := btr HB0 HB0.size hb
          replace HS := Nat.le_trans HS hb.size
          refine hK.out _ _ ?_ (fun hNew => ?_)
          · (first | exact HY | assumption)
          clear hK K hHeld
          have hHeld := hNew
          clear hNew
          try simp only [Act.put, pz1, pz2, pz3]
          refine wpAnyH_take (i := 12) (oi := ⟨some 23, .build 42 #[(0, .tmp 11), (1, .tmp 13), (3, .tmp 16), (4, .tmp 19), (5, .tmp 22)], 42, "ref.go:30", #[⟨0, .data⟩, ⟨2, .data⟩, ⟨5, .data⟩, ⟨8, .data⟩, ⟨11, .data⟩], none⟩) (v := ?_) rfl (by kernel_rfl) (by kernel_rfl) (by kernel_rfl) (fun _ _ _ h => h) (Or.inl ⟨by rfl, ?_⟩) (by assumption) ?_
          rotate_left
          · (intro wS hSw; (try dsimp only at hSw); go_simp; (try with_reducible rfl))
          try simp only [Act.put, pz1, pz2, pz3]
          refine wpAnyH_ready (rs := [13]) (by kernel_rfl) (by simp) ?_
          refine AllReadyH.cons (o := ⟨some 24, .box 42 (.tmp 23), 29, "ref.go:30", #[⟨12, .data⟩], none⟩) rfl (fun K hK => ?_) AllReadyH.nil
          refine wp_boxR _ rfl rfl ?_
          intro wN m BM hq hb
          have qm := Nat.le_trans HS hq
          have nm1 : m ≠ gN := Nat.ne_of_gt (Nat.lt_of_lt_of_le RN.lt hq)
          have nm2 : m ≠ gW := Nat.ne_of_gt (Nat.lt_of_lt_of_le RV.lt hq)
          have nm3 : m ≠ gD := Nat.ne_of_gt (Nat.lt_of_lt_of_le RD.lt hq)
          have nFm := FR.ne RF hq
          (try have hb := undrew hb)
          (try replace RN := RN.below hb)
          (try replace RV := RV.below hb)
          (try replace RD := RD.below hb)
          (try replace RF := FR.below_ RF hb)
          replace HSF := HSF.next hb
          replace G1 := G1.below hb G1.lt
          clear HY
          have HY := cells5 G1
          replace HB0 := btr HB0 HB0.size hb
          replace HS := Nat.le_trans HS hb.size
          refine hK.out _ _ ?_ (fun hNew => ?_)
          · (first | exact HY | assumption)
          clear hK K hHeld
          have hHeld := hNew
          clear hNew
          try simp only [Act.put, pz1, pz2, pz3]
          refine wpAnyH_take (i := 14) (oi := ⟨some 5, .assign (.tmp 24), 29, "ref.go:30", #[⟨13, .data⟩, ⟨2, .chain⟩, ⟨0, .phase⟩, ⟨1, .phase⟩, ⟨2, .phase⟩, ⟨3, .phase⟩, ⟨4, .phase⟩, ⟨5, .phase⟩, ⟨6, .phase⟩, ⟨7, .phase⟩, ⟨8, .phase⟩, ⟨9, .phase⟩, ⟨10, .phase⟩, ⟨11, .phase⟩, ⟨12, .phase⟩, ⟨13, .phase⟩], none⟩) (v := ?_) rfl (by kernel_rfl) (by kernel_rfl) (by kernel_rfl) (fun _ _ _ h => h) (Or.inl ⟨by rfl, ?_⟩) (by assumption) ?_
          rotate_left
          · (intro wS hSw; (try dsimp only at hSw); go_simp; (try with_reducible rfl))
          try simp only [Act.put, pz1, pz2, pz3]
          refine wpAnyH_done (by kernel_rfl) ?_ _
          refine NoPanic.normal ?_
          go_wp2_with fail
          go_meet
          exact ⟨m, gN, gW, gD, AF, cf, rfl, NewL.start BM RN RV RD RF ⟨nm1, nm2, nm3, (by first | exact ngNgW | exact ngWgN.symm), (by first | exact ngNgD | exact ngDgN.symm), (by first | exact ngWgD | exact ngDgW.symm)⟩ ⟨nFm, nFgN, nFgW, nFgD⟩ ⟨by omega, by omega, by omega, by omega⟩ G1 HB0 qF⟩
      · refine wp_makeI _ _ rfl a NB rfl rfl hNB (by omega) ?_
        intro wN gN RN hq hb
        have qgN := Nat.le_trans HS hq
        (try have ngWgN := Nat.ne_of_lt (Nat.lt_of_lt_of_le RV.lt hq))
        (try have ngDgN := Nat.ne_of_lt (Nat.lt_of_lt_of_le RD.lt hq))
        (try have nFgN := FR.ne RF hq)
        clear hq
        (try have hb := undrew hb)
        (try replace RV := RV.below hb)
        (try replace RD := RD.below hb)
        (try replace RF := FR.below_ RF hb)
        replace HSF := HSF.next hb
        replace G1 := G1.below hb G1.lt
        clear HY
        have HY := cells5 G1
        replace HB0 := btr HB0 HB0.size hb
        replace HS := Nat.le_trans HS hb.size
        refine hK.out _ _ ?_ (fun hNew => ?_)
        · (first | exact HY | assumption)
        clear hK K hHeld
        have hHeld := hNew
        clear hNew
        try simp only [Act.put, pz1, pz2, pz3]
        refine wpAnyH_ready (rs := [2, 11]) (by kernel_rfl) (by simp) ?_
        refine (AllReadyH.cons (o := ⟨some 13, .call { callee := .builtin .append, args := #[.const (.slice none 0 0), .tmp 12], argTypes := #[24, 24] }, 24, "ref.go:30", #[⟨1, .data⟩], none⟩) rfl (fun K hK => ?_) (AllReadyH.cons (o := ⟨some 22, .makeSlice 40 (.tmp 21) (.tmp 21), 40, "ref.go:30", #[⟨10, .data⟩, ⟨10, .data⟩], none⟩) rfl (fun K hK => ?_) AllReadyH.nil))
        · refine wp_appF0 _ rfl rfl fs A c0 rfl HSF hfl ?_
          intro wN AF cf RF hq hb
          have qF := FGe.le hq HS
          (try have nFgN := FNe.fresh hq RN.lt)
          (try have nFgW := FNe.fresh hq RV.lt)
          (try have nFgD := FNe.fresh hq RD.lt)
          clear hq
          (try have hb := undrew hb)
          (try replace RN := RN.below hb)
          (try replace RV := RV.below hb)
          (try replace RD := RD.below hb)
          replace HSF := HSF.next hb
          replace G1 := G1.below hb G1.lt
          clear HY
          have HY := cells5 G1
          replace HB0 := btr HB0 HB0.size hb
          replace HS := Nat.le_trans HS hb.size
          refine hK.out _ _ ?_ (fun hNew => ?_)
          · (first | exact HY | assumption)
          clear hK K hHeld
          have hHeld := hNew
          clear hNew
          try simp only [Act.put, pz1, pz2, pz3]
          refine wpAnyH_ready (rs := [11]) (by kernel_rfl) (by simp) ?_
          refine AllReadyH.cons (o := ⟨some 22, .makeSlice 40 (.tmp 21) (.tmp 21), 40, "ref.go:30", #[⟨10, .data⟩, ⟨10, .data⟩], none⟩) rfl (fun K hK => ?_) AllReadyH.nil
          refine wp_makeI _ _ rfl a NB rfl rfl hNB (by omega) ?_
          intro wN gD RD hq hb
          have qgD := Nat.le_trans HS hq
          (try have ngNgD := Nat.ne_of_lt (Nat.lt_of_lt_of_le RN.lt hq))
          (try have ngWgD := Nat.ne_of_lt (Nat.lt_of_lt_of_le RV.lt hq))
          (try have nFgD := FR.ne RF hq)
          clear hq
          (try have hb := undrew hb)
          (try replace RN := RN.below hb)
          (try replace RV := RV.below hb)
          (try replace RF := FR.below_ RF hb)
          replace HSF := HSF.next hb
          replace G1 := G1.below hb G1.lt
          clear HY
          have HY := cells5 G1
          replace HB0 := btr HB0 HB0.size hb
          replace HS := Nat.le_trans HS hb.size
          refine hK.out _ _ ?_ (fun hNew => ?_)
          · (first | exact HY | assumption)
          clear hK K hHeld
          have hHeld := hNew
          clear hNew
          try simp only [Act.put, pz1, pz2, pz3]
          refine wpAnyH_take (i := 12) (oi := ⟨some 23, .build 42 #[(0, .tmp 11), (1, .tmp 13), (3, .tmp 16), (4, .tmp 19), (5, .tmp 22)], 42, "ref.go:30", #[⟨0, .data⟩, ⟨2, .data⟩, ⟨5, .data⟩, ⟨8, .data⟩, ⟨11, .data⟩], none⟩) (v := ?_) rfl (by kernel_rfl) (by kernel_rfl) (by kernel_rfl) (fun _ _ _ h => h) (Or.inl ⟨by rfl, ?_⟩) (by assumption) ?_
          rotate_left
          · (intro wS hSw; (try dsimp only at hSw); go_simp; (try with_reducible rfl))
          try simp only [Act.put, pz1, pz2, pz3]
          refine wpAnyH_ready (rs := [13]) (by kernel_rfl) (by simp) ?_
          refine AllReadyH.cons (o := ⟨some 24, .box 42 (.tmp 23), 29, "ref.go:30", #[⟨12, .data⟩], none⟩) rfl (fun K hK => ?_) AllReadyH.nil
          refine wp_boxR _ rfl rfl ?_
          intro wN m BM hq hb
          have qm := Nat.le_trans HS hq
          have nm1 : m ≠ gN := Nat.ne_of_gt (Nat.lt_of_lt_of_le RN.lt hq)
          have nm2 : m ≠ gW := Nat.ne_of_gt (Nat.lt_of_lt_of_le RV.lt hq)
          have nm3 : m ≠ gD := Nat.ne_of_gt (Nat.lt_of_lt_of_le RD.lt hq)
          have nFm := FR.ne RF hq
          (try have hb := undrew hb)
          (try replace RN := RN.below hb)
          (try replace RV := RV.below hb)
          (try replace RD := RD.below hb)
          (try replace RF := FR.below_ RF hb)
          replace HSF := HSF.next hb
          replace G1 := G1.below hb G1.lt
          clear HY
          have HY := cells5 G1
          replace HB0 := btr HB0 HB0.size hb
          replace HS := Nat.le_trans HS hb.size
          refine hK.out _ _ ?_ (fun hNew => ?_)
          · (first | exact HY | assumption)
          clear hK K hHeld
          have hHeld := hNew
          clear hNew
          try simp only [Act.put, pz1, pz2, pz3]
          refine wpAnyH_take (i := 14) (oi := ⟨some 5, .assign (.tmp 24), 29, "ref.go:30", #[⟨13, .data⟩, ⟨2, .chain⟩, ⟨0, .phase⟩, ⟨1, .phase⟩, ⟨2, .phase⟩, ⟨3, .phase⟩, ⟨4, .phase⟩, ⟨5, .phase⟩, ⟨6, .phase⟩, ⟨7, .phase⟩, ⟨8, .phase⟩, ⟨9, .phase⟩, ⟨10, .phase⟩, ⟨11, .phase⟩, ⟨12, .phase⟩, ⟨13, .phase⟩], none⟩) (v := ?_) rfl (by kernel_rfl) (by kernel_rfl) (by kernel_rfl) (fun _ _ _ h => h) (Or.inl ⟨by rfl, ?_⟩) (by assumption) ?_
          rotate_left
          · (intro wS hSw; (try dsimp only at hSw); go_simp; (try with_reducible rfl))
          try simp only [Act.put, pz1, pz2, pz3]
          refine wpAnyH_done (by kernel_rfl) ?_ _
          refine NoPanic.normal ?_
          go_wp2_with fail
          go_meet
          exact ⟨m, gN, gW, gD, AF, cf, rfl, NewL.start BM RN RV RD RF ⟨nm1, nm2, nm3, (by first | exact ngNgW | exact ngWgN.symm), (by first | exact ngNgD | exact ngDgN.symm), (by first | exact ngWgD | exact ngDgW.symm)⟩ ⟨nFm, nFgN, nFgW, nFgD⟩ ⟨by omega, by omega, by omega, by omega⟩ G1 HB0 qF⟩
        · refine wp_makeI _ _ rfl a NB rfl rfl hNB (by omega) ?_
          intro wN gD RD hq hb
          have qgD := Nat.le_trans HS hq
          (try have ngNgD := Nat.ne_of_lt (Nat.lt_of_lt_of_le RN.lt hq))
          (try have ngWgD := Nat.ne_of_lt (Nat.lt_of_lt_of_le RV.lt hq))
          (try have nFgD := FR.ne RF hq)
          clear hq
          (try have hb := undrew hb)
          (try replace RN := RN.below hb)
          (try replace RV := RV.below hb)
          (try replace RF := FR.below_ RF hb)
          replace HSF := HSF.next hb
          replace G1 := G1.below hb G1.lt
          clear HY
          have HY := cells5 G1
          replace HB0 := btr HB0 HB0.size hb
          replace HS := Nat.le_trans HS hb.size
          refine hK.out _ _ ?_ (fun hNew => ?_)
          · (first | exact HY | assumption)
          clear hK K hHeld
          have hHeld := hNew
          clear hNew
          try simp only [Act.put, pz1, pz2, pz3]
          refine wpAnyH_ready (rs := [2]) (by kernel_rfl) (by simp) ?_
          refine AllReadyH.cons (o := ⟨some 13, .call { callee := .builtin .append, args := #[.const (.slice none 0 0), .tmp 12], argTypes := #[24, 24] }, 24, "ref.go:30", #[⟨1, .data⟩], none⟩) rfl (fun K hK => ?_) AllReadyH.nil
          refine wp_appF0 _ rfl rfl fs A c0 rfl HSF hfl ?_
          intro wN AF cf RF hq hb
          have qF := FGe.le hq HS
          (try have nFgN := FNe.fresh hq RN.lt)
          (try have nFgW := FNe.fresh hq RV.lt)
          (try have nFgD := FNe.fresh hq RD.lt)
          clear hq
          (try have hb := undrew hb)
          (try replace RN := RN.below hb)
          (try replace RV := RV.below hb)
          (try replace RD := RD.below hb)
          replace HSF := HSF.next hb
          replace G1 := G1.below hb G1.lt
          clear HY
          have HY := cells5 G1
          replace HB0 := btr HB0 HB0.size hb
          replace HS := Nat.le_trans HS hb.size
          refine hK.out _ _ ?_ (fun hNew => ?_)
          · (first | exact HY | assumption)
          clear hK K hHeld
          have hHeld := hNew
          clear hNew
          try simp only [Act.put, pz1, pz2, pz3]
          refine wpAnyH_take (i := 12) (oi := ⟨some 23, .build 42 #[(0, .tmp 11), (1, .tmp 13), (3, .tmp 16), (4, .tmp 19), (5, .tmp 22)], 42, "ref.go:30", #[⟨0, .data⟩, ⟨2, .data⟩, ⟨5, .data⟩, ⟨8, .data⟩, ⟨11, .data⟩], none⟩) (v := ?_) rfl (by kernel_rfl) (by kernel_rfl) (by kernel_rfl) (fun _ _ _ h => h) (Or.inl ⟨by rfl, ?_⟩) (by assumption) ?_
          rotate_left
          · (intro wS hSw; (try dsimp only at hSw); go_simp; (try with_reducible rfl))
          try simp only [Act.put, pz1, pz2, pz3]
          refine wpAnyH_ready (rs := [13]) (by kernel_rfl) (by simp) ?_
          refine AllReadyH.cons (o := ⟨some 24, .box 42 (.tmp 23), 29, "ref.go:30", #[⟨12, .data⟩], none⟩) rfl (fun K hK => ?_) AllReadyH.nil
          refine wp_boxR _ rfl rfl ?_
          intro wN m BM hq hb
          have qm := Nat.le_trans HS hq
          have nm1 : m ≠ gN := Nat.ne_of_gt (Nat.lt_of_lt_of_le RN.lt hq)
          have nm2 : m ≠ gW := Nat.ne_of_gt (Nat.lt_of_lt_of_le RV.lt hq)
          have nm3 : m ≠ gD := Nat.ne_of_gt (Nat.lt_of_lt_of_le RD.lt hq)
          have nFm := FR.ne RF hq
          (try have hb := undrew hb)
          (try replace RN := RN.below hb)
          (try replace RV := RV.below hb)
          (try replace RD := RD.below hb)
          (try replace RF := FR.below_ RF hb)
          replace HSF := HSF.next hb
          replace G1 := G1.below hb G1.lt
          clear HY
          have HY := cells5 G1
          replace HB0 := btr HB0 HB0.size hb
          replace HS := Nat.le_trans HS hb.size
          refine hK.out _ _ ?_ (fun hNew => ?_)
          · (first | exact HY | assumption)
          clear hK K hHeld
          have hHeld := hNew
          clear hNew
          try simp only [Act.put, pz1, pz2, pz3]
          refine wpAnyH_take (i := 14) (oi := ⟨some 5, .assign (.tmp 24), 29, "ref.go:30", #[⟨13, .data⟩, ⟨2, .chain⟩, ⟨0, .phase⟩, ⟨1, .phase⟩, ⟨2, .phase⟩, ⟨3, .phase⟩, ⟨4, .phase⟩, ⟨5, .phase⟩, ⟨6, .phase⟩, ⟨7, .phase⟩, ⟨8, .phase⟩, ⟨9, .phase⟩, ⟨10, .phase⟩, ⟨11, .phase⟩, ⟨12, .phase⟩, ⟨13, .phase⟩], none⟩) (v := ?_) rfl (by kernel_rfl) (by kernel_rfl) (by kernel_rfl) (fun _ _ _ h => h) (Or.inl ⟨by rfl, ?_⟩) (by assumption) ?_
          rotate_left
          · (intro wS hSw; (try dsimp only at hSw); go_simp; (try with_reducible rfl))
          try simp only [Act.put, pz1, pz2, pz3]
          refine wpAnyH_done (by kernel_rfl) ?_ _
          refine NoPanic.normal ?_
          go_wp2_with fail
          go_meet
          exact ⟨m, gN, gW, gD, AF, cf, rfl, NewL.start BM RN RV RD RF ⟨nm1, nm2, nm3, (by first | exact ngNgW | exact ngWgN.symm), (by first | exact ngNgD | exact ngDgN.symm), (by first | exact ngWgD | exact ngDgW.symm)⟩ ⟨nFm, nFgN, nFgW, nFgD⟩ ⟨by omega, by omega, by omega, by omega⟩ G1 HB0 qF⟩
      · refine wp_makeI _ _ rfl a NB rfl rfl hNB (by omega) ?_
        intro wN gD RD hq hb
        have qgD := Nat.le_trans HS hq
        (try have ngNgD := Nat.ne_of_lt (Nat.lt_of_lt_of_le RN.lt hq))
        (try have ngWgD := Nat.ne_of_lt (Nat.lt_of_lt_of_le RV.lt hq))
        (try have nFgD := FR.ne RF hq)
        clear hq
        (try have hb := undrew hb)
        (try replace RN := RN.below hb)
        (try replace RV := RV.below hb)
        (try replace RF := FR.below_ RF hb)
        replace HSF := HSF.next hb
        replace G1 := G1.below hb G1.lt
        clear HY
        have HY := cells5 G1
        replace HB0 := btr HB0 HB0.size hb
        replace HS := Nat.le_trans HS hb.size
        refine hK.out _ _ ?_ (fun hNew => ?_)
        · (first | exact HY | assumption)
        clear hK K hHeld
        have hHeld := hNew
        clear hNew
        try simp only [Act.put, pz1, pz2, pz3]
        refine wpAnyH_ready (rs := [2, 5]) (by kernel_rfl) (by simp) ?_
        refine (AllReadyH.cons (o := ⟨some 13, .call { callee := .builtin .append, args := #[.const (.slice none 0 0), .tmp 12], argTypes := #[24, 24] }, 24, "ref.go:30", #[⟨1, .data⟩], none⟩) rfl (fun K hK => ?_) (AllReadyH.cons (o := ⟨some 16, .makeSlice 40 (.tmp 15) (.tmp 15), 40, "ref.go:30", #[⟨4, .data⟩, ⟨4, .data⟩], none⟩) rfl (fun K hK => ?_) AllReadyH.nil))
        · refine wp_appF0 _ rfl rfl fs A c0 rfl HSF hfl ?_
          intro wN AF cf RF hq hb
          have qF := FGe.le hq HS
          (try have nFgN := FNe.fresh hq RN.lt)
          (try have nFgW := FNe.fresh hq RV.lt)
          (try have nFgD := FNe.fresh hq RD.lt)
          clear hq
          (try have hb := undrew hb)
          (try replace RN := RN.below hb)
          (try replace RV := RV.below hb)
          (try replace RD := RD.below hb)
          replace HSF := HSF.next hb
          replace G1 := G1.below hb G1.lt
          clear HY
          have HY := cells5 G1
          replace HB0 := btr HB0 HB0.size hb
          replace HS := Nat.le_trans HS hb.size
          refine hK.out _ _ ?_ (fun hNew => ?_)
          · (first | exact HY | assumption)
          clear hK K hHeld
          have hHeld := hNew
          clear hNew
          try simp only [Act.put, pz1, pz2, pz3]
          refine wpAnyH_ready (rs := [5]) (by kernel_rfl) (by simp) ?_
          refine AllReadyH.cons (o := ⟨some 16, .makeSlice 40 (.tmp 15) (.tmp 15), 40, "ref.go:30", #[⟨4, .data⟩, ⟨4, .data⟩], none⟩) rfl (fun K hK => ?_) AllReadyH.nil
          refine wp_makeI _ _ rfl a NB rfl rfl hNB (by omega) ?_
          intro wN gN RN hq hb
          have qgN := Nat.le_trans HS hq
          (try have ngWgN := Nat.ne_of_lt (Nat.lt_of_lt_of_le RV.lt hq))
          (try have ngDgN := Nat.ne_of_lt (Nat.lt_of_lt_of_le RD.lt hq))
          (try have nFgN := FR.ne RF hq)
          clear hq
          (try have hb := undrew hb)
          (try replace RV := RV.below hb)
          (try replace RD := RD.below hb)
          (try replace RF := FR.below_ RF hb)
          replace HSF := HSF.next hb
          replace G1 := G1.below hb G1.lt
          clear HY
          have HY := cells5 G1
          replace HB0 := btr HB0 HB0.size hb
          replace HS := Nat.le_trans HS hb.size
          refine hK.out _ _ ?_ (fun hNew => ?_)
          · (first | exact HY | assumption)
          clear hK K hHeld
          have hHeld := hNew
          clear hNew
          try simp only [Act.put, pz1, pz2, pz3]
          refine wpAnyH_take (i := 12) (oi := ⟨some 23, .build 42 #[(0, .tmp 11), (1, .tmp 13), (3, .tmp 16), (4, .tmp 19), (5, .tmp 22)], 42, "ref.go:30", #[⟨0, .data⟩, ⟨2, .data⟩, ⟨5, .data⟩, ⟨8, .data⟩, ⟨11, .data⟩], none⟩) (v := ?_) rfl (by kernel_rfl) (by kernel_rfl) (by kernel_rfl) (fun _ _ _ h => h) (Or.inl ⟨by rfl, ?_⟩) (by assumption) ?_
          rotate_left
          · (intro wS hSw; (try dsimp only at hSw); go_simp; (try with_reducible rfl))
          try simp only [Act.put, pz1, pz2, pz3]
          refine wpAnyH_ready (rs := [13]) (by kernel_rfl) (by simp) ?_
          refine AllReadyH.cons (o := ⟨some 24, .box 42 (.tmp 23), 29, "ref.go:30", #[⟨12, .data⟩], none⟩) rfl (fun K hK => ?_) AllReadyH.nil
          refine wp_boxR _ rfl rfl ?_
          intro wN m BM hq hb
          have qm := Nat.le_trans HS hq
          have nm1 : m ≠ gN := Nat.ne_of_gt (Nat.lt_of_lt_of_le RN.lt hq)
          have nm2 : m ≠ gW := Nat.ne_of_gt (Nat.lt_of_lt_of_le RV.lt hq)
          have nm3 : m ≠ gD := Nat.ne_of_gt (Nat.lt_of_lt_of_le RD.lt hq)
          have nFm := FR.ne RF hq
          (try have hb := undrew hb)
          (try replace RN := RN.below hb)
          (try replace RV := RV.below hb)
          (try replace RD := RD.below hb)
          (try replace RF := FR.below_ RF hb)
          replace HSF := HSF.next hb
          replace G1 := G1.below hb G1.lt
          clear HY
          have HY := cells5 G1
          replace HB0 := btr HB0 HB0.size hb
          replace HS := Nat.le_trans HS hb.size
          refine hK.out _ _ ?_ (fun hNew => ?_)
          · (first | exact HY | assumption)
          clear hK K hHeld
          have hHeld := hNew
          clear hNew
          try simp only [Act.put, pz1, pz2, pz3]
          refine wpAnyH_take (i := 14) (oi := ⟨some 5, .assign (.tmp 24), 29, "ref.go:30", #[⟨13, .data⟩, ⟨2, .chain⟩, ⟨0, .phase⟩, ⟨1, .phase⟩, ⟨2, .phase⟩, ⟨3, .phase⟩, ⟨4, .phase⟩, ⟨5, .phase⟩, ⟨6, .phase⟩, ⟨7, .phase⟩, ⟨8, .phase⟩, ⟨9, .phase⟩, ⟨10, .phase⟩, ⟨11, .phase⟩, ⟨12, .phase⟩, ⟨13, .phase⟩], none⟩) (v := ?_) rfl (by kernel_rfl) (by kernel_rfl) (by kernel_rfl) (fun _ _ _ h => h) (Or.inl ⟨by rfl, ?_⟩) (by assumption) ?_
          rotate_left
          · (intro wS hSw; (try dsimp only at hSw); go_simp; (try with_reducible rfl))
          try simp only [Act.put, pz1, pz2, pz3]
          refine wpAnyH_done (by kernel_rfl) ?_ _
          refine NoPanic.normal ?_
          go_wp2_with fail
          go_meet
          exact ⟨m, gN, gW, gD, AF, cf, rfl, NewL.start BM RN RV RD RF ⟨nm1, nm2, nm3, (by first | exact ngNgW | exact ngWgN.symm), (by first | exact ngNgD | exact ngDgN.symm), (by first | exact ngWgD | exact ngDgW.symm)⟩ ⟨nFm, nFgN, nFgW, nFgD⟩ ⟨by omega, by omega, by omega, by omega⟩ G1 HB0 qF⟩
        · refine wp_makeI _ _ rfl a NB rfl rfl hNB (by omega) ?_
          intro wN gN RN hq hb
          have qgN := Nat.le_trans HS hq
          (try have ngWgN := Nat.ne_of_lt (Nat.lt_of_lt_of_le RV.lt hq))
          (try have ngDgN := Nat.ne_of_lt (Nat.lt_of_lt_of_le RD.lt hq))
          (try have nFgN := FR.ne RF hq)
          clear hq
          (try have hb := undrew hb)
          (try replace RV := RV.below hb)
          (try replace RD := RD.below hb)
          (try replace RF := FR.below_ RF hb)
          replace HSF := HSF.next hb
          replace G1 := G1.below hb G1.lt
          clear HY
          have HY := cells5 G1
          replace HB0 := btr HB0 HB0.size hb
          replace HS := Nat.le_trans HS hb.size
          refine hK.out _ _ ?_ (fun hNew => ?_)
          · (first | exact HY | assumption)
          clear hK K hHeld
          have hHeld := hNew
          clear hNew
          try simp only [Act.put, pz1, pz2, pz3]
          refine wpAnyH_ready (rs := [2]) (by kernel_rfl) (by simp) ?_
          refine AllReadyH.cons (o := ⟨some 13, .call { callee := .builtin .append, args := #[.const (.slice none 0 0), .tmp 12], argTypes := #[24, 24] }, 24, "ref.go:30", #[⟨1, .data⟩], none⟩) rfl (fun K hK => ?_) AllReadyH.nil
          refine wp_appF0 _ rfl rfl fs A c0 rfl HSF hfl ?_
          intro wN AF cf RF hq hb
          have qF := FGe.le hq HS
          (try have nFgN := FNe.fresh hq RN.lt)
          (try have nFgW := FNe.fresh hq RV.lt)
          (try have nFgD := FNe.fresh hq RD.lt)
          clear hq
          (try have hb := undrew hb)
          (try replace RN := RN.below hb)
          (try replace RV := RV.below hb)
          (try replace RD := RD.below hb)
          replace HSF := HSF.next hb
          replace G1 := G1.below hb G1.lt
          clear HY
          have HY := cells5 G1
          replace HB0 := btr HB0 HB0.size hb
          replace HS := Nat.le_trans HS hb.size
          refine hK.out _ _ ?_ (fun hNew => ?_)
          · (first | exact HY | assumption)
          clear hK K hHeld
          have hHeld := hNew
          clear hNew
          try simp only [Act.put, pz1, pz2, pz3]
          refine wpAnyH_take (i := 12) (oi := ⟨some 23, .build 42 #[(0, .tmp 11), (1, .tmp 13), (3, .tmp 16), (4, .tmp 19), (5, .tmp 22)], 42, "ref.go:30", #[⟨0, .data⟩, ⟨2, .data⟩, ⟨5, .data⟩, ⟨8, .data⟩, ⟨11, .data⟩], none⟩) (v := ?_) rfl (by kernel_rfl) (by kernel_rfl) (by kernel_rfl) (fun _ _ _ h => h) (Or.inl ⟨by rfl, ?_⟩) (by assumption) ?_
          rotate_left
          · (intro wS hSw; (try dsimp only at hSw); go_simp; (try with_reducible rfl))
          try simp only [Act.put, pz1, pz2, pz3]
          refine wpAnyH_ready (rs := [13]) (by kernel_rfl) (by simp) ?_
          refine AllReadyH.cons (o := ⟨some 24, .box 42 (.tmp 23), 29, "ref.go:30", #[⟨12, .data⟩], none⟩) rfl (fun K hK => ?_) AllReadyH.nil
          refine wp_boxR _ rfl rfl ?_
          intro wN m BM hq hb
          have qm := Nat.le_trans HS hq
          have nm1 : m ≠ gN := Nat.ne_of_gt (Nat.lt_of_lt_of_le RN.lt hq)
          have nm2 : m ≠ gW := Nat.ne_of_gt (Nat.lt_of_lt_of_le RV.lt hq)
          have nm3 : m ≠ gD := Nat.ne_of_gt (Nat.lt_of_lt_of_le RD.lt hq)
          have nFm := FR.ne RF hq
          (try have hb := undrew hb)
          (try replace RN := RN.below hb)
          (try replace RV := RV.below hb)
          (try replace RD := RD.below hb)
          (try replace RF := FR.below_ RF hb)
          replace HSF := HSF.next hb
          replace G1 := G1.below hb G1.lt
          clear HY
          have HY := cells5 G1
          replace HB0 := btr HB0 HB0.size hb
          replace HS := Nat.le_trans HS hb.size
          refine hK.out _ _ ?_ (fun hNew => ?_)
          · (first | exact HY | assumption)
          clear hK K hHeld
          have hHeld := hNew
          clear hNew
          try simp only [Act.put, pz1, pz2, pz3]
          refine wpAnyH_take (i := 14) (oi := ⟨some 5, .assign (.tmp 24), 29, "ref.go:30", #[⟨13, .data⟩, ⟨2, .chain⟩, ⟨0, .phase⟩, ⟨1, .phase⟩, ⟨2, .phase⟩, ⟨3, .phase⟩, ⟨4, .phase⟩, ⟨5, .phase⟩, ⟨6, .phase⟩, ⟨7, .phase⟩, ⟨8, .phase⟩, ⟨9, .phase⟩, ⟨10, .phase⟩, ⟨11, .phase⟩, ⟨12, .phase⟩, ⟨13, .phase⟩], none⟩) (v := ?_) rfl (by kernel_rfl) (by kernel_rfl) (by kernel_rfl) (fun _ _ _ h => h) (Or.inl ⟨by rfl, ?_⟩) (by assumption) ?_
          rotate_left
          · (intro wS hSw; (try dsimp only at hSw); go_simp; (try with_reducible rfl))
          try simp only [Act.put, pz1, pz2, pz3]
          refine wpAnyH_done (by kernel_rfl) ?_ _
          refine NoPanic.normal ?_
          go_wp2_with fail
          go_meet
          exact ⟨m, gN, gW, gD, AF, cf, rfl, NewL.start BM RN RV RD RF ⟨nm1, nm2, nm3, (by first | exact ngNgW | exact ngWgN.symm), (by first | exact ngNgD | exact ngDgN.symm), (by first | exact ngWgD | exact ngDgW.symm)⟩ ⟨nFm, nFgN, nFgW, nFgD⟩ ⟨by omega, by omega, by omega, by omega⟩ G1 HB0 qF⟩
    · refine wp_makeI _ _ rfl a NB rfl rfl hNB (by omega) ?_
      intro wN gD RD hq hb
      have qgD := Nat.le_trans HS hq
      (try have ngNgD := Nat.ne_of_lt (Nat.lt_of_lt_of_le RN.lt hq))
      (try have ngWgD := Nat.ne_of_lt (Nat.lt_of_lt_of_le RV.lt hq))
      (try have nFgD := FR.ne RF hq)
      clear hq
      (try have hb := undrew hb)
      (try replace RN := RN.below hb)
      (try replace RV := RV.below hb)
      (try replace RF := FR.below_ RF hb)
      replace HSF := HSF.next hb
      replace G1 := G1.below hb G1.lt
      clear HY
      have HY := cells5 G1
      replace HB0 := btr HB0 HB0.size hb
      replace HS := Nat.le_trans HS hb.size
      refine hK.out _ _ ?_ (fun hNew => ?_)
      · (first | exact HY | assumption)
      clear hK K hHeld
      have hHeld := hNew
      clear hNew
      try simp only [Act.put, pz1, pz2, pz3]
      refine wpAnyH_ready (rs := [2, 5, 8]) (by kernel_rfl) (by simp) ?_
      refine (AllReadyH.cons (o := ⟨some 13, .call { callee := .builtin .append, args := #[.const (.slice none 0 0), .tmp 12], argTypes := #[24, 24] }, 24, "ref.go:30", #[⟨1, .data⟩], none⟩) rfl (fun K hK => ?_) (AllReadyH.cons (o := ⟨some 16, .makeSlice 40 (.tmp 15) (.tmp 15), 40, "ref.go:30", #[⟨4, .data⟩, ⟨4, .data⟩], none⟩) rfl (fun K hK => ?_) (AllReadyH.cons (o := ⟨some 19, .makeSlice 40 (.tmp 18) (.tmp 18), 40, "ref.go:30", #[⟨7, .data⟩, ⟨7, .data⟩], none⟩) rfl (fun K hK => ?_) AllReadyH.nil)))
      · refine wp_appF0 _ rfl rfl fs A c0 rfl HSF hfl ?_
        intro wN AF cf RF hq hb
        have qF := FGe.le hq HS
        (try have nFgN := FNe.fresh hq RN.lt)
        (try have nFgW := FNe.fresh hq RV.lt)
        (try have nFgD := FNe.fresh hq RD.lt)
        clear hq
        (try have hb := undrew hb)
        (try replace RN := RN.below hb)
        (try replace RV := RV.below hb)
        (try replace RD := RD.below hb)
        replace HSF := HSF.next hb
        replace G1 := G1.below hb G1.lt
        clear HY
        have HY := cells5 G1
        replace HB0 := btr HB0 HB0.size hb
        replace HS := Nat.le_trans HS hb.size
        refine hK.out _ _ ?_ (fun hNew => ?_)
        · (first | exact HY | assumption)
        clear hK K hHeld
        have hHeld := hNew
        clear hNew
        try simp only [Act.put, pz1, pz2, pz3]
        refine wpAnyH_ready (rs := [5, 8]) (by kernel_rfl) (by simp) ?_
        refine (AllReadyH.cons (o := ⟨some 16, .makeSlice 40 (.tmp 15) (.tmp 15), 40, "ref.go:30", #[⟨4, .data⟩, ⟨4, .data⟩], none⟩) rfl (fun K hK => ?_) (AllReadyH.cons (o := ⟨some 19, .makeSlice 40 (.tmp 18) (.tmp 18), 40, "ref.go:30", #[⟨7, .data⟩, ⟨7, .data⟩], none⟩) rfl (fun K hK => ?_) AllReadyH.nil))
        · refine wp_makeI _ _ rfl a NB rfl rfl hNB (by omega) ?_
          intro wN gN RN hq hb
          have qgN := Nat.le_trans HS hq
          (try have ngWgN := Nat.ne_of_lt (Nat.lt_of_lt_of_le RV.lt hq))
          (try have ngDgN := Nat.ne_of_lt (Nat.lt_of_lt_of_le RD.lt hq))
          (try have nFgN := FR.ne RF hq)
          clear hq
          (try have hb := undrew hb)
          (try replace RV := RV.below hb)
          (try replace RD := RD.below hb)
          (try replace RF := FR.below_ RF hb)
          replace HSF := HSF.next hb
          replace G1 := G1.below hb G1.lt
          clear HY
          have HY := cells5 G1
          replace HB0 := btr HB0 HB0.size hb
          replace HS := Nat.le_trans HS hb.size
          refine hK.out _ _ ?_ (fun hNew => ?_)
          · (first | exact HY | assumption)
          clear hK K hHeld
          have hHeld := hNew
          clear hNew
          try simp only [Act.put, pz1, pz2, pz3]
          refine wpAnyH_ready (rs := [8]) (by kernel_rfl) (by simp) ?_
          refine AllReadyH.cons (o := ⟨some 19, .makeSlice 40 (.tmp 18) (.tmp 18), 40, "ref.go:30", #[⟨7, .data⟩, ⟨7, .data⟩], none⟩) rfl (fun K hK => ?_) AllReadyH.nil
          refine wp_makeI _ _ rfl a NB rfl rfl hNB (by omega) ?_
          intro wN gW RV hq hb
          have qgW := Nat.le_trans HS hq
          (try have ngNgW := Nat.ne_of_lt (Nat.lt_of_lt_of_le RN.lt hq))
          (try have ngDgW := Nat.ne_of_lt (Nat.lt_of_lt_of_le RD.lt hq))
          (try have nFgW := FR.ne RF hq)
          clear hq
          (try have hb := undrew hb)
          (try replace RN := RN.below hb)
          (try replace RD := RD.below hb)
          (try replace RF := FR.below_ RF hb)
          replace HSF := HSF.next hb
          replace G1 := G1.below hb G1.lt
          clear HY
          have HY := cells5 G1
          replace HB0 := btr HB0 HB0.size hb
          replace HS := Nat.le_trans HS hb.size
          refine hK.out _ _ ?_ (fun hNew => ?_)
          · (first | exact HY | assumption)
          clear hK K hHeld
          have hHeld := hNew
          clear hNew
          try simp only [Act.put, pz1, pz2, pz3]
          refine wpAnyH_take (i := 12) (oi := ⟨some 23, .build 42 #[(0, .tmp 11), (1, .tmp 13), (3, .tmp 16), (4, .tmp 19), (5, .tmp 22)], 42, "ref.go:30", #[⟨0, .data⟩, ⟨2, .data⟩, ⟨5, .data⟩, ⟨8, .data⟩, ⟨11, .data⟩], none⟩) (v := ?_) rfl (by kernel_rfl) (by kernel_rfl) (by kernel_rfl) (fun _ _ _ h => h) (Or.inl ⟨by rfl, ?_⟩) (by assumption) ?_
          rotate_left
          · (intro wS hSw; (try dsimp only at hSw); go_simp; (try with_reducible rfl))
          try simp only [Act.put, pz1, pz2, pz3]
          refine wpAnyH_ready (rs := [13]) (by kernel_rfl) (by simp) ?_
          refine AllReadyH.cons (o := ⟨some 24, .box 42 (.tmp 23), 29, "ref.go:30", #[⟨12, .data⟩], none⟩) rfl (fun K hK => ?_) AllReadyH.nil
          refine wp_boxR _ rfl rfl ?_
          intro wN m BM hq hb
          have qm := Nat.le_trans HS hq
          have nm1 : m ≠ gN := Nat.ne_of_gt (Nat.lt_of_lt_of_le RN.lt hq)
          have nm2 : m ≠ gW := Nat.ne_of_gt (Nat.lt_of_lt_of_le RV.lt hq)
          have nm3 : m ≠ gD := Nat.ne_of_gt (Nat.lt_of_lt_of_le RD.lt hq)
          have nFm := FR.ne RF hq
          (try have hb := undrew hb)
          (try replace RN := RN.below hb)
          (try replace RV := RV.below hb)
          (try replace RD := RD.below hb)
          (try replace RF := FR.below_ RF hb)
          replace HSF := HSF.next hb
          replace G1 := G1.below hb G1.lt
          clear HY
          have HY := cells5 G1
          replace HB0 := btr HB0 HB0.size hb
          replace HS := Nat.le_trans HS hb.size
          refine hK.out _ _ ?_ (fun hNew => ?_)
          · (first | exact HY | assumption)
          clear hK K hHeld
          have hHeld := hNew
          clear hNew
          try simp only [Act.put, pz1, pz2, pz3]
          refine wpAnyH_take (i := 14) (oi := ⟨some 5, .assign (.tmp 24), 29, "ref.go:30", #[⟨13, .data⟩, ⟨2, .chain⟩, ⟨0, .phase⟩, ⟨1, .phase⟩, ⟨2, .phase⟩, ⟨3, .phase⟩, ⟨4, .phase⟩, ⟨5, .phase⟩, ⟨6, .phase⟩, ⟨7, .phase⟩, ⟨8, .phase⟩, ⟨9, .phase⟩, ⟨10, .phase⟩, ⟨11, .phase⟩, ⟨12, .phase⟩, ⟨13, .phase⟩], none⟩) (v := ?_) rfl (by kernel_rfl) (by kernel_rfl) (by kernel_rfl) (fun _ _ _ h => h) (Or.inl ⟨by rfl, ?_⟩) (by assumption) ?_
          rotate_left
          · (intro wS hSw; (try dsimp only at hSw); go_simp; (try with_reducible rfl))
          try simp only [Act.put, pz1, pz2, pz3]
          refine wpAnyH_done (by kernel_rfl) ?_ _
          refine NoPanic.normal ?_
          go_wp2_with fail
          go_meet
          exact ⟨m, gN, gW, gD, AF, cf, rfl, NewL.start BM RN RV RD RF ⟨nm1, nm2, nm3, (by first | exact ngNgW | exact ngWgN.symm), (by first | exact ngNgD | exact ngDgN.symm), (by first | exact ngWgD | exact ngDgW.symm)⟩ ⟨nFm, nFgN, nFgW, nFgD⟩ ⟨by omega, by omega, by omega, by omega⟩ G1 HB0 qF⟩
        · refine wp_makeI _ _ rfl a NB rfl rfl hNB (by omega) ?_
          intro wN gW RV hq hb
          have qgW := Nat.le_trans HS hq
          (try have ngNgW := Nat.ne_of_lt (Nat.lt_of_lt_of_le RN.lt hq))
          (try have ngDgW := Nat.ne_of_lt (Nat.lt_of_lt_of_le RD.lt hq))
          (try have nFgW := FR.ne RF hq)
          clear hq
          (try have hb := undrew hb)
          (try replace RN := RN.below hb)
          (try replace RD := RD.below hb)
          (try replace RF := FR.below_ RF hb)
          replace HSF := HSF.next hb
          replace G1 := G1.below hb G1.lt
          clear HY
          have HY := cells5 G1
          replace HB0 := btr HB0 HB0.size hb
          replace HS := Nat.le_trans HS hb.size
          refine hK.out _ _ ?_ (fun hNew => ?_)
          · (first | exact HY | assumption)
          clear hK K hHeld
          have hHeld := hNew
          clear hNew
          try simp only [Act.put, pz1, pz2, pz3]
          refine wpAnyH_ready (rs := [5]) (by kernel_rfl) (by simp) ?_
          refine AllReadyH.cons (o := ⟨some 16, .makeSlice 40 (.tmp 15) (.tmp 15), 40, "ref.go:30", #[⟨4, .data⟩, ⟨4, .data⟩], none⟩) rfl (fun K hK => ?_) AllReadyH.nil
          refine wp_makeI _ _ rfl a NB rfl rfl hNB (by omega) ?_
          intro wN gN RN hq hb
          have qgN := Nat.le_trans HS hq
          (try have ngWgN := Nat.ne_of_lt (Nat.lt_of_lt_of_le RV.lt hq))
          (try have ngDgN := Nat.ne_of_lt (Nat.lt_of_lt_of_le RD.lt hq))
          (try have nFgN := FR.ne RF hq)
          clear hq
          (try have hb := undrew hb)
          (try replace RV := RV.below hb)
          (try replace RD := RD.below hb)
          (try replace RF := FR.below_ RF hb)
          replace HSF := HSF.next hb
          replace G1 := G1.below hb G1.lt
          clear HY
          have HY := cells5 G1
          replace HB0 := btr HB0 HB0.size hb
          replace HS := Nat.le_trans HS hb.size
          refine hK.out _ _ ?_ (fun hNew => ?_)
          · (first | exact HY | assumption)
          clear hK K hHeld
          have hHeld := hNew
          clear hNew
          try simp only [Act.put, pz1, pz2, pz3]
          refine wpAnyH_take (i := 12) (oi := ⟨some 23, .build 42 #[(0, .tmp 11), (1, .tmp 13), (3, .tmp 16), (4, .tmp 19), (5, .tmp 22)], 42, "ref.go:30", #[⟨0, .data⟩, ⟨2, .data⟩, ⟨5, .data⟩, ⟨8, .data⟩, ⟨11, .data⟩], none⟩) (v := ?_) rfl (by kernel_rfl) (by kernel_rfl) (by kernel_rfl) (fun _ _ _ h => h) (Or.inl ⟨by rfl, ?_⟩) (by assumption) ?_
          rotate_left
          · (intro wS hSw; (try dsimp only at hSw); go_simp; (try with_reducible rfl))
          try simp only [Act.put, pz1, pz2, pz3]
          refine wpAnyH_ready (rs := [13]) (by kernel_rfl) (by simp) ?_
          refine AllReadyH.cons (o := ⟨some 24, .box 42 (.tmp 23), 29, "ref.go:30", #[⟨12, .data⟩], none⟩) rfl (fun K hK => ?_) AllReadyH.nil
          refine wp_boxR _ rfl rfl ?_
          intro wN m BM hq hb
          have qm := Nat.le_trans HS hq
          have nm1 : m ≠ gN := Nat.ne_of_gt (Nat.lt_of_lt_of_le RN.lt hq)
          have nm2 : m ≠ gW := Nat.ne_of_gt (Nat.lt_of_lt_of_le RV.lt hq)
          have nm3 : m ≠ gD := Nat.ne_of_gt (Nat.lt_of_lt_of_le RD.lt hq)
          have nFm := FR.ne RF hq
          (try have hb := undrew hb)
          (try replace RN := RN.below hb)
          (try replace RV := RV.below hb)
          (try replace RD := RD.below hb)
          (try replace RF := FR.below_ RF hb)
          replace HSF := HSF.next hb
          replace G1 := G1.below hb G1.lt
          clear HY
          have HY := cells5 G1
          replace HB0 := btr HB0 HB0.size hb
          replace HS := Nat.le_trans HS hb.size
          refine hK.out _ _ ?_ (fun hNew => ?_)
          · (first | exact HY | assumption)
          clear hK K hHeld
          have hHeld := hNew
          clear hNew
          try simp only [Act.put, pz1, pz2, pz3]
          refine wpAnyH_take (i := 14) (oi := ⟨some 5, .assign (.tmp 24), 29, "ref.go:30", #[⟨13, .data⟩, ⟨2, .chain⟩, ⟨0, .phase⟩, ⟨1, .phase⟩, ⟨2, .phase⟩, ⟨3, .phase⟩, ⟨4, .phase⟩, ⟨5, .phase⟩, ⟨6, .phase⟩, ⟨7, .phase⟩, ⟨8, .phase⟩, ⟨9, .phase⟩, ⟨10, .phase⟩, ⟨11, .phase⟩, ⟨12, .phase⟩, ⟨13, .phase⟩], none⟩) (v := ?_) rfl (by kernel_rfl) (by kernel_rfl) (by kernel_rfl) (fun _ _ _ h => h) (Or.inl ⟨by rfl, ?_⟩) (by assumption) ?_
          rotate_left
          · (intro wS hSw; (try dsimp only at hSw); go_simp; (try with_reducible rfl))
          try simp only [Act.put, pz1, pz2, pz3]
          refine wpAnyH_done (by kernel_rfl) ?_ _
          refine NoPanic.normal ?_
          go_wp2_with fail
          go_meet
          exact ⟨m, gN, gW, gD, AF, cf, rfl, NewL.start BM RN RV RD RF ⟨nm1, nm2, nm3, (by first | exact ngNgW | exact ngWgN.symm), (by first | exact ngNgD | exact ngDgN.symm), (by first | exact ngWgD | exact ngDgW.symm)⟩ ⟨nFm, nFgN, nFgW, nFgD⟩ ⟨by omega, by omega, by omega, by omega⟩ G1 HB0 qF⟩
      · refine wp_makeI _ _ rfl a NB rfl rfl hNB (by omega) ?_
        intro wN gN RN hq hb
        have qgN := Nat.le_trans HS hq
        (try have ngWgN := Nat.ne_of_lt (Nat.lt_of_lt_of_le RV.lt hq))
        (try have ngDgN := Nat.ne_of_lt (Nat.lt_of_lt_of_le RD.lt hq))
        (try have nFgN := FR.ne RF hq)
        clear hq
        (try have hb := undrew hb)
        (try replace RV := RV.below hb)
        (try replace RD := RD.below hb)
        (try replace RF := FR.below_ RF hb)
        replace HSF := HSF.next hb
        replace G1 := G1.below hb G1.lt
        clear HY
        have HY := cells5 G1
        replace HB0 := btr HB0 HB0.size hb
        replace HS := Nat.le_trans HS hb.size
        refine hK.out _ _ ?_ (fun hNew => ?_)
        · (first | exact HY | assumption)
        clear hK K hHeld
        have hHeld := hNew
        clear hNew
        try simp only [Act.put, pz1, pz2, pz3]
        refine wpAnyH_ready (rs := [2, 8]) (by kernel_rfl) (by simp) ?_
        refine (AllReadyH.cons (o := ⟨some 13, .call { callee := .builtin .append, args := #[.const (.slice none 0 0), .tmp 12], argTypes := #[24, 24] }, 24, "ref.go:30", #[⟨1, .data⟩], none⟩) rfl (fun K hK => ?_) (AllReadyH.cons (o := ⟨some 19, .makeSlice 40 (.tmp 18) (.tmp 18), 40, "ref.go:30", #[⟨7, .data⟩, ⟨7, .data⟩], none⟩) rfl (fun K hK => ?_) AllReadyH.nil))
        · refine wp_appF0 _ rfl rfl fs A c0 rfl HSF hfl ?_
          intro wN AF cf RF hq hb
          have qF := FGe.le hq HS
          (try have nFgN := FNe.fresh hq RN.lt)
          (try have nFgW := FNe.fresh hq RV.lt)
          (try have nFgD := FNe.fresh hq RD.lt)
          clear hq
          (try have hb := undrew hb)
          (try replace RN := RN.below hb)
          (try replace RV := RV.below hb)
          (try replace RD := RD.below hb)
          replace HSF := HSF.next hb
          replace G1 := G1.below hb G1.lt
          clear HY
          have HY := cells5 G1
          replace HB0 := btr HB0 HB0.size hb
          replace HS := Nat.le_trans HS hb.size
          refine hK.out _ _ ?_ (fun hNew => ?_)
          · (first | exact HY | assumption)
          clear hK K hHeld
          have hHeld := hNew
          clear hNew
          try simp only [Act.put, pz1, pz2, pz3]
          refine wpAnyH_ready (rs := [8]) (by kernel_rfl) (by simp) ?_
          refine AllReadyH.cons (o := ⟨some 19, .makeSlice 40 (.tmp 18) (.tmp 18), 40, "ref.go:30", #[⟨7, .data⟩, ⟨7, .data⟩], none⟩) rfl (fun K hK => ?_) AllReadyH.nil
          refine wp_makeI _ _ rfl a NB rfl rfl hNB (by omega) ?_
          intro wN gW RV hq hb
          have qgW := Nat.le_trans HS hq
          (try have ngNgW := Nat.ne_of_lt (Nat.lt_of_lt_of_le RN.lt hq))
          (try have ngDgW := Nat.ne_of_lt (Nat.lt_of_lt_of_le RD.lt hq))
          (try have nFgW := FR.ne RF hq)
          clear hq
          (try have hb := undrew hb)
          (try replace RN := RN.below hb)
          (try replace RD := RD.below hb)
          (try replace RF := FR.below_ RF hb)
          replace HSF := HSF.next hb
          replace G1 := G1.below hb G1.lt
          clear HY
          have HY := cells5 G1
          replace HB0 := btr HB0 HB0.size hb
          replace HS := Nat.le_trans HS hb.size
          refine hK.out _ _ ?_ (fun hNew => ?_)
          · (first | exact HY | assumption)
          clear hK K hHeld
          have hHeld := hNew
          clear hNew
          try simp only [Act.put, pz1, pz2, pz3]
          refine wpAnyH_take (i := 12) (oi := ⟨some 23, .build 42 #[(0, .tmp 11), (1, .tmp 13), (3, .tmp 16), (4, .tmp 19), (5, .tmp 22)], 42, "ref.go:30", #[⟨0, .data⟩, ⟨2, .data⟩, ⟨5, .data⟩, ⟨8, .data⟩, ⟨11, .data⟩], none⟩) (v := ?_) rfl (by kernel_rfl) (by kernel_rfl) (by kernel_rfl) (fun _ _ _ h => h) (Or.inl ⟨by rfl, ?_⟩) (by assumption) ?_
          rotate_left
          · (intro wS hSw; (try dsimp only at hSw); go_simp; (try with_reducible rfl))
          try simp only [Act.put, pz1, pz2, pz3]
          refine wpAnyH_ready (rs := [13]) (by kernel_rfl) (by simp) ?_
          refine AllReadyH.cons (o := ⟨some 24, .box 42 (.tmp 23), 29, "ref.go:30", #[⟨12, .data⟩], none⟩) rfl (fun K hK => ?_) AllReadyH.nil
          refine wp_boxR _ rfl rfl ?_
          intro wN m BM hq hb
          have qm := Nat.le_trans HS hq
          have nm1 : m ≠ gN := Nat.ne_of_gt (Nat.lt_of_lt_of_le RN.lt hq)
          have nm2 : m ≠ gW := Nat.ne_of_gt (Nat.lt_of_lt_of_le RV.lt hq)
          have nm3 : m ≠ gD := Nat.ne_of_gt (Nat.lt_of_lt_of_le RD.lt hq)
          have nFm := FR.ne RF hq
          (try have hb := undrew hb)
          (try replace RN := RN.below hb)
          (try replace RV := RV.below hb)
          (try replace RD := RD.below hb)
          (try replace RF := FR.below_ RF hb)
          replace HSF := HSF.next hb
          replace G1 := G1.below hb G1.lt
          clear HY
          have HY := cells5 G1
          replace HB0 := btr HB0 HB0.size hb
          replace HS := Nat.le_trans HS hb.size
          refine hK.out _ _ ?_ (fun hNew => ?_)
          · (first | exact HY | assumption)
          clear hK K hHeld
          have hHeld := hNew
          clear hNew
          try simp only [Act.put, pz1, pz2, pz3]
          refine wpAnyH_take (i := 14) (oi := ⟨some 5, .assign (.tmp 24), 29, "ref.go:30", #[⟨13, .data⟩, ⟨2, .chain⟩, ⟨0, .phase⟩, ⟨1, .phase⟩, ⟨2, .phase⟩, ⟨3, .phase⟩, ⟨4, .phase⟩, ⟨5, .phase⟩, ⟨6, .phase⟩, ⟨7, .phase⟩, ⟨8, .phase⟩, ⟨9, .phase⟩, ⟨10, .phase⟩, ⟨11, .phase⟩, ⟨12, .phase⟩, ⟨13, .phase⟩], none⟩) (v := ?_) rfl (by kernel_rfl) (by kernel_rfl) (by kernel_rfl) (fun _ _ _ h => h) (Or.inl ⟨by rfl, ?_⟩) (by assumption) ?_
          rotate_left
          · (intro wS hSw; (try dsimp only at hSw); go_simp; (try with_reducible rfl))
          try simp only [Act.put, pz1, pz2, pz3]
          refine wpAnyH_done (by kernel_rfl) ?_ _
          refine NoPanic.normal ?_
          go_wp2_with fail
          go_meet
          exact ⟨m, gN, gW, gD, AF, cf, rfl, NewL.start BM RN RV RD RF ⟨nm1, nm2, nm3, (by first | exact ngNgW | exact ngWgN.symm), (by first | exact ngNgD | exact ngDgN.symm), (by first | exact ngWgD | exact ngDgW.symm)⟩ ⟨nFm, nFgN, nFgW, nFgD⟩ ⟨by omega, by omega, by omega, by omega⟩ G1 HB0 qF⟩
        · refine wp_makeI _ _ rfl a NB rfl rfl hNB (by omega) ?_
          intro wN gW RV hq hb
          have qgW := Nat.le_trans HS hq
          (try have ngNgW := Nat.ne_of_lt (Nat.lt_of_lt_of_le RN.lt hq))
          (try have ngDgW := Nat.ne_of_lt (Nat.lt_of_lt_of_le RD.lt hq))
          (try have nFgW := FR.ne RF hq)
          clear hq
          (try have hb := undrew hb)
          (try replace RN := RN.below hb)
          (try replace RD := RD.below hb)
          (try replace RF := FR.below_ RF hb)
          replace HSF := HSF.next hb
          replace G1 := G1.below hb G1.lt
          clear HY
          have HY := cells5 G1
          replace HB0 := btr HB0 HB0.size hb
          replace HS := Nat.le_trans HS hb.size
          refine hK.out _ _ ?_ (fun hNew => ?_)
          · (first | exact HY | assumption)
          clear hK K hHeld
          have hHeld := hNew
          clear hNew
          try simp only [Act.put, pz1, pz2, pz3]
          refine wpAnyH_ready (rs := [2]) (by kernel_rfl) (by simp) ?_
          refine AllReadyH.cons (o := ⟨some 13, .call { callee := .builtin .append, args := #[.const (.slice none 0 0), .tmp 12], argTypes := #[24, 24] }, 24, "ref.go:30", #[⟨1, .data⟩], none⟩) rfl (fun K hK => ?_) AllReadyH.nil
          refine wp_appF0 _ rfl rfl fs A c0 rfl HSF hfl ?_
          intro wN AF cf RF hq hb
          have qF := FGe.le hq HS
          (try have nFgN := FNe.fresh hq RN.lt)
          (try have nFgW := FNe.fresh hq RV.lt)
          (try have nFgD := FNe.fresh hq RD.lt)
          clear hq
          (try have hb := undrew hb)
          (try replace RN := RN.below hb)
          (try replace RV := RV.below hb)
          (try replace RD := RD.below hb)
          replace HSF := HSF.next hb
          replace G1 := G1.below hb G1.lt
          clear HY
          have HY := cells5 G1
          replace HB0 := btr HB0 HB0.size hb
          replace HS := Nat.le_trans HS hb.size
          refine hK.out _ _ ?_ (fun hNew => ?_)
          · (first | exact HY | assumption)
          clear hK K hHeld
          have hHeld := hNew
          clear hNew
          try simp only [Act.put, pz1, pz2, pz3]
          refine wpAnyH_take (i := 12) (oi := ⟨some 23, .build 42 #[(0, .tmp 11), (1, .tmp 13), (3, .tmp 16), (4, .tmp 19), (5, .tmp 22)], 42, "ref.go:30", #[⟨0, .data⟩, ⟨2, .data⟩, ⟨5, .data⟩, ⟨8, .data⟩, ⟨11, .data⟩], none⟩) (v := ?_) rfl (by kernel_rfl) (by kernel_rfl) (by kernel_rfl) (fun _ _ _ h => h) (Or.inl ⟨by rfl, ?_⟩) (by assumption) ?_
          rotate_left
          · (intro wS hSw; (try dsimp only at hSw); go_simp; (try with_reducible rfl))
          try simp only [Act.put, pz1, pz2, pz3]
          refine wpAnyH_ready (rs := [13]) (by kernel_rfl) (by simp) ?_
          refine AllReadyH.cons (o := ⟨some 24, .box 42 (.tmp 23), 29, "ref.go:30", #[⟨12, .data⟩], none⟩) rfl (fun K hK => ?_) AllReadyH.nil
          refine wp_boxR _ rfl rfl ?_
          intro wN m BM hq hb
          have qm := Nat.le_trans HS hq
          have nm1 : m ≠ gN := Nat.ne_of_gt (Nat.lt_of_lt_of_le RN.lt hq)
          have nm2 : m ≠ gW := Nat.ne_of_gt (Nat.lt_of_lt_of_le RV.lt hq)
          have nm3 : m ≠ gD := Nat.ne_of_gt (Nat.lt_of_lt_of_le RD.lt hq)
          have nFm := FR.ne RF hq
          (try have hb := undrew hb)
          (try replace RN := RN.below hb)
          (try replace RV := RV.below hb)
          (try replace RD := RD.below hb)
          (try replace RF := FR.below_ RF hb)
          replace HSF := HSF.next hb
          replace G1 := G1.below hb G1.lt
          clear HY
          have HY := cells5 G1
          replace HB0 := btr HB0 HB0.size hb
          replace HS := Nat.le_trans HS hb.size
          refine hK.out _ _ ?_ (fun hNew => ?_)
          · (first | exact HY | assumption)
          clear hK K hHeld
          have hHeld := hNew
          clear hNew
          try simp only [Act.put, pz1, pz2, pz3]
          refine wpAnyH_take (i := 14) (oi := ⟨some 5, .assign (.tmp 24), 29, "ref.go:30", #[⟨13, .data⟩, ⟨2, .chain⟩, ⟨0, .phase⟩, ⟨1, .phase⟩, ⟨2, .phase⟩, ⟨3, .phase⟩, ⟨4, .phase⟩, ⟨5, .phase⟩, ⟨6, .phase⟩, ⟨7, .phase⟩, ⟨8, .phase⟩, ⟨9, .phase⟩, ⟨10, .phase⟩, ⟨11, .phase⟩, ⟨12, .phase⟩, ⟨13, .phase⟩], none⟩) (v := ?_) rfl (by kernel_rfl) (by kernel_rfl) (by kernel_rfl) (fun _ _ _ h => h) (Or.inl ⟨by rfl, ?_⟩) (by assumption) ?_
          rotate_left
          · (intro wS hSw; (try dsimp only at hSw); go_simp; (try with_reducible rfl))
          try simp only [Act.put, pz1, pz2, pz3]
          refine wpAnyH_done (by kernel_rfl) ?_ _
          refine NoPanic.normal ?_
          go_wp2_with fail
          go_meet
          exact ⟨m, gN, gW, gD, AF, cf, rfl, NewL.start BM RN RV RD RF ⟨nm1, nm2, nm3, (by first | exact ngNgW | exact ngWgN.symm), (by first | exact ngNgD | exact ngDgN.symm), (by first | exact ngWgD | exact ngDgW.symm)⟩ ⟨nFm, nFgN, nFgW, nFgD⟩ ⟨by omega, by omega, by omega, by omega⟩ G1 HB0 qF⟩
      · refine wp_makeI _ _ rfl a NB rfl rfl hNB (by omega) ?_
        intro wN gW RV hq hb
        have qgW := Nat.le_trans HS hq
        (try have ngNgW := Nat.ne_of_lt (Nat.lt_of_lt_of_le RN.lt hq))
        (try have ngDgW := Nat.ne_of_lt (Nat.lt_of_lt_of_le RD.lt hq))
        (try have nFgW := FR.ne RF hq)
        clear hq
        (try have hb := undrew hb)
        (try replace RN := RN.below hb)
        (try replace RD := RD.below hb)
        (try replace RF := FR.below_ RF hb)
        replace HSF := HSF.next hb
        replace G1 := G1.below hb G1.lt
        clear HY
        have HY := cells5 G1
        replace HB0 := btr HB0 HB0.size hb
        replace HS := Nat.le_trans HS hb.size
        refine hK.out _ _ ?_ (fun hNew => ?_)
        · (first | exact HY | assumption)
        clear hK K hHeld
        have hHeld := hNew
        clear hNew
        try simp only [Act.put, pz1, pz2, pz3]
        refine wpAnyH_ready (rs := [2, 5]) (by kernel_rfl) (by simp) ?_
        refine (AllReadyH.cons (o := ⟨some 13, .call { callee := .builtin .append, args := #[.const (.slice none 0 0), .tmp 12], argTypes := #[24, 24] }, 24, "ref.go:30", #[⟨1, .data⟩], none⟩) rfl (fun K hK => ?_) (AllReadyH.cons (o := ⟨some 16, .makeSlice 40 (.tmp 15) (.tmp 15), 40, "ref.go:30", #[⟨4, .data⟩, ⟨4, .data⟩], none⟩) rfl (fun K hK => ?_) AllReadyH.nil))
        · refine wp_appF0 _ rfl rfl fs A c0 rfl HSF hfl ?_
          intro wN AF cf RF hq hb
          have qF := FGe.le hq HS
          (try have nFgN := FNe.fresh hq RN.lt)
          (try have nFgW := FNe.fresh hq RV.lt)
          (try have nFgD := FNe.fresh hq RD.lt)
          clear hq
          (try have hb := undrew hb)
          (try replace RN := RN.below hb)
          (try replace RV := RV.below hb)
          (try replace RD := RD.below hb)
          replace HSF := HSF.next hb
          replace G1 := G1.below hb G1.lt
          clear HY
          have HY := cells5 G1
          replace HB0 := btr HB0 HB0.size hb
          replace HS := Nat.le_trans HS hb.size
          refine hK.out _ _ ?_ (fun hNew => ?_)
          · (first | exact HY | assumption)
          clear hK K hHeld
          have hHeld := hNew
          clear hNew
          try simp only [Act.put, pz1, pz2, pz3]
          refine wpAnyH_ready (rs := [5]) (by kernel_rfl) (by simp) ?_
          refine AllReadyH.cons (o := ⟨some 16, .makeSlice 40 (.tmp 15) (.tmp 15), 40, "ref.go:30", #[⟨4, .data⟩, ⟨4, .data⟩], none⟩) rfl (fun K hK => ?_) AllReadyH.nil
          refine wp_makeI _ _ rfl a NB rfl rfl hNB (by omega) ?_
          intro wN gN RN hq hb
          have qgN := Nat.le_trans HS hq
          (try have ngWgN := Nat.ne_of_lt (Nat.lt_of_lt_of_le RV.lt hq))
          (try have ngDgN := Nat.ne_of_lt (Nat.lt_of_lt_of_le RD.lt hq))
          (try have nFgN := FR.ne RF hq)
          clear hq
          (try have hb := undrew hb)
          (try replace RV := RV.below hb)
          (try replace RD := RD.below hb)
          (try replace RF := FR.below_ RF hb)
          replace HSF := HSF.next hb
          replace G1 := G1.below hb G1.lt
          clear HY
          have HY := cells5 G1
          replace HB0 := btr HB0 HB0.size hb
          replace HS := Nat.le_trans HS hb.size
          refine hK.out _ _ ?_ (fun hNew => ?_)
          · (first | exact HY | assumption)
          clear hK K hHeld
          have hHeld := hNew
          clear hNew
          try simp only [Act.put, pz1, pz2, pz3]
          refine wpAnyH_take (i := 12) (oi := ⟨some 23, .build 42 #[(0, .tmp 11), (1, .tmp 13), (3, .tmp 16), (4, .tmp 19), (5, .tmp 22)], 42, "ref.go:30", #[⟨0, .data⟩, ⟨2, .data⟩, ⟨5, .data⟩, ⟨8, .data⟩, ⟨11, .data⟩], none⟩) (v := ?_) rfl (by kernel_rfl) (by kernel_rfl) (by kernel_rfl) (fun _ _ _ h => h) (Or.inl ⟨by rfl, ?_⟩) (by assumption) ?_
          rotate_left
          · (intro wS hSw; (try dsimp only at hSw); go_simp; (try with_reducible rfl))
          try simp only [Act.put, pz1, pz2, pz3]
          refine wpAnyH_ready (rs := [13]) (by kernel_rfl) (by simp) ?_
          refine AllReadyH.cons (o := ⟨some 24, .box 42 (.tmp 23), 29, "ref.go:30", #[⟨12, .data⟩], none⟩) rfl (fun K hK => ?_) AllReadyH.nil
          refine wp_boxR _ rfl rfl ?_
          intro wN m BM hq hb
          have qm := Nat.le_trans HS hq
          have nm1 : m ≠ gN := Nat.ne_of_gt (Nat.lt_of_lt_of_le RN.lt hq)
          have nm2 : m ≠ gW := Nat.ne_of_gt (Nat.lt_of_lt_of_le RV.lt hq)
          have nm3 : m ≠ gD := Nat.ne_of_gt (Nat.lt_of_lt_of_le RD.lt hq)
          have nFm := FR.ne RF hq
          (try have hb := undrew hb)
          (try replace RN := RN.below hb)
          (try replace RV := RV.below hb)
          (try replace RD := RD.below hb)
          (try replace RF := FR.below_ RF hb)
          replace HSF := HSF.next hb
          replace G1 := G1.below hb G1.lt
          clear HY
          have HY := cells5 G1
          replace HB0 := btr HB0 HB0.size hb
          replace HS := Nat.le_trans HS hb.size
          refine hK.out _ _ ?_ (fun hNew => ?_)
          · (first | exact HY | assumption)
          clear hK K hHeld
          have hHeld := hNew
          clear hNew
          try simp only [Act.put, pz1, pz2, pz3]
          refine wpAnyH_take (i := 14) (oi := ⟨some 5, .assign (.tmp 24), 29, "ref.go:30", #[⟨13, .data⟩, ⟨2, .chain⟩, ⟨0, .phase⟩, ⟨1, .phase⟩, ⟨2, .phase⟩, ⟨3, .phase⟩, ⟨4, .phase⟩, ⟨5, .phase⟩, ⟨6, .phase⟩, ⟨7, .phase⟩, ⟨8, .phase⟩, ⟨9, .phase⟩, ⟨10, .phase⟩, ⟨11, .phase⟩, ⟨12, .phase⟩, ⟨13, .phase⟩], none⟩) (v := ?_) rfl (by kernel_rfl) (by kernel_rfl) (by kernel_rfl) (fun _ _ _ h => h) (Or.inl ⟨by rfl, ?_⟩) (by assumption) ?_
          rotate_left
          · (intro wS hSw; (try dsimp only at hSw); go_simp; (try with_reducible rfl))
          try simp only [Act.put, pz1, pz2, pz3]
          refine wpAnyH_done (by kernel_rfl) ?_ _
          refine NoPanic.normal ?_
          go_wp2_with fail
          go_meet
          exact ⟨m, gN, gW, gD, AF, cf, rfl, NewL.start BM RN RV RD RF ⟨nm1, nm2, nm3, (by first | exact ngNgW | exact ngWgN.symm), (by first | exact ngNgD | exact ngDgN.symm), (by first | exact ngWgD | exact ngDgW.symm)⟩ ⟨nFm, nFgN, nFgW, nFgD⟩ ⟨by omega, by omega, by omega, by omega⟩ G1 HB0 qF⟩
        · refine wp_makeI _ _ rfl a NB rfl rfl hNB (by omega) ?_
          intro wN gN RN hq hb
          have qgN := Nat.le_trans HS hq
          (try have ngWgN := Nat.ne_of_lt (Nat.lt_of_lt_of_le RV.lt hq))
          (try have ngDgN := Nat.ne_of_lt (Nat.lt_of_lt_of_le RD.lt hq))
          (try have nFgN := FR.ne RF hq)
          clear hq
          (try have hb := undrew hb)
          (try replace RV := RV.below hb)
          (try replace RD := RD.below hb)
          (try replace RF := FR.below_ RF hb)
          replace HSF := HSF.next hb
          replace G1 := G1.below hb G1.lt
          clear HY
          have HY := cells5 G1
          replace HB0 := btr HB0 HB0.size hb
          replace HS := Nat.le_trans HS hb.size
          refine hK.out _ _ ?_ (fun hNew => ?_)
          · (first | exact HY | assumption)
          clear hK K hHeld
          have hHeld := hNew
          clear hNew
          try simp only [Act.put, pz1, pz2, pz3]
          refine wpAnyH_ready (rs := [2]) (by kernel_rfl) (by simp) ?_
          refine AllReadyH.cons (o := ⟨some 13, .call { callee := .builtin .append, args := #[.const (.slice none 0 0), .tmp 12], argTypes := #[24, 24] }, 24, "ref.go:30", #[⟨1, .data⟩], none⟩) rfl (fun K hK => ?_) AllReadyH.nil
          refine wp_appF0 _ rfl rfl fs A c0 rfl HSF hfl ?_
          intro wN AF cf RF hq hb
          have qF := FGe.le hq HS
          (try have nFgN := FNe.fresh hq RN.lt)
          (try have nFgW := FNe.fresh hq RV.lt)
          (try have nFgD := FNe.fresh hq RD.lt)
          clear hq
          (try have hb := undrew hb)
          (try replace RN := RN.below hb)
          (try replace RV := RV.below hb)
          (try replace RD := RD.below hb)
          replace HSF := HSF.next hb
          replace G1 := G1.below hb G1.lt
          clear HY
          have HY := cells5 G1
          replace HB0 := btr HB0 HB0.size hb
          replace HS := Nat.le_trans HS hb.size
          refine hK.out _ _ ?_ (fun hNew => ?_)
          · (first | exact HY | assumption)
          clear hK K hHeld
          have hHeld := hNew
          clear hNew
          try simp only [Act.put, pz1, pz2, pz3]
          refine wpAnyH_take (i := 12) (oi := ⟨some 23, .build 42 #[(0, .tmp 11), (1, .tmp 13), (3, .tmp 16), (4, .tmp 19), (5, .tmp 22)], 42, "ref.go:30", #[⟨0, .data⟩, ⟨2, .data⟩, ⟨5, .data⟩, ⟨8, .data⟩, ⟨11, .data⟩], none⟩) (v := ?_) rfl (by kernel_rfl) (by kernel_rfl) (by kernel_rfl) (fun _ _ _ h => h) (Or.inl ⟨by rfl, ?_⟩) (by assumption) ?_
          rotate_left
          · (intro wS hSw; (try dsimp only at hSw); go_simp; (try with_reducible rfl))
          try simp only [Act.put, pz1, pz2, pz3]
          refine wpAnyH_ready (rs := [13]) (by kernel_rfl) (by simp) ?_
          refine AllReadyH.cons (o := ⟨some 24, .box 42 (.tmp 23), 29, "ref.go:30", #[⟨12, .data⟩], none⟩) rfl (fun K hK => ?_) AllReadyH.nil
          refine wp_boxR _ rfl rfl ?_
          intro wN m BM hq hb
          have qm := Nat.le_trans HS hq
          have nm1 : m ≠ gN := Nat.ne_of_gt (Nat.lt_of_lt_of_le RN.lt hq)
          have nm2 : m ≠ gW := Nat.ne_of_gt (Nat.lt_of_lt_of_le RV.lt hq)
          have nm3 : m ≠ gD := Nat.ne_of_gt (Nat.lt_of_lt_of_le RD.lt hq)
          have nFm := FR.ne RF hq
          (try have hb := undrew hb)
          (try replace RN := RN.below hb)
          (try replace RV := RV.below hb)
          (try replace RD := RD.below hb)
          (try replace RF := FR.below_ RF hb)
          replace HSF := HSF.next hb
          replace G1 := G1.below hb G1.lt
          clear HY
          have HY := cells5 G1
          replace HB0 := btr HB0 HB0.size hb
          replace HS := Nat.le_trans HS hb.size
          refine hK.out _ _ ?_ (fun hNew => ?_)
          · (first | exact HY | assumption)
          clear hK K hHeld
          have hHeld := hNew
          clear hNew
          try simp only [Act.put, pz1, pz2, pz3]
          refine wpAnyH_take (i := 14) (oi := ⟨some 5, .assign (.tmp 24), 29, "ref.go:30", #[⟨13, .data⟩, ⟨2, .chain⟩, ⟨0, .phase⟩, ⟨1, .phase⟩, ⟨2, .phase⟩, ⟨3, .phase⟩, ⟨4, .phase⟩, ⟨5, .phase⟩, ⟨6, .phase⟩, ⟨7, .phase⟩, ⟨8, .phase⟩, ⟨9, .phase⟩, ⟨10, .phase⟩, ⟨11, .phase⟩, ⟨12, .phase⟩, ⟨13, .phase⟩], none⟩) (v := ?_) rfl (by kernel_rfl) (by kernel_rfl) (by kernel_rfl) (fun _ _ _ h => h) (Or.inl ⟨by rfl, ?_⟩) (by assumption) ?_
          rotate_left
          · (intro wS hSw; (try dsimp only at hSw); go_simp; (try with_reducible rfl))
          try simp only [Act.put, pz1, pz2, pz3]
          refine wpAnyH_done (by kernel_rfl) ?_ _
          refine NoPanic.normal ?_
          go_wp2_with fail
          go_meet
          exact ⟨m, gN, gW, gD, AF, cf, rfl, NewL.start BM RN RV RD RF ⟨nm1, nm2, nm3, (by first | exact ngNgW | exact ngWgN.symm), (by first | exact ngNgD | exact ngDgN.symm), (by first | exact ngWgD | exact ngDgW.symm)⟩ ⟨nFm, nFgN, nFgW, nFgD⟩ ⟨by omega, by omega, by omega, by omega⟩ G1 HB0 qF⟩
  case rest =>
    clear HY HS HB0 G1 HSF
    obtain ⟨m, gN, gW, gD, AF, cf, rfl, hL0⟩ := hcut
    obtain ⟨NP, hNP⟩ : ∃ NP : Nat, a * b = (NP : Int) := ⟨(a * b).toNat, by omega⟩
    have hw1 : IntKind.i64.wrap (NP : Int) = (NP : Int) := wrapS _ (by omega) (by omega)
    have hNPb : 32 ≤ NP ∧ NP ≤ 160 := by omega
    clear hMb g1 g2 g3 g4
    obtain ⟨g1, -⟩ : True ∧ True := ⟨trivial, trivial⟩
    go_upto_region 4 with fail
    go_wp2_with fail
    go_loopw [6] (fun s6 wr => ∃ (i : Nat) (vB : Value) (P : List (Nat × Nat)), i ≤ NP ∧ s6 = .int .i64 (i : Int) ∧ NewL wr w m gN gW gD AF cf a b c d e fs NB RW i vB P) (fun s6 _ => NP - (intOf s6).toNat)
    case atStart => exact ⟨0, _, _, Nat.zero_le _, rfl, (by first | exact hL0 | exact hL0.like)⟩
    case round =>
      clear hL0
      obtain ⟨i, vB, P, hi, rfl, hL⟩ := hrel
      have HB1 := Below.refl wr.heap.size wr
      have y6 := hL.BM.cell_ 6
      simp at y6
      have G1 := hL.G1
      have HY := cells5 G1
      obtain ⟨HY0, HY1, HY2, HY3, HY4⟩ := cells5 G1
      have hb1 : IntKind.i64.wrap (a * b) = (NP : Int) := by rw [hNP]; exact hw1
      by_cases hlt : i < NP
      · have hlt' : (i : Int) < (NP : Int) := by omega
        go_upto_region 7 with fail
        clear HY0 HY1 HY2 HY3 HY4
        refine wp_region_noPanic ?_
        refine wp_region_held_drew (S := (fun w' => w'.cell? ⟨w.heap.size, 0, none⟩ = some (.int .i64 a) ∧ w'.cell? ⟨w.heap.size, 1, none⟩ = some (.int .i64 b) ∧ w'.cell? ⟨w.heap.size, 2, none⟩ = some (.int .i64 c) ∧ w'.cell? ⟨w.heap.size, 3, none⟩ = some (.int .i64 d) ∧ w'.cell? ⟨w.heap.size, 4, none⟩ = some (.int .i64 e))) (by kernel_rfl) ?_ (fun hHeld => ?_)
        · (first | exact HY | exact HY9 | exact HYe | assumption)
        refine wpAnyH_take (i := 0) (oi := ⟨some 34, .move (.tmp 5), 29, "ref.go:32", #[], none⟩) (v := ?_) rfl (by kernel_rfl) (by kernel_rfl) (by kernel_rfl) (fun _ _ _ h => h) (Or.inl ⟨by rfl, ?_⟩) (by assumption) ?_
        rotate_left
        · (intro wS hSw; (try dsimp only at hSw); go_simp; (try with_reducible rfl))
        try simp only [Act.put, pz1, pz2, pz3]
        refine wpAnyH_take (i := 1) (oi := ⟨some 35, .move (.tmp 5), 29, "ref.go:32", #[], none⟩) (v := ?_) rfl (by kernel_rfl) (by kernel_rfl) (by kernel_rfl) (fun _ _ _ h => h) (Or.inl ⟨by rfl, ?_⟩) (by assumption) ?_
        rotate_left
        · (intro wS hSw; (try dsimp only at hSw); go_simp; (try with_reducible rfl))
        try simp only [Act.put, pz1, pz2, pz3]
        refine wpAnyH_take (i := 2) (oi := ⟨some 36, .nilCheck (.tmp 35), 0, "ref.go:32", #[⟨1, .data⟩], none⟩) (v := ?_) rfl (by kernel_rfl) (by kernel_rfl) (by kernel_rfl) (fun _ _ _ h => h) (Or.inl ⟨by rfl, ?_⟩) (by assumption) ?_
        rotate_left
        · (intro wS hSw; (try dsimp only at hSw); go_simp; (try with_reducible rfl))
        try simp only [Act.put, pz1, pz2, pz3]
        refine wpAnyH_take (i := 3) (oi := ⟨some 37, .fieldAddr 42 (.tmp 36) 2, 0, "ref.go:32", #[⟨2, .data⟩], none⟩) (v := ?_) rfl (by kernel_rfl) (by kernel_rfl) (by kernel_rfl) (fun _ _ _ h => h) (Or.inl ⟨by rfl, ?_⟩) (by assumption) ?_
        rotate_left
        · (intro wS hSw; (try dsimp only at hSw); go_simp; (try with_reducible rfl))
        try simp only [Act.put, pz1, pz2, pz3]
        refine wpAnyH_take (i := 5) (oi := ⟨some 39, .load 23 (.tmp 2), 23, "ref.go:32", #[], none⟩) (v := ?_) rfl (by kernel_rfl) (by kernel_rfl) (by kernel_rfl) (fun _ _ _ h => h) (Or.inl ⟨by rfl, ?_⟩) (by assumption) ?_
        rotate_left
        · (intro wS hSw; (try dsimp only at hSw); go_simp; (try with_reducible rfl))
        try simp only [Act.put, pz1, pz2, pz3]
        refine wpAnyH_ready (rs := [4, 6]) (by kernel_rfl) (by simp) ?_
        refine (AllReadyH.cons (o := ⟨some 38, .load 39 (.tmp 37), 39, "ref.go:32", #[⟨3, .data⟩], none⟩) rfl (fun K hK => ?_) (AllReadyH.cons (o := ⟨some 40, .call { callee := .value (.func 39), args := #[.tmp 39], argTypes := #[23] }, 3, "ref.go:32", #[⟨5, .data⟩], none⟩) rfl (fun K hK => ?_) AllReadyH.nil))
        · go_simp
          refine hK.out _ _ ?_ (fun hNew => ?_)
          · (first | exact HY | exact HY9 | exact HYe | assumption)
          clear hK K hHeld
          have hHeld := hNew
          clear hNew
          try simp only [Act.put, pz1, pz2, pz3]
          refine wpAnyH_ready (rs := [6]) (by kernel_rfl) (by simp) ?_
          refine AllReadyH.cons (o := ⟨some 40, .call { callee := .value (.func 39), args := #[.tmp 39], argTypes := #[23] }, 3, "ref.go:32", #[⟨5, .data⟩], none⟩) rfl (fun K hK => ?_) AllReadyH.nil
          go_simp
          (first | (go_at_call 39; ((with_reducible refine (rraw_b _ _ _ _ _ RW _ HM HRW).mono ?_); rintro e' wN ⟨rfl, hb⟩; (try have hb := undrew hb); replace y6 := cellOf hb y6; replace G1 := G1.below hb G1.lt; clear HY; have HY := cells5 G1; replace HB1 := btr HB1 HB1.size hb)) | (go_at_call 38; ((with_reducible refine (fill_255 RW _ (by omega)).mono ?_); rintro e' wN ⟨⟨g9, rfl, hR9, hge9⟩, hb⟩; (try replace hge9 : _ := Nat.le_trans HB1.size hge9); (try have hb := undrew hb); replace y6 := cellOf hb y6; replace G1 := G1.below hb G1.lt; clear HY; have HY := cells5 G1; replace HB1 := btr HB1 HB1.size hb)))
          go_wp2_with fail
          refine hK.out _ _ ?_ (fun hNew => ?_)
          · (first | exact HY | exact HY9 | exact HYe | assumption)
          clear hK K hHeld
          have hHeld := hNew
          clear hNew
          try simp only [Act.put, pz1, pz2, pz3]
          refine wpAnyH_ready (rs := [7]) (by kernel_rfl) (by simp) ?_
          refine AllReadyH.cons (o := ⟨some 41, .call { callee := .value (.func 38), args := #[.const (.int .u8 255), .tmp 40], argTypes := #[5, 3] }, 48, "ref.go:32", #[⟨6, .data⟩, ⟨6, .chain⟩], none⟩) rfl (fun K hK => ?_) AllReadyH.nil
          go_simp
          (first | (go_at_call 39; ((with_reducible refine (rraw_b _ _ _ _ _ RW _ HM HRW).mono ?_); rintro e' wN ⟨rfl, hb⟩; (try have hb := undrew hb); replace y6 := cellOf hb y6; replace G1 := G1.below hb G1.lt; clear HY; have HY := cells5 G1; replace HB1 := btr HB1 HB1.size hb)) | (go_at_call 38; ((with_reducible refine (fill_255 RW _ (by omega)).mono ?_); rintro e' wN ⟨⟨g9, rfl, hR9, hge9⟩, hb⟩; (try replace hge9 : _ := Nat.le_trans HB1.size hge9); (try have hb := undrew hb); replace y6 := cellOf hb y6; replace G1 := G1.below hb G1.lt; clear HY; have HY := cells5 G1; replace HB1 := btr HB1 HB1.size hb)))
          go_wp2_with fail
          refine hK.out _ _ ?_ (fun hNew => ?_)
          · (first | exact HY | exact HY9 | exact HYe | assumption)
          clear hK K hHeld
          have hHeld := hNew
          clear hNew
          try simp only [Act.put, pz1, pz2, pz3]
          refine wpAnyH_ready (rs := [8]) (by kernel_rfl) (by simp) ?_
          refine AllReadyH.cons (o := ⟨some 42, .buildSlice 39 1 #[(0, .tmp 41)], 39, "ref.go:32", #[⟨7, .data⟩], none⟩) rfl (fun K hK => ?_) AllReadyH.nil
          refine wp_buildPg _ rfl g9 RW RW rfl ?_
          intro wN b9 B9 hqb hb
          (try have hb := undrew hb)
          replace hR9 := hR9.below hb
          (try have hb := undrew hb)
          replace y6 := cellOf hb y6
          replace G1 := G1.below hb G1.lt
          clear HY
          have HY := cells5 G1
          replace HB1 := btr HB1 HB1.size hb
          have z9 := B9.cell_ 0
          simp at z9
          refine hK.out _ _ ?_ (fun hNew => ?_)
          · (first | exact HY | exact HY9 | exact HYe | assumption)
          clear hK K hHeld
          have hHeld := hNew
          clear hNew
          try simp only [Act.put, pz1, pz2, pz3]
          refine wpAnyH_ready (rs := [9]) (by kernel_rfl) (by simp) ?_
          refine AllReadyH.cons (o := ⟨some 43, .call { callee := .builtin .append, args := #[.tmp 38, .tmp 42], argTypes := #[39, 39] }, 39, "ref.go:32", #[⟨4, .data⟩, ⟨8, .data⟩, ⟨7, .chain⟩], none⟩) rfl (fun K hK => ?_) AllReadyH.nil
          obtain ⟨ti0, hi, hz0, hz1, hz2⟩ := info_parts infoPg
          refine wp_app _ (.tmp 38) (.tmp 42) _ rfl (w.heap.size + 1) 48 ti0 _ 1 24 Try.underlying39 hi hz0 hz1 hz2 rfl (by decide) vB i (P.map (pgV RW)) rfl (own_far hL.own (fun g hg => HB1.block g (hL.own.lt g hg).2)) (some ⟨b9, 0, none⟩) 1 1 [pgV RW (g9, RW)] rfl (Rd.one z9) (by intro u hu; simp at hu; subst hu; rfl) (by unfold maxLen; omega) (by omega) (Nat.le_trans (Nat.succ_le_of_lt hL.G1.lt) HB1.size) ?_
          intro v9 w9 ho9 hg9 hv9
          clear hi hz0 hz1 hz2
          have hST := hL.step HB1 hR9 hge9 (by unfold maxLen; omega) ho9 hg9 hv9
          obtain ⟨-, BM9, G9⟩ := hL.mid HB1 hg9
          have y69 := BM9.cell_ 6
          simp at y69
          obtain ⟨gv, cv, hve, -⟩ := own_rowC ho9 (by omega)
          subst hve
          have fm9 := BM9.free
          clear BM9
          have HY9 := cells5 G9
          refine hK.out _ _ ?_ (fun hNew => ?_)
          · (first | exact HY | exact HY9 | exact HYe | assumption)
          clear hK K hHeld
          have hHeld := hNew
          clear hNew
          try simp only [Act.put, pz1, pz2, pz3]
          refine wpAnyH_take (i := 10) (oi := ⟨some 44, .nilCheck (.tmp 34), 0, "ref.go:32", #[⟨0, .data⟩, ⟨0, .phase⟩, ⟨1, .phase⟩, ⟨2, .phase⟩, ⟨3, .phase⟩, ⟨4, .phase⟩, ⟨5, .phase⟩, ⟨6, .phase⟩, ⟨7, .phase⟩, ⟨8, .phase⟩, ⟨9, .phase⟩], none⟩) (v := ?_) rfl (by kernel_rfl) (by kernel_rfl) (by kernel_rfl) (fun _ _ _ h => h) (Or.inl ⟨by rfl, ?_⟩) (by assumption) ?_
          rotate_left
          · (intro wS hSw; (try dsimp only at hSw); go_simp; (try with_reducible rfl))
          try simp only [Act.put, pz1, pz2, pz3]
          refine wpAnyH_take (i := 11) (oi := ⟨some 45, .fieldAddr 42 (.tmp 44) 2, 0, "ref.go:32", #[⟨10, .data⟩, ⟨0, .phase⟩, ⟨1, .phase⟩, ⟨2, .phase⟩, ⟨3, .phase⟩, ⟨4, .phase⟩, ⟨5, .phase⟩, ⟨6, .phase⟩, ⟨7, .phase⟩, ⟨8, .phase⟩, ⟨9, .phase⟩], none⟩) (v := ?_) rfl (by kernel_rfl) (by kernel_rfl) (by kernel_rfl) (fun _ _ _ h => h) (Or.inl ⟨by rfl, ?_⟩) (by assumption) ?_
          rotate_left
          · (intro wS hSw; (try dsimp only at hSw); go_simp; (try with_reducible rfl))
          try simp only [Act.put, pz1, pz2, pz3]
          refine wpAnyH_ready (rs := [12]) (by kernel_rfl) (by simp) ?_
          refine AllReadyH.cons (o := ⟨none, .store 39 (.tmp 45) (.tmp 43), 0, "ref.go:32", #[⟨11, .data⟩, ⟨9, .data⟩, ⟨9, .chain⟩, ⟨0, .phase⟩, ⟨1, .phase⟩, ⟨2, .phase⟩, ⟨3, .phase⟩, ⟨4, .phase⟩, ⟨5, .phase⟩, ⟨6, .phase⟩, ⟨7, .phase⟩, ⟨8, .phase⟩, ⟨9, .phase⟩], none⟩) rfl (fun K hK => ?_) AllReadyH.nil
          go_simp
          have HYe := cells5 (G9.far (p := ⟨m, 6, none⟩) hL.nw (.slice (some ⟨gv, 0, none⟩) (i + 1) cv))
          refine hK.out _ _ ?_ (fun hNew => ?_)
          · (first | exact HY | exact HY9 | exact HYe | assumption)
          clear hK K hHeld
          have hHeld := hNew
          clear hNew
          try simp only [Act.put, pz1, pz2, pz3]
          refine wpAnyH_done (by kernel_rfl) ?_ _
          refine NoPanic.normal ?_
          go_wp2_with fail
          go_roundw
          case rel => exact ⟨i + 1, _, _, by omega, by go_num, (by first | exact hST | exact hST.like)⟩
          case measure => simp [intOf]; omega
        · go_simp
          (first | (go_at_call 39; ((with_reducible refine (rraw_b _ _ _ _ _ RW _ HM HRW).mono ?_); rintro e' wN ⟨rfl, hb⟩; (try have hb := undrew hb); replace y6 := cellOf hb y6; replace G1 := G1.below hb G1.lt; clear HY; have HY := cells5 G1; replace HB1 := btr HB1 HB1.size hb)) | (go_at_call 38; ((with_reducible refine (fill_255 RW _ (by omega)).mono ?_); rintro e' wN ⟨⟨g9, rfl, hR9, hge9⟩, hb⟩; (try replace hge9 : _ := Nat.le_trans HB1.size hge9); (try have hb := undrew hb); replace y6 := cellOf hb y6; replace G1 := G1.below hb G1.lt; clear HY; have HY := cells5 G1; replace HB1 := btr HB1 HB1.size hb)))
          go_wp2_with fail
          refine hK.out _ _ ?_ (fun hNew => ?_)
          · (first | exact HY | exact HY9 | exact HYe | assumption)
          clear hK K hHeld
          have hHeld := hNew
          clear hNew
          try simp only [Act.put, pz1, pz2, pz3]
          refine wpAnyH_ready (rs := [4, 7]) (by kernel_rfl) (by simp) ?_
          refine (AllReadyH.cons (o := ⟨some 38, .load 39 (.tmp 37), 39, "ref.go:32", #[⟨3, .data⟩], none⟩) rfl (fun K hK => ?_) (AllReadyH.cons (o := ⟨some 41, .call { callee := .value (.func 38), args := #[.const (.int .u8 255), .tmp 40], argTypes := #[5, 3] }, 48, "ref.go:32", #[⟨6, .data⟩, ⟨6, .chain⟩], none⟩) rfl (fun K hK => ?_) AllReadyH.nil))
          · go_simp
            refine hK.out _ _ ?_ (fun hNew => ?_)
            · (first | exact HY | exact HY9 | exact HYe | assumption)
            clear hK K hHeld
            have hHeld := hNew
            clear hNew
            try simp only [Act.put, pz1, pz2, pz3]
            refine wpAnyH_ready (rs := [7]) (by kernel_rfl) (by simp) ?_
            refine AllReadyH.cons (o := ⟨some 41, .call { callee := .value (.func 38), args := #[.const (.int .u8 255), .tmp 40], argTypes := #[5, 3] }, 48, "ref.go:32", #[⟨6, .data⟩, ⟨6, .chain⟩], none⟩) rfl (fun K hK => ?_) AllReadyH.nil
            go_simp
            (first | (go_at_call 39; ((with_reducible refine (rraw_b _ _ _ _ _ RW _ HM HRW).mono ?_); rintro e' wN ⟨rfl, hb⟩; (try have hb := undrew hb); replace y6 := cellOf hb y6; replace G1 := G1.below hb G1.lt; clear HY; have HY := cells5 G1; replace HB1 := btr HB1 HB1.size hb)) | (go_at_call 38; ((with_reducible refine (fill_255 RW _ (by omega)).mono ?_); rintro e' wN ⟨⟨g9, rfl, hR9, hge9⟩, hb⟩; (try replace hge9 : _ := Nat.le_trans HB1.size hge9); (try have hb := undrew hb); replace y6 := cellOf hb y6; replace G1 := G1.below hb G1.lt; clear HY; have HY := cells5 G1; replace HB1 := btr HB1 HB1.size hb)))
            go_wp2_with fail
            refine hK.out _ _ ?_ (fun hNew => ?_)
            · (first | exact HY | exact HY9 | exact HYe | assumption)
            clear hK K hHeld
            have hHeld := hNew
            clear hNew
            try simp only [Act.put, pz1, pz2, pz3]
            refine wpAnyH_ready (rs := [8]) (by kernel_rfl) (by simp) ?_
            refine AllReadyH.cons (o := ⟨some 42, .buildSlice 39 1 #[(0, .tmp 41)], 39, "ref.go:32", #[⟨7, .data⟩], none⟩) rfl (fun K hK => ?_) AllReadyH.nil
            refine wp_buildPg _ rfl g9 RW RW rfl ?_
            intro wN b9 B9 hqb hb
            (try have hb := undrew hb)
            replace hR9 := hR9.below hb
            (try have hb := undrew hb)
            replace y6 := cellOf hb y6
            replace G1 := G1.below hb G1.lt
            clear HY
            have HY := cells5 G1
            replace HB1 := btr HB1 HB1.size hb
            have z9 := B9.cell_ 0
            simp at z9
            refine hK.out _ _ ?_ (fun hNew => ?_)
            · (first | exact HY | exact HY9 | exact HYe | assumption)
            clear hK K hHeld
            have hHeld := hNew
            clear hNew
            try simp only [Act.put, pz1, pz2, pz3]
            refine wpAnyH_ready (rs := [9]) (by kernel_rfl) (by simp) ?_
            refine AllReadyH.cons (o := ⟨some 43, .call { callee := .builtin .append, args := #[.tmp 38, .tmp 42], argTypes := #[39, 39] }, 39, "ref.go:32", #[⟨4, .data⟩, ⟨8, .data⟩, ⟨7, .chain⟩], none⟩) rfl (fun K hK => ?_) AllReadyH.nil
            obtain ⟨ti0, hi, hz0, hz1, hz2⟩ := info_parts infoPg
            refine wp_app _ (.tmp 38) (.tmp 42) _ rfl (w.heap.size + 1) 48 ti0 _ 1 24 Try.underlying39 hi hz0 hz1 hz2 rfl (by decide) vB i (P.map (pgV RW)) rfl (own_far hL.own (fun g hg => HB1.block g (hL.own.lt g hg).2)) (some ⟨b9, 0, none⟩) 1 1 [pgV RW (g9, RW)] rfl (Rd.one z9) (by intro u hu; simp at hu; subst hu; rfl) (by unfold maxLen; omega) (by omega) (Nat.le_trans (Nat.succ_le_of_lt hL.G1.lt) HB1.size) ?_
            intro v9 w9 ho9 hg9 hv9
            clear hi hz0 hz1 hz2
            have hST := hL.step HB1 hR9 hge9 (by unfold maxLen; omega) ho9 hg9 hv9
            obtain ⟨-, BM9, G9⟩ := hL.mid HB1 hg9
            have y69 := BM9.cell_ 6
            simp at y69
            obtain ⟨gv, cv, hve, -⟩ := own_rowC ho9 (by omega)
            subst hve
            have fm9 := BM9.free
            clear BM9
            have HY9 := cells5 G9
            refine hK.out _ _ ?_ (fun hNew => ?_)
            · (first | exact HY | exact HY9 | exact HYe | assumption)
            clear hK K hHeld
            have hHeld := hNew
            clear hNew
            try simp only [Act.put, pz1, pz2, pz3]
            refine wpAnyH_take (i := 10) (oi := ⟨some 44, .nilCheck (.tmp 34), 0, "ref.go:32", #[⟨0, .data⟩, ⟨0, .phase⟩, ⟨1, .phase⟩, ⟨2, .phase⟩, ⟨3, .phase⟩, ⟨4, .phase⟩, ⟨5, .phase⟩, ⟨6, .phase⟩, ⟨7, .phase⟩, ⟨8, .phase⟩, ⟨9, .phase⟩], none⟩) (v := ?_) rfl (by kernel_rfl) (by kernel_rfl) (by kernel_rfl) (fun _ _ _ h => h) (Or.inl ⟨by rfl, ?_⟩) (by assumption) ?_
            rotate_left
            · (intro wS hSw; (try dsimp only at hSw); go_simp; (try with_reducible rfl))
            try simp only [Act.put, pz1, pz2, pz3]
            refine wpAnyH_take (i := 11) (oi := ⟨some 45, .fieldAddr 42 (.tmp 44) 2, 0, "ref.go:32", #[⟨10, .data⟩, ⟨0, .phase⟩, ⟨1, .phase⟩, ⟨2, .phase⟩, ⟨3, .phase⟩, ⟨4, .phase⟩, ⟨5, .phase⟩, ⟨6, .phase⟩, ⟨7, .phase⟩, ⟨8, .phase⟩, ⟨9, .phase⟩], none⟩) (v := ?_) rfl (by kernel_rfl) (by kernel_rfl) (by kernel_rfl) (fun _ _ _ h => h) (Or.inl ⟨by rfl, ?_⟩) (by assumption) ?_
            rotate_left
            · (intro wS hSw; (try dsimp only at hSw); go_simp; (try with_reducible rfl))
            try simp only [Act.put, pz1, pz2, pz3]
            refine wpAnyH_ready (rs := [12]) (by kernel_rfl) (by simp) ?_
            refine AllReadyH.cons (o := ⟨none, .store 39 (.tmp 45) (.tmp 43), 0, "ref.go:32", #[⟨11, .data⟩, ⟨9, .data⟩, ⟨9, .chain⟩, ⟨0, .phase⟩, ⟨1, .phase⟩, ⟨2, .phase⟩, ⟨3, .phase⟩, ⟨4, .phase⟩, ⟨5, .phase⟩, ⟨6, .phase⟩, ⟨7, .phase⟩, ⟨8, .phase⟩, ⟨9, .phase⟩], none⟩) rfl (fun K hK => ?_) AllReadyH.nil
            go_simp
            have HYe := cells5 (G9.far (p := ⟨m, 6, none⟩) hL.nw (.slice (some ⟨gv, 0, none⟩) (i + 1) cv))
            refine hK.out _ _ ?_ (fun hNew => ?_)
            · (first | exact HY | exact HY9 | exact HYe | assumption)
            clear hK K hHeld
            have hHeld := hNew
            clear hNew
            try simp only [Act.put, pz1, pz2, pz3]
            refine wpAnyH_done (by kernel_rfl) ?_ _
            refine NoPanic.normal ?_
            go_wp2_with fail
            go_roundw
            case rel => exact ⟨i + 1, _, _, by omega, by go_num, (by first | exact hST | exact hST.like)⟩
            case measure => simp [intOf]; omega
          · go_simp
            (first | (go_at_call 39; ((with_reducible refine (rraw_b _ _ _ _ _ RW _ HM HRW).mono ?_); rintro e' wN ⟨rfl, hb⟩; (try have hb := undrew hb); replace y6 := cellOf hb y6; replace G1 := G1.below hb G1.lt; clear HY; have HY := cells5 G1; replace HB1 := btr HB1 HB1.size hb)) | (go_at_call 38; ((with_reducible refine (fill_255 RW _ (by omega)).mono ?_); rintro e' wN ⟨⟨g9, rfl, hR9, hge9⟩, hb⟩; (try replace hge9 : _ := Nat.le_trans HB1.size hge9); (try have hb := undrew hb); replace y6 := cellOf hb y6; replace G1 := G1.below hb G1.lt; clear HY; have HY := cells5 G1; replace HB1 := btr HB1 HB1.size hb)))
            go_wp2_with fail
            refine hK.out _ _ ?_ (fun hNew => ?_)
            · (first | exact HY | exact HY9 | exact HYe | assumption)
            clear hK K hHeld
            have hHeld := hNew
            clear hNew
            try simp only [Act.put, pz1, pz2, pz3]
            refine wpAnyH_ready (rs := [4, 8]) (by kernel_rfl) (by simp) ?_
            refine (AllReadyH.cons (o := ⟨some 38, .load 39 (.tmp 37), 39, "ref.go:32", #[⟨3, .data⟩], none⟩) rfl (fun K hK => ?_) (AllReadyH.cons (o := ⟨some 42, .buildSlice 39 1 #[(0, .tmp 41)], 39, "ref.go:32", #[⟨7, .data⟩], none⟩) rfl (fun K hK => ?_) AllReadyH.nil))
            · go_simp
              refine hK.out _ _ ?_ (fun hNew => ?_)
              · (first | exact HY | exact HY9 | exact HYe | assumption)
              clear hK K hHeld
              have hHeld := hNew
              clear hNew
              try simp only [Act.put, pz1, pz2, pz3]
              refine wpAnyH_ready (rs := [8]) (by kernel_rfl) (by simp) ?_
              refine AllReadyH.cons (o := ⟨some 42, .buildSlice 39 1 #[(0, .tmp 41)], 39, "ref.go:32", #[⟨7, .data⟩], none⟩) rfl (fun K hK => ?_) AllReadyH.nil
              refine wp_buildPg _ rfl g9 RW RW rfl ?_
              intro wN b9 B9 hqb hb
              (try have hb := undrew hb)
              replace hR9 := hR9.below hb
              (try have hb := undrew hb)
              replace y6 := cellOf hb y6
              replace G1 := G1.below hb G1.lt
              clear HY
              have HY := cells5 G1
              replace HB1 := btr HB1 HB1.size hb
              have z9 := B9.cell_ 0
              simp at z9
              refine hK.out _ _ ?_ (fun hNew => ?_)
              · (first | exact HY | exact HY9 | exact HYe | assumption)
              clear hK K hHeld
              have hHeld := hNew
              clear hNew
              try simp only [Act.put, pz1, pz2, pz3]
              refine wpAnyH_ready (rs := [9]) (by kernel_rfl) (by simp) ?_
              refine AllReadyH.cons (o := ⟨some 43, .call { callee := .builtin .append, args := #[.tmp 38, .tmp 42], argTypes := #[39, 39] }, 39, "ref.go:32", #[⟨4, .data⟩, ⟨8, .data⟩, ⟨7, .chain⟩], none⟩) rfl (fun K hK => ?_) AllReadyH.nil
              obtain ⟨ti0, hi, hz0, hz1, hz2⟩ := info_parts infoPg
              refine wp_app _ (.tmp 38) (.tmp 42) _ rfl (w.heap.size + 1) 48 ti0 _ 1 24 Try.underlying39 hi hz0 hz1 hz2 rfl (by decide) vB i (P.map (pgV RW)) rfl (own_far hL.own (fun g hg => HB1.block g (hL.own.lt g hg).2)) (some ⟨b9, 0, none⟩) 1 1 [pgV RW (g9, RW)] rfl (Rd.one z9) (by intro u hu; simp at hu; subst hu; rfl) (by unfold maxLen; omega) (by omega) (Nat.le_trans (Nat.succ_le_of_lt hL.G1.lt) HB1.size) ?_
              intro v9 w9 ho9 hg9 hv9
              clear hi hz0 hz1 hz2
              have hST := hL.step HB1 hR9 hge9 (by unfold maxLen; omega) ho9 hg9 hv9
              obtain ⟨-, BM9, G9⟩ := hL.mid HB1 hg9
              have y69 := BM9.cell_ 6
              simp at y69
              obtain ⟨gv, cv, hve, -⟩ := own_rowC ho9 (by omega)
              subst hve
              have fm9 := BM9.free
              clear BM9
              have HY9 := cells5 G9
              refine hK.out _ _ ?_ (fun hNew => ?_)
              · (first | exact HY | exact HY9 | exact HYe | assumption)
              clear hK K hHeld
              have hHeld := hNew
              clear hNew
              try simp only [Act.put, pz1, pz2, pz3]
              refine wpAnyH_take (i := 10) (oi := ⟨some 44, .nilCheck (.tmp 34), 0, "ref.go:32", #[⟨0, .data⟩, ⟨0, .phase⟩, ⟨1, .phase⟩, ⟨2, .phase⟩, ⟨3, .phase⟩, ⟨4, .phase⟩, ⟨5, .phase⟩, ⟨6, .phase⟩, ⟨7, .phase⟩, ⟨8, .phase⟩, ⟨9, .phase⟩], none⟩) (v := ?_) rfl (by kernel_rfl) (by kernel_rfl) (by kernel_rfl) (fun _ _ _ h => h) (Or.inl ⟨by rfl, ?_⟩) (by assumption) ?_
              rotate_left
              · (intro wS hSw; (try dsimp only at hSw); go_simp; (try with_reducible rfl))
              try simp only [Act.put, pz1, pz2, pz3]
              refine wpAnyH_take (i := 11) (oi := ⟨some 45, .fieldAddr 42 (.tmp 44) 2, 0, "ref.go:32", #[⟨10, .data⟩, ⟨0, .phase⟩, ⟨1, .phase⟩, ⟨2, .phase⟩, ⟨3, .phase⟩, ⟨4, .phase⟩, ⟨5, .phase⟩, ⟨6, .phase⟩, ⟨7, .phase⟩, ⟨8, .phase⟩, ⟨9, .phase⟩], none⟩) (v := ?_) rfl (by kernel_rfl) (by kernel_rfl) (by kernel_rfl) (fun _ _ _ h => h) (Or.inl ⟨by rfl, ?_⟩) (by assumption) ?_
              rotate_left
              · (intro wS hSw; (try dsimp only at hSw); go_simp; (try with_reducible rfl))
              try simp only [Act.put, pz1, pz2, pz3]
              refine wpAnyH_ready (rs := [12]) (by kernel_rfl) (by simp) ?_
              refine AllReadyH.cons (o := ⟨none, .store 39 (.tmp 45) (.tmp 43), 0, "ref.go:32", #[⟨11, .data⟩, ⟨9, .data⟩, ⟨9, .chain⟩, ⟨0, .phase⟩, ⟨1, .phase⟩, ⟨2, .phase⟩, ⟨3, .phase⟩, ⟨4, .phase⟩, ⟨5, .phase⟩, ⟨6, .phase⟩, ⟨7, .phase⟩, ⟨8, .phase⟩, ⟨9, .phase⟩], none⟩) rfl (fun K hK => ?_) AllReadyH.nil
              go_simp
              have HYe := cells5 (G9.far (p := ⟨m, 6, none⟩) hL.nw (.slice (some ⟨gv, 0, none⟩) (i + 1) cv))
              refine hK.out _ _ ?_ (fun hNew => ?_)
              · (first | exact HY | exact HY9 | exact HYe | assumption)
              clear hK K hHeld
              have hHeld := hNew
              clear hNew
              try simp only [Act.put, pz1, pz2, pz3]
              refine wpAnyH_done (by kernel_rfl) ?_ _
              refine NoPanic.normal ?_
              go_wp2_with fail
              go_roundw
              case rel => exact ⟨i + 1, _, _, by omega, by go_num, (by first | exact hST | exact hST.like)⟩
              case measure => simp [intOf]; omega
            · refine wp_buildPg _ rfl g9 RW RW rfl ?_
              intro wN b9 B9 hqb hb
              (try have hb := undrew hb)
              replace hR9 := hR9.below hb
              (try have hb := undrew hb)
              replace y6 := cellOf hb y6
              replace G1 := G1.below hb G1.lt
              clear HY
              have HY := cells5 G1
              replace HB1 := btr HB1 HB1.size hb
              have z9 := B9.cell_ 0
              simp at z9
              refine hK.out _ _ ?_ (fun hNew => ?_)
              · (first | exact HY | exact HY9 | exact HYe | assumption)
              clear hK K hHeld
              have hHeld := hNew
              clear hNew
              try simp only [Act.put, pz1, pz2, pz3]
              refine wpAnyH_ready (rs := [4]) (by kernel_rfl) (by simp) ?_
              refine AllReadyH.cons (o := ⟨some 38, .load 39 (.tmp 37), 39, "ref.go:32", #[⟨3, .data⟩], none⟩) rfl (fun K hK => ?_) AllReadyH.nil
              go_simp
              refine hK.out _ _ ?_ (fun hNew => ?_)
              · (first | exact HY | exact HY9 | exact HYe | assumption)
              clear hK K hHeld
              have hHeld := hNew
              clear hNew
              try simp only [Act.put, pz1, pz2, pz3]
              refine wpAnyH_ready (rs := [9]) (by kernel_rfl) (by simp) ?_
              refine AllReadyH.cons (o := ⟨some 43, .call { callee := .builtin .append, args := #[.tmp 38, .tmp 42], argTypes := #[39, 39] }, 39, "ref.go:32", #[⟨4, .data⟩, ⟨8, .data⟩, ⟨7, .chain⟩], none⟩) rfl (fun K hK => ?_) AllReadyH.nil
              obtain ⟨ti0, hi, hz0, hz1, hz2⟩ := info_parts infoPg
              refine wp_app _ (.tmp 38) (.tmp 42) _ rfl (w.heap.size + 1) 48 ti0 _ 1 24 Try.underlying39 hi hz0 hz1 hz2 rfl (by decide) vB i (P.map (pgV RW)) rfl (own_far hL.own (fun g hg => HB1.block g (hL.own.lt g hg).2)) (some ⟨b9, 0, none⟩) 1 1 [pgV RW (g9, RW)] rfl (Rd.one z9) (by intro u hu; simp at hu; subst hu; rfl) (by unfold maxLen; omega) (by omega) (Nat.le_trans (Nat.succ_le_of_lt hL.G1.lt) HB1.size) ?_
              intro v9 w9 ho9 hg9 hv9
              clear hi hz0 hz1 hz2
              have hST := hL.step HB1 hR9 hge9 (by unfold maxLen; omega) ho9 hg9 hv9
              obtain ⟨-, BM9, G9⟩ := hL.mid HB1 hg9
              have y69 := BM9.cell_ 6
              simp at y69
              obtain ⟨gv, cv, hve, -⟩ := own_rowC ho9 (by omega)
              subst hve
              have fm9 := BM9.free
              clear BM9
              have HY9 := cells5 G9
              refine hK.out _ _ ?_ (fun hNew => ?_)
              · (first | exact HY | exact HY9 | exact HYe | assumption)
              clear hK K hHeld
              have hHeld := hNew
              clear hNew
              try simp only [Act.put, pz1, pz2, pz3]
              refine wpAnyH_take (i := 10) (oi := ⟨some 44, .nilCheck (.tmp 34), 0, "ref.go:32", #[⟨0, .data⟩, ⟨0, .phase⟩, ⟨1, .phase⟩, ⟨2, .phase⟩, ⟨3, .phase⟩, ⟨4, .phase⟩, ⟨5, .phase⟩, ⟨6, .phase⟩, ⟨7, .phase⟩, ⟨8, .phase⟩, ⟨9, .phase⟩], none⟩) (v := ?_) rfl (by kernel_rfl) (by kernel_rfl) (by kernel_rfl) (fun _ _ _ h => h) (Or.inl ⟨by rfl, ?_⟩) (by assumption) ?_
              rotate_left
              · (intro wS hSw; (try dsimp only at hSw); go_simp; (try with_reducible rfl))
              try simp only [Act.put, pz1, pz2, pz3]
              refine wpAnyH_take (i := 11) (oi := ⟨some 45, .fieldAddr 42 (.tmp 44) 2, 0, "ref.go:32", #[⟨10, .data⟩, ⟨0, .phase⟩, ⟨1, .phase⟩, ⟨2, .phase⟩, ⟨3, .phase⟩, ⟨4, .phase⟩, ⟨5, .phase⟩, ⟨6, .phase⟩, ⟨7, .phase⟩, ⟨8, .phase⟩, ⟨9, .phase⟩], none⟩) (v := ?_) rfl (by kernel_rfl) (by kernel_rfl) (by kernel_rfl) (fun _ _ _ h => h) (Or.inl ⟨by rfl, ?_⟩) (by assumption) ?_
              rotate_left
              · (intro wS hSw; (try dsimp only at hSw); go_simp; (try with_reducible rfl))
              try simp only [Act.put, pz1, pz2, pz3]
              refine wpAnyH_ready (rs := [12]) (by kernel_rfl) (by simp) ?_
              refine AllReadyH.cons (o := ⟨none, .store 39 (.tmp 45) (.tmp 43), 0, "ref.go:32", #[⟨11, .data⟩, ⟨9, .data⟩, ⟨9, .chain⟩, ⟨0, .phase⟩, ⟨1, .phase⟩, ⟨2, .phase⟩, ⟨3, .phase⟩, ⟨4, .phase⟩, ⟨5, .phase⟩, ⟨6, .phase⟩, ⟨7, .phase⟩, ⟨8, .phase⟩, ⟨9, .phase⟩], none⟩) rfl (fun K hK => ?_) AllReadyH.nil
              go_simp
              have HYe := cells5 (G9.far (p := ⟨m, 6, none⟩) hL.nw (.slice (some ⟨gv, 0, none⟩) (i + 1) cv))
              refine hK.out _ _ ?_ (fun hNew => ?_)
              · (first | exact HY | exact HY9 | exact HYe | assumption)
              clear hK K hHeld
              have hHeld := hNew
              clear hNew
              try simp only [Act.put, pz1, pz2, pz3]
              refine wpAnyH_done (by kernel_rfl) ?_ _
              refine NoPanic.normal ?_
              go_wp2_with fail
              go_roundw
              case rel => exact ⟨i + 1, _, _, by omega, by go_num, (by first | exact hST | exact hST.like)⟩
              case measure => simp [intOf]; omega

      · have hlt' : ¬ (i : Int) < (NP : Int) := by omega
        obtain rfl : NP = i := by omega
        go_wp2_with fail
        go_ret
        obtain ⟨gB, hR⟩ := hL.fin hNP.symm (by omega) hNB HRW.out HNX.out HP.out
        first
        | exact ⟨m, gB, gN, gW, gD, AF, cf, rfl, (by first | exact hR | exact hR.like), (by first | exact hL.HB | exact hL.HB.drew)⟩
        | exact ⟨gB, gN, gW, gD, AF, cf, (by first | exact hR | exact hR.like), (by first | exact hL.HB | exact hL.HB.drew)⟩
        | exact ⟨m, rfl, ⟨gB, gN, gW, gD, AF, cf, (by first | exact hR | exact hR.like)⟩, (by first | exact hL.HB | exact hL.HB.drew)⟩
end Go.Proofs.Ytplniojeaodjiaa
namespace Go.Proofs.Ytplniojeaodjiaa
open Go.ChangeShapes Go.WideShapes Go.ChangeAt Go.RowKit Go.Deep

def LeafOk : Option IntKind → Value → Prop
  | some k, v => ∃ z, v = .int k z ∧ (Lit.int k z).wf = true
  | none, v => ∃ b, v = .bool b
/-- Values of these kinds, one by one. -/
def Flat : List (Option IntKind) → List Value → Prop
  | [], cs => cs = []
  | l :: ls, cs => ∃ v r, cs = v :: r ∧ LeafOk l v ∧ Flat ls r
theorem Flat.append : ∀ {ls ms : List (Option IntKind)} {cs ds : List Value}, Flat ls cs → Flat ms ds → Flat (ls ++ ms) (cs ++ ds)
  | [], _, cs, ds, h, k => by
    obtain rfl : cs = [] := h
    exact k
  | _ :: ls, _, _, _, h, k => by
    obtain ⟨v, r, rfl, h1, h2⟩ := h
    exact ⟨v, r ++ _, rfl, h1, h2.append k⟩
theorem Flat.length : ∀ {ls : List (Option IntKind)} {cs : List Value}, Flat ls cs → cs.length = ls.length
  | [], cs, h => by
    obtain rfl : cs = [] := h
    rfl
  | _ :: ls, _, h => by
    obtain ⟨v, r, rfl, _, h2⟩ := h
    simp [h2.length]
def flatFields (P : Program) (sh : TypeId → Option (List (Option IntKind))) : List Field → Nat → Option (List (Option IntKind))
  | [], _ => some []
  | f :: fs, o =>
    if f.offset = o then
      match sh f.type with
      | some l => if P.cellsOf f.type = l.length then
          match flatFields P sh fs (o + l.length) with
          | some r => some (l ++ r)
          | none => none
        else none
      | none => none
    else none
def flatShape (P : Program) : Nat → TypeId → Option (List (Option IntKind))
  | 0, _ => none
  | n + 1, t => match P.underlying t with
    | some (.int k) => some [some k]
    | some .bool => some [none]
    | some (.struct fs) => match flatFields P (flatShape P n) fs.toList 0 with
      | some l => if P.cellsOf t = l.length then some l else none
      | none => none
    | _ => none

section
variable {H : Type} {enc : TypeId × Value → H} {P : Program} {w : World} {base : Nat} {spare : Nat → Bool} {held : Bool}

theorem flat_fields {sh : TypeId → Option (List (Option IntKind))} {n : Nat} (hsh : ∀ t ls cs x, sh t = some ls → DataW.trod enc P w base spare held n t cs = some x → Flat ls cs) (cs : List Value) :
    ∀ (fs : List Field) (o : Nat) (ls : List (Option IntKind)), flatFields P sh fs o = some ls → (∀ f ∈ fs, ∃ y, DataW.trod enc P w base spare held n f.type ((cs.drop f.offset).take (P.cellsOf f.type)) = some y) → cs.length = o + ls.length → Flat ls (cs.drop o)
  | [], o, ls, h, _, hl => by
    simp only [flatFields, Option.some.injEq] at h
    subst h
    show cs.drop o = []
    rw [List.drop_eq_nil_iff]
    simp at hl
    omega
  | f :: fs, o, ls, h, hf, hl => by
    unfold flatFields at h
    split at h
    · rename_i ho
      cases hs : sh f.type with
      | none => rw [hs] at h; cases h
      | some l =>
        rw [hs] at h
        dsimp only at h
        split at h
        · rename_i hc
          cases hr : flatFields P sh fs (o + l.length) with
          | none => rw [hr] at h; cases h
          | some r =>
            rw [hr] at h
            simp only [Option.some.injEq] at h
            subst h
            rw [List.length_append] at hl
            have h1 := flat_fields hsh cs fs (o + l.length) r hr (fun g hg => hf g (List.mem_cons_of_mem _ hg)) (by omega)
            obtain ⟨y, hy⟩ := hf f (List.mem_cons_self)
            have h2 := hsh _ _ _ _ hs hy
            rw [ho, hc] at h2
            have h3 := h2.append h1
            rw [← List.drop_drop, List.take_append_drop] at h3
            exact h3
        · cases h
    · cases h
theorem flat_trod : ∀ (m n : Nat) (t : TypeId) (ls : List (Option IntKind)) (cs : List Value) (x : DataW H × List MemPlace), flatShape P m t = some ls → DataW.trod enc P w base spare held n t cs = some x → Flat ls cs
  | 0, _, _, _, _, _, h, _ => by
    unfold flatShape at h
    cases h
  | m + 1, n, t, ls, cs, x, h, hx => by
    unfold flatShape at h
    split at h
    · rename_i k hk
      simp only [Option.some.injEq] at h
      subst h
      obtain ⟨z, rfl, _, hw⟩ := DataW.trod_int hk hx
      exact ⟨_, _, rfl, ⟨z, rfl, hw⟩, rfl⟩
    · rename_i hk
      simp only [Option.some.injEq] at h
      subst h
      obtain ⟨z, rfl, _⟩ := DataW.trod_bool hk hx
      exact ⟨_, _, rfl, ⟨z, rfl⟩, rfl⟩
    · rename_i fs hk
      obtain ⟨ys, n', rfl, _, hlen, hyl, hf⟩ := DataW.trod_struct hk hx
      cases hr : flatFields P (flatShape P m) fs.toList 0 with
      | none => rw [hr] at h; cases h
      | some l =>
        rw [hr] at h
        dsimp only at h
        split at h
        · rename_i hc
          simp only [Option.some.injEq] at h
          subst h
          have := flat_fields (sh := flatShape P m) (n := n') (fun t ls cs x h k => flat_trod m n' t ls cs x h k) cs fs.toList 0 l hr (by
            intro f hfm
            obtain ⟨i, hi, he⟩ := List.getElem_of_mem hfm
            have hi' : i < fs.size := by simpa using hi
            have hfi : fs[i]? = some f := by
              rw [Array.getElem?_eq_getElem hi', ← he]
              simp
            have h1 := hf i f hfi
            rw [List.getElem?_eq_getElem (by omega)] at h1
            exact ⟨_, h1⟩) (by omega)
          simpa using this
        · cases h
    · cases h
end

/-- The slice at A holds these elements, of C cells each, in a block below B. -/
def SlE (C : Nat) (w : World) (B : Nat) (A : Option Addr) (es : List (List Value)) : Prop :=
  es = [] ∨ ∃ b off, A = some ⟨b, off, none⟩ ∧ b < B ∧ ∀ k x, es[k]? = some x → ∀ j u, x[j]? = some u → w.cell? ⟨b, off + k * C + j, none⟩ = some u
theorem SlE.at_ {C : Nat} {w : World} {B : Nat} {A : Option Addr} {es : List (List Value)} (h : SlE C w B A es) (hn : 0 < es.length) :
    ∃ b off, A = some ⟨b, off, none⟩ ∧ b < B ∧ ∀ k x, es[k]? = some x → ∀ j u, x[j]? = some u → w.cell? ⟨b, off + k * C + j, none⟩ = some u := by
  rcases h with rfl | h
  · simp at hn
  · exact h
theorem SlE.below {C : Nat} {w w' : World} {B : Nat} {A : Option Addr} {es : List (List Value)} (h : SlE C w B A es) (hb : Below B w w') : SlE C w' B A es := by
  rcases h with h | ⟨b, off, e, hlt, hc⟩
  · exact Or.inl h
  · exact Or.inr ⟨b, off, e, hlt, fun k x hx j u hu => (hb.cell (p := ⟨b, _, none⟩) hlt).trans (hc k x hx j u hu)⟩
theorem SlE.mono {C : Nat} {w : World} {B B' : Nat} {A : Option Addr} {es : List (List Value)} (h : SlE C w B A es) (hB : B ≤ B') : SlE C w B' A es := by
  rcases h with h | ⟨b, off, e, hlt, hc⟩
  · exact Or.inl h
  · exact Or.inr ⟨b, off, e, by omega, hc⟩
theorem SlE.next {C : Nat} {w w' : World} {A : Option Addr} {es : List (List Value)} (h : SlE C w w.heap.size A es) (hb : Below w.heap.size w w') : SlE C w' w'.heap.size A es := (h.below hb).mono hb.size

section
variable {H : Type} {enc : TypeId × Value → H} {P : Program} {w : World} {base : Nat} {spare : Nat → Bool} {held : Bool}
def eltOf (w : World) (b off C i : Nat) : List Value := (List.range C).map fun j => (w.cell? ⟨b, off + i * C + j, none⟩).getD undef
theorem flats_value {r : Reach} {b0 : Nat} {t e : TypeId} {ls : List (Option IntKind)} {n : Nat} {v : Value} {d : DataW H} {p : List MemPlace} (ht : P.underlying t = some (.slice e)) (hsh : flatShape P n e = some ls) (hC : P.cellsOf e = ls.length) (hpos : 0 < ls.length)
    (hv : Value.okWide P w r b0 t v) (h : DataW.Trod enc P w base spare held t v d p) :
    ∃ (A : Option Addr) (len cap : Nat) (es : List (List Value)), v = .slice A len cap ∧ len = es.length ∧ len ≤ cap ∧ cap ≤ maxLen ∧ SlE ls.length w w.heap.size A es ∧ ∀ x ∈ es, Flat ls x := by
  obtain ⟨a0, len, cap, rfl⟩ := okWide_slice ht hv
  obtain ⟨fuel, hf⟩ := h
  rcases open_slice ht hf with hcs | ⟨a, len', cap', m, n', D, Pl, hcs, hb, hl, hm', hm, hx, hi⟩
  · have hcs := hcs.1
    simp [Value.cells] at hcs
    obtain ⟨rfl, rfl, rfl⟩ := hcs
    exact ⟨none, 0, 0, [], rfl, rfl, Nat.le_refl _, by unfold maxLen; omega, Or.inl rfl, by simp⟩
  · simp [Value.cells] at hcs
    obtain ⟨rfl, rfl, rfl⟩ := hcs
    have hlm : len ≤ m := by rw [hm]; split <;> omega
    have key : ∀ i, i < len → ∃ cs', cs'.length = ls.length ∧ Flat ls cs' ∧ ∀ j u, cs'[j]? = some u → w.cell? (a.add (i * ls.length + j)) = some u := by
      intro i hlt
      obtain ⟨cs', hc, ht'⟩ := hi i (by omega)
      rw [hC] at hc
      obtain ⟨_, hcl, hat⟩ := World.cells?_some hc
      refine ⟨cs', hcl, flat_trod n n' e ls cs' _ hsh ht', fun j u hu => ?_⟩
      have hj : j < cs'.length := (List.getElem?_eq_some_iff.1 hu).1
      have := hat j (by omega)
      rw [← Go.Deep.add_add, this, hu]
    rcases Nat.eq_zero_or_pos len with h0 | h0
    · subst h0
      exact ⟨some a, 0, cap, [], rfl, rfl, hl, hm', Or.inl rfl, by simp⟩
    · obtain ⟨b, off, spot⟩ := a
      obtain ⟨c0, hc0, _, hu0⟩ := key 0 h0
      have hu0 := hu0 0 (c0[0]'(by omega)) (List.getElem?_eq_getElem (by omega))
      have hsp : spot = none := by simpa [Addr.add] using World.cell?_spot hu0
      subst hsp
      have hb : b < w.heap.size := by simpa [Addr.add] using World.block_lt_of_cell? _ _ hu0
      have hel : ∀ i, i < len → Flat ls (eltOf w b off ls.length i) ∧ ∀ j u, (eltOf w b off ls.length i)[j]? = some u → w.cell? ⟨b, off + i * ls.length + j, none⟩ = some u := by
        intro i hlt
        obtain ⟨cs', hcl, hfl, hat⟩ := key i hlt
        have heq : eltOf w b off ls.length i = cs' := by
          apply List.ext_getElem
          · simp [eltOf, hcl]
          · intro j h1 h2
            have := hat j (cs'[j]) (List.getElem?_eq_getElem h2)
            rw [add_plain] at this
            simp only [eltOf, List.getElem_map, List.getElem_range]
            rw [Nat.add_assoc, this]
            rfl
        rw [heq]
        refine ⟨hfl, fun j u hu => ?_⟩
        have := hat j u hu
        rwa [add_plain, ← Nat.add_assoc] at this
      refine ⟨some ⟨b, off, none⟩, len, cap, (List.range len).map (eltOf w b off ls.length), rfl, by simp, hl, hm', ?_, ?_⟩
      · right
        refine ⟨b, off, rfl, hb, fun i f hv j u hu => ?_⟩
        obtain ⟨hlt, rfl⟩ := List.getElem?_eq_some_iff.1 hv
        have hlt' : i < len := by simpa using hlt
        simp only [List.getElem_map, List.getElem_range] at hu
        exact (hel i hlt').2 j u hu
      · intro f hf
        obtain ⟨i, hi', rfl⟩ := List.mem_map.1 hf
        exact (hel i (by simpa using hi')).1
end
theorem Flat.int {k : IntKind} {ls : List (Option IntKind)} {cs : List Value} (h : Flat (some k :: ls) cs) : ∃ z r, cs = .int k z :: r ∧ (Lit.int k z).wf = true ∧ Flat ls r := by
  obtain ⟨v, r, rfl, ⟨z, rfl, hw⟩, h2⟩ := h
  exact ⟨z, r, rfl, hw, h2⟩
theorem Flat.bool {ls : List (Option IntKind)} {cs : List Value} (h : Flat (none :: ls) cs) : ∃ z r, cs = .bool z :: r ∧ Flat ls r := by
  obtain ⟨v, r, rfl, ⟨z, rfl⟩, h2⟩ := h
  exact ⟨z, r, rfl, h2⟩
theorem Flat.nil {cs : List Value} (h : Flat [] cs) : cs = [] := h
end Go.Proofs.Ytplniojeaodjiaa
namespace Go.Proofs.Ytplniojeaodjiaa
open Go.ChangeShapes Go.WideShapes Go.ChangeAt Go.RowKit Go.Deep

section
variable {H : Type} {enc : TypeId × Value → H} {P : Program} {w : World} {base : Nat} {spare : Nat → Bool} {held : Bool}
end
end Go.Proofs.Ytplniojeaodjiaa
namespace Go.Proofs.Ytplniojeaodjiaa
open Go.ChangeShapes Go.WideShapes Go.ChangeAt Go.RowKit
set_option linter.unusedSimpArgs false
set_option linter.unusedVariables false

theorem act_cells {e : List Value} (h : Flat [some .i64, some .i64, some .i64, some .u8, some .i64, some .i64, some .i64, some .u8] e) : ∃ (dd px py : Int) (nn : Nat) (ln co cb : Int) (cf : Nat), e = [.int .i64 dd, .int .i64 px, .int .i64 py, .int .u8 (nn : Int), .int .i64 ln, .int .i64 co, .int .i64 cb, .int .u8 (cf : Int)] ∧ nn < 256 ∧ i64in ln ∧ cf < 256 := by
  obtain ⟨x0, r0, rfl, h0, h⟩ := h.int
  obtain ⟨x1, r1, rfl, h1, h⟩ := h.int
  obtain ⟨x2, r2, rfl, h2, h⟩ := h.int
  obtain ⟨x3, r3, rfl, h3, h⟩ := h.int
  obtain ⟨x4, r4, rfl, h4, h⟩ := h.int
  obtain ⟨x5, r5, rfl, h5, h⟩ := h.int
  obtain ⟨x6, r6, rfl, h6, h⟩ := h.int
  obtain ⟨x7, r7, rfl, h7, h⟩ := h.int
  obtain rfl := h.nil
  have e1 : IntKind.u8.min = 0 := rfl
  have e2 : IntKind.u8.max = 255 := rfl
  simp only [Lit.wf, Bool.and_eq_true, decide_eq_true_eq, e1, e2] at h3 h7
  refine ⟨x0, x1, x2, x3.toNat, x4, x5, x6, x7.toNat, ?_, by omega, i64in_of h4, by omega⟩
  rw [Int.toNat_of_nonneg h3.1, Int.toNat_of_nonneg h7.1]
theorem done_lit (L m gx gb : Nat) (Af : Option Addr) (nf cf mR gB gN gW gD : Nat) (AfR : Option Addr) (nfR cfR : Nat) (a b c d e : Int) (fs : List Flt) (px py n : Int) (w : World) (s : ChS) (h0 : Two w L m gx gb Af nf cf mR gB gN gW gD AfR nfR cfR a b c d e fs s s) (hg : Good s n) (hn : n ≤ 800000000) (hn0 : 20 ≤ n) : Calls Try.prog 13 #[.pointer (some ⟨m, 0, none⟩), .pointer (some ⟨mR, 0, none⟩), .agg #[.int .i64 0, .int .i64 px, .int .i64 py, .int .u8 0, .int .i64 0, .int .i64 0, .int .i64 0, .int .u8 0]] w fun e' w' => e' = .returned (.bool true) ∧ (∃ S, Two w' L m gx gb Af nf cf mR gB gN gW gD AfR nfR cfR a b c d e fs S S ∧ Hid (Good S (n + 3))) ∧ Tch (twB m gx gb mR gB gN gW gD) w w' :=
  done_any L m gx gb Af nf cf mR gB gN gW gD AfR nfR cfR a b c d e fs 0 px py 0 0 0 0 0 n w s h0 hg hn hn0 (by omega) (by unfold i64in; omega) (by omega)
theorem SlF.drew_ {w : World} {A : Option Addr} {fs : List Flt} (h : SlF w w.heap.size A fs) : SlF w.drew w.drew.heap.size A fs := h
theorem two_start {w1 w2 : World} {m gx gb : Nat} {Af : Option Addr} {nf cf mR gB gN gW gD : Nat} {AfR : Option Addr} {nfR cfR : Nat} {a b c d e : Int} {fs : List Flt} {s : ChS} (hC : ChipW w1 m gx gb Af nf cf a b c d e fs s) (hR : RefW w2 mR gB gN gW gD w1.heap.size AfR nfR cfR a b c d e fs s) (hb : Below w1.heap.size w1 w2) : Two w2 w1.heap.size m gx gb Af nf cf mR gB gN gW gD AfR nfR cfR a b c d e fs s s := by
  have hlt := hC.lt
  refine ⟨⟨hC.below hb, fun g hg => ?_, ?_⟩, hR⟩
  · rcases hg with rfl | rfl | rfl
    · exact hlt.1
    · exact hlt.2.1
    · exact hlt.2.2
  · rcases hC.flt with h1 | ⟨g, off, e, hl, _⟩
    · exact Or.inl h1
    · exact Or.inr ⟨g, off, e, hl⟩
theorem two_startE {w1 w2 : World} {m gx gb : Nat} {Af : Option Addr} {nf cf mR gB gN gW gD : Nat} {AfR : Option Addr} {nfR cfR : Nat} {a b c d e : Int} {fs : List Flt} {s : ChS} (hC : ChipW w1 m gx gb Af nf cf a b c d e fs s) (hR : RefW w2 mR gB gN gW gD w1.heap.size AfR nfR cfR a b c d e fs s) (hb : Below w1.heap.size w1 w2) : ∃ L, Two w2 L m gx gb Af nf cf mR gB gN gW gD AfR nfR cfR a b c d e fs s s := ⟨_, two_start hC hR hb⟩
theorem two_low {w2 : World} {m gx gb mR gB gN gW gD : Nat} {AfR : Option Addr} {nfR cfR : Nat} {a b c d e : Int} {fs : List Flt} {s : ChS} {K w0s w1s : Nat} (hA : K + 1 ≤ w0s) (hB : K + 1 ≤ w1s) (hm : w0s ≤ m) (hgx : w0s ≤ gx) (hgb : w0s ≤ gb) (hR : RefW w2 mR gB gN gW gD w1s AfR nfR cfR a b c d e fs s) : ∀ g, twB m gx gb mR gB gN gW gD g → K < g := by
  intro g hg
  rcases hg with hg | hg
  · rcases hg with rfl | rfl | rfl <;> omega
  · have := hR.ge g hg
    omega
theorem good_new (NX NB : Nat) : Good (ChS.new NX NB) 20 := by
  have hz : ∀ i, (List.replicate (3 * NB) (0 : Int)).getD i 0 = 0 := by
    intro i
    rw [List.getD_eq_getElem?_getD, List.getElem?_replicate]
    split <;> rfl
  exact ⟨⟨⟨by simp [ChS.new], by simp [ChS.new], by simp [ChS.new], by simp [ChS.new], fun i => by show 0 ≤ (List.replicate (3 * NB) (0 : Int)).getD i 0; rw [hz]; omega, fun i => by show (List.replicate (3 * NB) (0 : Int)).getD i 0 ≤ 20; rw [hz]; omega⟩, by simp [ChS.new], by simp [ChS.new]⟩, ⟨fun h => by simp [ChS.new] at h, fun h => by simp [ChS.new] at h⟩⟩
set_option maxRecDepth 100000 in
set_option maxHeartbeats 8000000 in
theorem cscript_walk (a b c d e : Int) (A1 : Option Addr) (n1 c1 : Nat) (fs : List Flt) (A : Option Addr) (len cap : Nat) (es : List (List Value)) (w : World) (_ : i64in a ∧ i64in b ∧ i64in c ∧ i64in d ∧ i64in e) (hflt : n1 = fs.length ∧ n1 ≤ c1 ∧ c1 ≤ maxLen ∧ SlF w w.heap.size A1 fs) (hacts : len = es.length ∧ len ≤ cap ∧ cap ≤ maxLen ∧ SlE 8 w w.heap.size A es ∧ ∀ x ∈ es, Flat [some .i64, some .i64, some .i64, some .u8, some .i64, some .i64, some .i64, some .u8] x) :
    Calls Try.prog 3 #[.agg #[.int .i64 a, .int .i64 b, .int .i64 c, .int .i64 d, .int .i64 e], .slice A1 n1 c1, .slice A len cap] w fun e' w' => e' = .returned (.bool true) ∧ Below w.heap.size w w' := by
  obtain ⟨hlen, hl1, hl2, hsl, hfl⟩ := hacts
  have HLen := Lib.hid hlen
  clear hlen hl1 hl2
  obtain ⟨rfl, hq1, hq2, hsf⟩ := hflt
  have HC0 := Lib.hid hq1
  have HC1 := Lib.hid hq2
  clear hq1 hq2
  have HB0 : Below w.heap.size w (w.alloc (.cells #[.int .i64 a, .int .i64 b, .int .i64 c, .int .i64 d, .int .i64 e] 23)) := (Below.refl _ _).alloc (Nat.le_refl _) _
  have G1 : Blk (w.alloc (.cells #[.int .i64 a, .int .i64 b, .int .i64 c, .int .i64 d, .int .i64 e] 23)) w.heap.size 23 #[.int .i64 a, .int .i64 b, .int .i64 c, .int .i64 d, .int .i64 e] := Blk.new_ _ _ _
  have HY := cells5 G1
  have HSF := hsf.next HB0
  clear hsf
  by_cases h80 : 80 < len
  · have h81 : (80 : Int) < (len : Int) := by omega
    go_enter Try.func3, Try.ntmps3
    go_wp2_with (go_at_call 10; ((with_reducible refine (awake_any _).mono ?_); rintro e' wN ⟨rfl, hb⟩; replace HB0 := btr HB0 HB0.size hb))
    go_ret
    exact ⟨rfl, HB0⟩
  have h81 : ¬ (80 : Int) < (len : Int) := by omega
  by_cases h20 : 20 < fs.length
  · have h21 : (20 : Int) < (fs.length : Int) := by omega
    go_enter Try.func3, Try.ntmps3
    go_wp2_with (go_at_call 10; ((with_reducible refine (awake_any _).mono ?_); rintro e' wN ⟨rfl, hb⟩; replace HB0 := btr HB0 HB0.size hb))
    go_ret
    exact ⟨rfl, HB0⟩
  have h21 : ¬ (20 : Int) < (fs.length : Int) := by omega
  rcases (by cases hq : planMay a b c d e fs <;> simp : planMay a b c d e fs = false ∨ planMay a b c d e fs = true) with hpm | hpm
  · have HP := Lib.hid hpm
    clear hpm
    go_enter Try.func3, Try.ntmps3
    go_upto_region 3 with fail
    refine wp_region_noPanic ?_
    refine wp_region_held_drew (S := (fun w' => w'.cell? ⟨w.heap.size, 0, none⟩ = some (.int .i64 a) ∧ w'.cell? ⟨w.heap.size, 1, none⟩ = some (.int .i64 b) ∧ w'.cell? ⟨w.heap.size, 2, none⟩ = some (.int .i64 c) ∧ w'.cell? ⟨w.heap.size, 3, none⟩ = some (.int .i64 d) ∧ w'.cell? ⟨w.heap.size, 4, none⟩ = some (.int .i64 e))) (by kernel_rfl) ?_ (fun hHeld => ?_)
    · (first | exact HY | assumption)
    refine wpAnyH_take (i := 0) (oi := ⟨some 21, .load 23 (.tmp 3), 23, "law.go:107", #[], none⟩) (v := ?_) rfl (by kernel_rfl) (by kernel_rfl) (by kernel_rfl) (fun _ _ _ h => h) (Or.inl ⟨by rfl, ?_⟩) (by assumption) ?_
    rotate_left
    · (intro wS hSw; (try dsimp only at hSw); go_simp; (try with_reducible rfl))
    try simp only [Act.put, pz1, pz2, pz3]
    refine wpAnyH_take (i := 1) (oi := ⟨some 22, .move (.tmp 1), 24, "law.go:107", #[], none⟩) (v := ?_) rfl (by kernel_rfl) (by kernel_rfl) (by kernel_rfl) (fun _ _ _ h => h) (Or.inl ⟨by rfl, ?_⟩) (by assumption) ?_
    rotate_left
    · (intro wS hSw; (try dsimp only at hSw); go_simp; (try with_reducible rfl))
    try simp only [Act.put, pz1, pz2, pz3]
    refine wpAnyH_take (i := 3) (oi := ⟨some 24, .load 23 (.tmp 3), 23, "law.go:107", #[], none⟩) (v := ?_) rfl (by kernel_rfl) (by kernel_rfl) (by kernel_rfl) (fun _ _ _ h => h) (Or.inl ⟨by rfl, ?_⟩) (by assumption) ?_
    rotate_left
    · (intro wS hSw; (try dsimp only at hSw); go_simp; (try with_reducible rfl))
    try simp only [Act.put, pz1, pz2, pz3]
    refine wpAnyH_take (i := 4) (oi := ⟨some 25, .move (.tmp 1), 24, "law.go:107", #[], none⟩) (v := ?_) rfl (by kernel_rfl) (by kernel_rfl) (by kernel_rfl) (fun _ _ _ h => h) (Or.inl ⟨by rfl, ?_⟩) (by assumption) ?_
    rotate_left
    · (intro wS hSw; (try dsimp only at hSw); go_simp; (try with_reducible rfl))
    try simp only [Act.put, pz1, pz2, pz3]
    refine wpAnyH_ready (rs := [2]) (by kernel_rfl) (by simp) ?_
    refine AllReadyH.cons (o := ⟨some 23, .call { callee := .value (.func 11), args := #[.tmp 21, .tmp 22], argTypes := #[23, 24] }, 27, "law.go:107", #[⟨0, .data⟩, ⟨1, .data⟩], none⟩) rfl (fun K hK => ?_) AllReadyH.nil
    go_simp
    (first | (go_at_call 11; ((with_reducible refine (newF_no _ _ _ _ _ fs _ _ _ (by first | exact HSF | exact SlF.drew_ HSF) HC0.out HC1.out HP).mono ?_); rintro e' wN ⟨rfl, hb⟩; (try have hb := undrew hb); replace HB0 := btr HB0 HB0.size hb; replace HSF := HSF.next hb; replace G1 := G1.below hb G1.lt; (try clear HY); have HY := cells5 G1)) | (go_at_call 12; ((with_reducible refine (rnew_no _ _ _ _ _ fs _ _ _ (by first | exact HSF | exact SlF.drew_ HSF) HP).mono ?_); rintro e' wN ⟨rfl, hb⟩; (try have hb := undrew hb); replace HB0 := btr HB0 HB0.size hb; replace HSF := HSF.next hb; replace G1 := G1.below hb G1.lt; (try clear HY); have HY := cells5 G1)))
    go_wp2_with fail
    refine hK.out _ _ ?_ (fun hNew => ?_)
    · (first | exact HY | assumption)
    clear hK K hHeld
    have hHeld := hNew
    clear hNew
    try simp only [Act.put, pz1, pz2, pz3]
    refine wpAnyH_ready (rs := [5]) (by kernel_rfl) (by simp) ?_
    refine AllReadyH.cons (o := ⟨some 26, .call { callee := .value (.func 12), args := #[.tmp 24, .tmp 25], argTypes := #[23, 24] }, 29, "law.go:107", #[⟨3, .data⟩, ⟨4, .data⟩, ⟨2, .chain⟩], none⟩) rfl (fun K hK => ?_) AllReadyH.nil
    go_simp
    (first | (go_at_call 11; ((with_reducible refine (newF_no _ _ _ _ _ fs _ _ _ (by first | exact HSF | exact SlF.drew_ HSF) HC0.out HC1.out HP).mono ?_); rintro e' wN ⟨rfl, hb⟩; (try have hb := undrew hb); replace HB0 := btr HB0 HB0.size hb; replace HSF := HSF.next hb; replace G1 := G1.below hb G1.lt; (try clear HY); have HY := cells5 G1)) | (go_at_call 12; ((with_reducible refine (rnew_no _ _ _ _ _ fs _ _ _ (by first | exact HSF | exact SlF.drew_ HSF) HP).mono ?_); rintro e' wN ⟨rfl, hb⟩; (try have hb := undrew hb); replace HB0 := btr HB0 HB0.size hb; replace HSF := HSF.next hb; replace G1 := G1.below hb G1.lt; (try clear HY); have HY := cells5 G1)))
    go_wp2_with fail
    refine hK.out _ _ ?_ (fun hNew => ?_)
    · (first | exact HY | assumption)
    clear hK K hHeld
    have hHeld := hNew
    clear hNew
    try simp only [Act.put, pz1, pz2, pz3]
    refine wpAnyH_take (i := 6) (oi := ⟨some 7, .assign (.tmp 23), 27, "law.go:107", #[⟨2, .data⟩, ⟨5, .chain⟩, ⟨0, .phase⟩, ⟨1, .phase⟩, ⟨2, .phase⟩, { on := 3, ground := Ground.textOnly Departure.lateStores }, { on := 4, ground := Ground.textOnly Departure.lateStores }, { on := 5, ground := Ground.textOnly Departure.lateStoresUnsure }], none⟩) (v := ?_) rfl (by kernel_rfl) (by kernel_rfl) (by kernel_rfl) (fun _ _ _ h => h) (Or.inl ⟨by rfl, ?_⟩) (by assumption) ?_
    rotate_left
    · (intro wS hSw; (try dsimp only at hSw); go_simp; (try with_reducible rfl))
    try simp only [Act.put, pz1, pz2, pz3]
    refine wpAnyH_take (i := 7) (oi := ⟨some 8, .assign (.tmp 26), 29, "law.go:107", #[⟨5, .data⟩, ⟨6, .chain⟩, ⟨0, .phase⟩, ⟨1, .phase⟩, ⟨2, .phase⟩, ⟨3, .phase⟩, ⟨4, .phase⟩, ⟨5, .phase⟩, ⟨6, .phase⟩], none⟩) (v := ?_) rfl (by kernel_rfl) (by kernel_rfl) (by kernel_rfl) (fun _ _ _ h => h) (Or.inl ⟨by rfl, ?_⟩) (by assumption) ?_
    rotate_left
    · (intro wS hSw; (try dsimp only at hSw); go_simp; (try with_reducible rfl))
    try simp only [Act.put, pz1, pz2, pz3]
    refine wpAnyH_done (by kernel_rfl) ?_ _
    refine NoPanic.normal ?_
    go_wp2_with (go_at_call 10; ((with_reducible refine (awake_any _).mono ?_); rintro e' wN ⟨rfl, hb⟩; replace HB0 := btr HB0 HB0.size hb))
    go_ret
    exact ⟨rfl, HB0⟩
  have HP := Lib.hid hpm
  obtain ⟨q1, q2, q3, q4, q5, q6, -⟩ := may_bd (planMay_bd hpm).1
  obtain ⟨p1, p2⟩ := mul_bd (x := a) (y := b) (lo := 8) (hi := 20) (l2 := 4) (h2 := 8) q1 q2 q3 q4 (by omega) (by omega)
  obtain ⟨p3, p4⟩ := mul_bd (x := a * b) (y := c + 16) (lo := 32) (hi := 160) (l2 := 40) (h2 := 80) (by omega) (by omega) (by omega) (by omega) (by omega) (by omega)
  obtain ⟨NX, hNX⟩ : ∃ NX : Nat, (NX : Int) = a * b * (c + 16) := ⟨(a * b * (c + 16)).toNat, by omega⟩
  obtain ⟨NB, hNB⟩ : ∃ NB : Nat, (NB : Int) = a := ⟨a.toNat, by omega⟩
  obtain ⟨RW, hRW⟩ : ∃ RW : Nat, (RW : Int) = c + 16 := ⟨(c + 16).toNat, by omega⟩
  have hNXn : NX = (a * b * (c + 16)).toNat := by omega
  have nx1 : 1 ≤ NX := by omega
  have nx2 : NX ≤ 100000 := by omega
  have nb1 : NB ≤ 1000 := by omega
  have HNX := Lib.hid hNX
  have HNXn := Lib.hid hNXn
  have HNB := Lib.hid hNB
  have HRW := Lib.hid hRW
  clear hNX hNXn hNB hRW p1 p2 p3 p4 hpm q5 q6
  go_enter Try.func3, Try.ntmps3
  go_upto_region 3 with fail
  refine wp_region_noPanic ?_
  refine wp_region_held_drew (S := (fun w' => w'.cell? ⟨w.heap.size, 0, none⟩ = some (.int .i64 a) ∧ w'.cell? ⟨w.heap.size, 1, none⟩ = some (.int .i64 b) ∧ w'.cell? ⟨w.heap.size, 2, none⟩ = some (.int .i64 c) ∧ w'.cell? ⟨w.heap.size, 3, none⟩ = some (.int .i64 d) ∧ w'.cell? ⟨w.heap.size, 4, none⟩ = some (.int .i64 e))) (by kernel_rfl) ?_ (fun hHeld => ?_)
  · (first | exact HY | assumption)
  refine wpAnyH_take (i := 0) (oi := ⟨some 21, .load 23 (.tmp 3), 23, "law.go:107", #[], none⟩) (v := ?_) rfl (by kernel_rfl) (by kernel_rfl) (by kernel_rfl) (fun _ _ _ h => h) (Or.inl ⟨by rfl, ?_⟩) (by assumption) ?_
  rotate_left
  · (intro wS hSw; (try dsimp only at hSw); go_simp; (try with_reducible rfl))
  try simp only [Act.put, pz1, pz2, pz3]
  refine wpAnyH_take (i := 1) (oi := ⟨some 22, .move (.tmp 1), 24, "law.go:107", #[], none⟩) (v := ?_) rfl (by kernel_rfl) (by kernel_rfl) (by kernel_rfl) (fun _ _ _ h => h) (Or.inl ⟨by rfl, ?_⟩) (by assumption) ?_
  rotate_left
  · (intro wS hSw; (try dsimp only at hSw); go_simp; (try with_reducible rfl))
  try simp only [Act.put, pz1, pz2, pz3]
  refine wpAnyH_take (i := 3) (oi := ⟨some 24, .load 23 (.tmp 3), 23, "law.go:107", #[], none⟩) (v := ?_) rfl (by kernel_rfl) (by kernel_rfl) (by kernel_rfl) (fun _ _ _ h => h) (Or.inl ⟨by rfl, ?_⟩) (by assumption) ?_
  rotate_left
  · (intro wS hSw; (try dsimp only at hSw); go_simp; (try with_reducible rfl))
  try simp only [Act.put, pz1, pz2, pz3]
  refine wpAnyH_take (i := 4) (oi := ⟨some 25, .move (.tmp 1), 24, "law.go:107", #[], none⟩) (v := ?_) rfl (by kernel_rfl) (by kernel_rfl) (by kernel_rfl) (fun _ _ _ h => h) (Or.inl ⟨by rfl, ?_⟩) (by assumption) ?_
  rotate_left
  · (intro wS hSw; (try dsimp only at hSw); go_simp; (try with_reducible rfl))
  try simp only [Act.put, pz1, pz2, pz3]
  refine wpAnyH_ready (rs := [2]) (by kernel_rfl) (by simp) ?_
  refine AllReadyH.cons (o := ⟨some 23, .call { callee := .value (.func 11), args := #[.tmp 21, .tmp 22], argTypes := #[23, 24] }, 27, "law.go:107", #[⟨0, .data⟩, ⟨1, .data⟩], none⟩) rfl (fun K hK => ?_) AllReadyH.nil
  go_simp
  (go_at_call 11; ((with_reducible refine (newF_yes _ _ _ _ _ fs _ _ NX NB _ (by first | exact HSF | exact SlF.drew_ HSF) HC0.out HC1.out (by omega) HP HNX.out HNB.out (by omega) (by omega) (by omega)).mono ?_); rintro e' wN ⟨⟨m, gx, gb, AF, cf, rfl, hC, hm, hgx, hgb⟩, hb⟩; have hszA := Nat.succ_le_of_lt G1.lt; (try have hb := undrew hb); replace HB0 := btr HB0 HB0.size hb; replace HSF := HSF.next hb; replace G1 := G1.below hb G1.lt; (try clear HY); have HY := cells5 G1))
  go_wp2_with fail
  refine hK.out _ _ ?_ (fun hNew => ?_)
  · (first | exact HY | assumption)
  clear hK K hHeld
  have hHeld := hNew
  clear hNew
  try simp only [Act.put, pz1, pz2, pz3]
  refine wpAnyH_ready (rs := [5]) (by kernel_rfl) (by simp) ?_
  refine AllReadyH.cons (o := ⟨some 26, .call { callee := .value (.func 12), args := #[.tmp 24, .tmp 25], argTypes := #[23, 24] }, 29, "law.go:107", #[⟨3, .data⟩, ⟨4, .data⟩, ⟨2, .chain⟩], none⟩) rfl (fun K hK => ?_) AllReadyH.nil
  go_simp
  (go_at_call 12; ((with_reducible refine (rnew_yes _ _ _ _ _ fs _ _ _ (by first | exact HSF | exact SlF.drew_ HSF) NB NX RW HNB.out HNXn.out HRW (by omega) HP).mono ?_); rintro e' wN ⟨mR, gB, gN, gW, gD, AF2, cf2, rfl, hR, hb⟩; (try have hb := undrew hb); have hszB := Nat.succ_le_of_lt G1.lt; obtain ⟨L, h⟩ := two_startE hC hR hb; have hLo := two_low (K := w.heap.size) hszA hszB hm hgx hgb hR; (try have hb := undrew hb); replace HB0 := btr HB0 HB0.size hb; replace HSF := HSF.next hb; replace G1 := G1.below hb G1.lt; (try clear HY); have HY := cells5 G1))
  go_wp2_with fail
  refine hK.out _ _ ?_ (fun hNew => ?_)
  · (first | exact HY | assumption)
  clear hK K hHeld
  have hHeld := hNew
  clear hNew
  try simp only [Act.put, pz1, pz2, pz3]
  refine wpAnyH_take (i := 6) (oi := ⟨some 7, .assign (.tmp 23), 27, "law.go:107", #[⟨2, .data⟩, ⟨5, .chain⟩, ⟨0, .phase⟩, ⟨1, .phase⟩, ⟨2, .phase⟩, { on := 3, ground := Ground.textOnly Departure.lateStores }, { on := 4, ground := Ground.textOnly Departure.lateStores }, { on := 5, ground := Ground.textOnly Departure.lateStoresUnsure }], none⟩) (v := ?_) rfl (by kernel_rfl) (by kernel_rfl) (by kernel_rfl) (fun _ _ _ h => h) (Or.inl ⟨by rfl, ?_⟩) (by assumption) ?_
  rotate_left
  · (intro wS hSw; (try dsimp only at hSw); go_simp; (try with_reducible rfl))
  try simp only [Act.put, pz1, pz2, pz3]
  refine wpAnyH_take (i := 7) (oi := ⟨some 8, .assign (.tmp 26), 29, "law.go:107", #[⟨5, .data⟩, ⟨6, .chain⟩, ⟨0, .phase⟩, ⟨1, .phase⟩, ⟨2, .phase⟩, ⟨3, .phase⟩, ⟨4, .phase⟩, ⟨5, .phase⟩, ⟨6, .phase⟩], none⟩) (v := ?_) rfl (by kernel_rfl) (by kernel_rfl) (by kernel_rfl) (fun _ _ _ h => h) (Or.inl ⟨by rfl, ?_⟩) (by assumption) ?_
  rotate_left
  · (intro wS hSw; (try dsimp only at hSw); go_simp; (try with_reducible rfl))
  try simp only [Act.put, pz1, pz2, pz3]
  refine wpAnyH_done (by kernel_rfl) ?_ _
  refine NoPanic.normal ?_
  obtain ⟨wm, hwm⟩ : ∃ V : World, V = wN := ⟨_, rfl⟩
  rw [← hwm] at h HB0 G1 HY ⊢
  clear hwm hb hm hgx hgb hszA hszB hC hR HSF
  have hnb : ¬ twB m gx gb mR gB gN gW gD w.heap.size := fun e => by have := hLo _ e; omega
  have HT : Tch (twB m gx gb mR gB gN gW gD) wm wm := Tch.refl _
  have HK0 : Hid (Good (ChS.new NX NB) 20) := Lib.hid (good_new NX NB)
  go_wp2_with fail
  go_loopw [9] (fun s9 wr => ∃ (i : Nat) (S : ChS), i ≤ len ∧ s9 = .int .i64 (i : Int) ∧ Two wr L m gx gb AF fs.length cf mR gB gN gW gD AF2 fs.length cf2 a b c d e fs S S ∧ Hid (Good S (20 + 3 * (i : Int))) ∧ Tch (twB m gx gb mR gB gN gW gD) wm wr) (fun s9 _ => len - (intOf s9).toNat)
  case atStart => exact ⟨0, _, Nat.zero_le _, rfl, (by first | exact h | exact h.drew), Lib.hid (HK0.out.mono (by omega)), (by first | exact HT | exact HT.like)⟩
  case round =>
    clear h HK0 HT HY
    obtain ⟨i, S, hi, rfl, h, HK, HT⟩ := hrel
    by_cases hlt : i < len
    · have i1 : (i : Int) < (len : Int) := by omega
      have i0 : (0 : Int) ≤ (i : Int) := by omega
      obtain ⟨g, off, rfl, hgl, hcl⟩ := hsl.at_ (by have := HLen.out; omega)
      have hget : es[i]? = some (es[i]'(by have := HLen.out; omega)) := List.getElem?_eq_getElem _
      obtain ⟨dd, px, py, nn, ln, co, cb, cu, he, hnn, hln, hcf⟩ := act_cells (hfl _ (List.getElem_mem (h := by have := HLen.out; omega)) : Flat _ (es[i]'(by have := HLen.out; omega)))
      have hkeep : ∀ o, wr.cell? ⟨g, o, none⟩ = w.cell? ⟨g, o, none⟩ := fun o => World.cell?_of_block (w := w) ((HT.far g (by have := HB0.size; omega) (fun e => by have := hLo g e; omega)).trans (HB0.block g hgl))
      have hc8 := hcl i _ hget
      rw [he] at hc8
      have c0 : wr.cell? ⟨g, off + i * 8, none⟩ = some (.int .i64 dd) := (hkeep _).trans (hc8 0 _ rfl)
      have c1 : wr.cell? ⟨g, off + i * 8 + 1, none⟩ = some (.int .i64 px) := (hkeep _).trans (hc8 1 _ rfl)
      have c2 : wr.cell? ⟨g, off + i * 8 + 2, none⟩ = some (.int .i64 py) := (hkeep _).trans (hc8 2 _ rfl)
      have c3 : wr.cell? ⟨g, off + i * 8 + 3, none⟩ = some (.int .u8 (nn : Int)) := (hkeep _).trans (hc8 3 _ rfl)
      have c4 : wr.cell? ⟨g, off + i * 8 + 4, none⟩ = some (.int .i64 ln) := (hkeep _).trans (hc8 4 _ rfl)
      have c5 : wr.cell? ⟨g, off + i * 8 + 5, none⟩ = some (.int .i64 co) := (hkeep _).trans (hc8 5 _ rfl)
      have c6 : wr.cell? ⟨g, off + i * 8 + 6, none⟩ = some (.int .i64 cb) := (hkeep _).trans (hc8 6 _ rfl)
      have c7 : wr.cell? ⟨g, off + i * 8 + 7, none⟩ = some (.int .u8 (cu : Int)) := (hkeep _).trans (hc8 7 _ rfl)
      clear hcl hc8 hkeep hget he
      go_wp2_with (first
        | (go_at_call 13; ((with_reducible refine (done_any _ _ _ _ _ _ _ _ _ _ _ _ _ _ _ _ _ _ _ _ _ dd px py nn ln co cb cu (20 + 3 * (i : Int)) _ S (by first | exact h | exact Two.drew h) HK.out (by omega) (by omega) hnn hln hcf).mono ?_); rintro e' wN ⟨rfl, ⟨S2, h2, HK2⟩, hT⟩; clear h; have h := h2; clear h2; replace HT := (by first | exact HT.trans hT | exact tch_dr HT hT); clear hT))
        | (go_at_call 14; ((with_reducible refine (same_any _ _ _ _ _ _ _ _ _ _ _ _ _ _ _ _ _ _ _ _ _ _ S2 (by first | exact h | exact Two.drew h)).mono ?_); rintro e' wN ⟨rfl, hb⟩; (try have hb := undrew hb); replace h := h.below hb; replace HT := HT.then hb)))
      go_roundw
      case rel => exact ⟨i + 1, S2, by omega, by go_num, h, Lib.hid (HK2.out.mono (by omega)), HT⟩
      case measure => simp [intOf]; omega
    · have HK1 : Hid (Good S 1000) := Lib.hid (HK.out.mono (by omega))
      clear HK
      go_wp2_with fail
      go_loopw [10] (fun s10 wr => ∃ (k : Nat) (S : ChS), (k : Int) ≤ a ∧ s10 = .int .i64 (k : Int) ∧ Two wr L m gx gb AF fs.length cf mR gB gN gW gD AF2 fs.length cf2 a b c d e fs S S ∧ Hid (Good S (1000 + 24 * (k : Int))) ∧ Tch (twB m gx gb mR gB gN gW gD) wm wr) (fun s10 _ => a.toNat - (intOf s10).toNat)
      case atStart => exact ⟨0, S, by omega, rfl, (by first | exact h | exact h.drew), Lib.hid (HK1.out.mono (by omega)), (by first | exact HT | exact HT.like)⟩
      case round =>
        clear h HK1 HT
        obtain ⟨k, S, hk, rfl, h, HK, HT⟩ := hrel
        have GR := HT.blk G1 hnb
        have HY := cells5 GR
        obtain ⟨HY0, HY1, HY2, HY3, HY4⟩ := HY
        obtain ⟨NPc, NBc, RWc, cBc, HCC⟩ := h.rl.cells
        have y12 := HCC.y12
        have y13 := HCC.y13
        clear HCC
        have k0 : (0 : Int) ≤ (k : Int) := by omega
        by_cases hka : (k : Int) < a
        · rcases (by cases hq : S.on <;> simp : S.on = true ∨ S.on = false) with ho | ho
          · rw [ho] at y12
            simp only [Bool.not_true] at y12
            clear ho
            obtain ⟨WT, hWT⟩ : ∃ W, S.wait = W := ⟨_, rfl⟩
            rw [hWT] at y13
            clear hWT
            by_cases hw : WT = 0
            · subst hw
              go_wp2_with fail
              go_loopw [11] (fun s11 wr => ∃ (l : Nat) (S : ChS), (l : Int) ≤ b ∧ s11 = .int .i64 (l : Int) ∧ Two wr L m gx gb AF fs.length cf mR gB gN gW gD AF2 fs.length cf2 a b c d e fs S S ∧ Hid (Good S (1000 + 24 * (k : Int) + 3 * (l : Int))) ∧ Tch (twB m gx gb mR gB gN gW gD) wm wr) (fun s11 _ => b.toNat - (intOf s11).toNat)
              case atStart => exact ⟨0, S, by omega, rfl, (by first | exact h | exact h.drew), Lib.hid (HK.out.mono (by omega)), (by first | exact HT | exact HT.like)⟩
              case round =>
                clear h HK HT y12 y13 GR HY0 HY1 HY2 HY3 HY4
                obtain ⟨l, S, hl, rfl, h, HK, HT⟩ := hrel
                have GR := HT.blk G1 hnb
                have HY := cells5 GR
                obtain ⟨HY0, HY1, HY2, HY3, HY4⟩ := HY
                have l0 : (0 : Int) ≤ (l : Int) := by omega
                by_cases hlb : (l : Int) < b
                · go_wp2_with (go_at_call 13; ((with_reducible refine (done_lit _ _ _ _ _ _ _ _ _ _ _ _ _ _ _ _ _ _ _ _ _ (k : Int) (l : Int) (1000 + 24 * (k : Int) + 3 * (l : Int)) _ S (by first | exact h | exact Two.drew h) HK.out (by omega) (by omega)).mono ?_); rintro e' wN ⟨rfl, ⟨S2, h2, HK2⟩, hT⟩; clear h; have h := h2; clear h2; replace HT := (by first | exact HT.trans hT | exact tch_dr HT hT); clear hT))
                  go_roundw
                  case rel => exact ⟨l + 1, S2, by omega, by go_num, h, Lib.hid (HK2.out.mono (by omega)), HT⟩
                  case measure => simp [intOf]; omega
                · have HK3 : Hid (Good S (1000 + 24 * ((k + 1 : Nat) : Int))) := Lib.hid (HK.out.mono (by omega))
                  clear HK
                  go_wp2_with fail
                  go_roundw
                  case rel => exact ⟨k + 1, S, by omega, by go_num, h, HK3, HT⟩
                  case measure => simp [intOf]; omega
            · have hw0 : (WT == 0) = false := by simpa using hw
              go_wp2_with (go_at_call 10; ((with_reducible refine (awake_any _).mono ?_); rintro e' wN ⟨rfl, hb⟩; (try have hb := undrew hb); replace HT := HT.then hb))
              go_ret
              exact ⟨rfl, HB0.trans (HT.below HB0.size (fun g hg => Nat.le_of_lt (hLo g hg)))⟩
          · rw [ho] at y12
            simp only [Bool.not_false] at y12
            go_wp2_with (go_at_call 10; ((with_reducible refine (awake_any _).mono ?_); rintro e' wN ⟨rfl, hb⟩; (try have hb := undrew hb); replace HT := HT.then hb))
            go_ret
            exact ⟨rfl, HB0.trans (HT.below HB0.size (fun g hg => Nat.le_of_lt (hLo g hg)))⟩
        · go_wp2_with (go_at_call 10; ((with_reducible refine (awake_any _).mono ?_); rintro e' wN ⟨rfl, hb⟩; (try have hb := undrew hb); replace HT := HT.then hb))
          go_ret
          exact ⟨rfl, HB0.trans (HT.below HB0.size (fun g hg => Nat.le_of_lt (hLo g hg)))⟩
end Go.Proofs.Ytplniojeaodjiaa
namespace Go.Proofs.Ytplniojeaodjiaa
open Go.ChangeShapes Go.WideShapes Go.ChangeAt Go.RowKit Go.Deep

/-- A slice of the values vs: n of them, room for c. -/
def SlA (w : World) (A : Option Addr) (n c : Nat) (vs : List Value) : Prop := n = vs.length ∧ Sl w w.heap.size A vs ∧ n ≤ c ∧ c ≤ maxLen ∧ (A = none → n = 0 ∧ c = 0)

section
variable {H : Type} {enc : TypeId × Value → H} {P : Program} {w : World} {base : Nat} {spare : Nat → Bool} {held : Bool}

end
end Go.Proofs.Ytplniojeaodjiaa
