/- PlanSingles: the walk. -/
import Derived.Test.YtibplajobggdmaaPlanStays
import Derived.Test.YtibplajobggdmaaPlanN
namespace Go.Proofs.Ytibplajobggdmaa
open Go.ChangeShapes Go.WideShapes Go.ChangeAt Go.RowKit
attribute [local go_sem ↓] Go.wp_at_zero Go.wp_at_succ
set_option linter.unusedSimpArgs false
set_option linter.unusedVariables false

theorem own_len {w : World} {base : Nat} {e : TypeId} {size n m : Nat} {v : Value} {xs : List Value} (h : n = m) (ho : w.ownsRow base e size v n xs) : w.ownsRow base e size v m xs := by rw [← h]; exact ho
theorem infoFlt : (Try.prog.info? 33).map (fun i => (i.zero, i.size, i.bytes)) = some (some (.agg #[.int .i64 0, .bool false, .int .i64 0]), 3, 24) := by kernel_rfl

set_option maxRecDepth 100000 in
set_option maxHeartbeats 8000000 in
theorem psing_walk (a b c d e : Int) (A : Option Addr) (n c0 : Nat) (fs : List Flt) (blk dn turn : Int) (w : World)
    (_ : i64in a ∧ i64in b ∧ i64in c ∧ i64in d ∧ i64in e) (r1 : n = fs.length ∧ n ≤ c0 ∧ c0 ≤ maxLen ∧ SlF w w.heap.size A fs) (_ : i64in blk) (_ : i64in dn) (_ : i64in turn) :
    Calls Try.prog 5 #[.agg #[.int .i64 a, .int .i64 b, .int .i64 c, .int .i64 d, .int .i64 e], .slice A n c0, .int .i64 blk, .int .i64 dn, .int .i64 turn] w fun e' w' => e' = .returned (.bool true) ∧ Below w.heap.size w w' := by
  obtain ⟨rfl, hc0, hc1, h⟩ := r1
  by_cases hl : 20 < fs.length
  · have g1 : (20 : Int) < (fs.length : Int) := by omega
    go_enter Try.func5, Try.ntmps5
    go_wp2_with (go_at_call 6; refine (awake_any _).mono ?_; rintro e' w2 ⟨rfl, hb2⟩)
    go_ret
    exact ⟨rfl, below1 hb2⟩
  have g1 : ¬ (20 : Int) < (fs.length : Int) := by omega
  have n1 : fs.length ≤ 1000000 := by omega
  have hBw : Below w.heap.size w (w.alloc (.cells #[.int .i64 a, .int .i64 b, .int .i64 c, .int .i64 d, .int .i64 e] 23)) := (Below.refl _ _).alloc (Nat.le_refl _) _
  have hH2 := h.next hBw
  have HC1 := Lib.hid hc1
  have hc2 : c0 ≤ 9223372036854775807 := by unfold maxLen at hc1; omega
  clear hc1
  rcases (by cases hq : planMay a b c d e fs <;> simp : planMay a b c d e fs = false ∨ planMay a b c d e fs = true) with hp | hp
  · have HM := Lib.hid hp
    clear hp
    go_enter Try.func5, Try.ntmps5
    go_wp2_with (first
    | (go_at_call 7; refine (pMay_any _ _ _ _ _ fs _ _ _ hH2 hc0 HC1.out).mono ?_; rw [HM.out]; rintro e' w1 ⟨rfl, hb1⟩)
    | (go_at_call 6; refine (awake_any _).mono ?_; rintro e' w2 ⟨rfl, hb2⟩))
    go_ret
    exact ⟨rfl, (below1 hb1).trans (hb2.mono (below1 hb1).size)⟩
  have HM := Lib.hid hp
  have HP1 := Lib.hid (fun (f : Flt) (hf : f ∈ fs) => planMay_one hp hf)
  have HP2 := Lib.hid (fun (t : Nat) => planMay_perm (rot_perm fs t) hp)
  have hG0 : Blk (w.alloc (.cells #[.int .i64 a, .int .i64 b, .int .i64 c, .int .i64 d, .int .i64 e] 23)) w.heap.size 23 #[.int .i64 a, .int .i64 b, .int .i64 c, .int .i64 d, .int .i64 e] := Blk.new_ w _ _
  clear hp
  obtain ⟨i0, hi, hz0, hz1', hz2⟩ := info_parts infoFlt
  go_enter Try.func5, Try.ntmps5
  go_wp2_with (first
      | (go_at_call 7; refine (pMay_any _ _ _ _ _ fs _ _ _ hH2 hc0 HC1.out).mono ?_; rw [HM.out]; rintro e' w1 ⟨rfl, hb1⟩; have H := hH2.next hb1; have HB := below1 hb1; have HG := hG0.below hb1 (by simp); have hz1 : w.heap.size < w1.heap.size := (by { have := hb1.size; simp at this; omega })))
  go_loopw [11, 12, 13, 14] (fun v u i _ wr => ∃ (k : Nat) (x y : Bool), k ≤ fs.length ∧ i = .int .i64 k ∧ v = .bool x ∧ u = .bool y ∧ Hid (failsB (fs.take k) blk dn = x) ∧ Hid (badB (fs.take k) blk = y) ∧ Below w1.heap.size w1 wr) (fun _ _ i _ _ => fs.length - (intOf i).toNat)
  case atStart => exact ⟨0, false, false, Nat.zero_le _, rfl, rfl, rfl, Lib.hid (by simp [failsB]), Lib.hid (by simp [badB]), Below.refl _ _⟩
  case round =>
    obtain ⟨k, x, y, hk, rfl, rfl, rfl, HX, HY, hBr⟩ := hrel
    have HBr := btr HB HB.size hBr
    by_cases hlt : k < fs.length
    · obtain ⟨b1, o1, rfl, l1, q1⟩ := (H.below hBr).at_ (by omega)
      obtain ⟨x1, x2, x3⟩ := q1 k fs[k] (by simp [hlt])
      have hrx := any_take1 (p := fun f => f.blk == blk && decide (f.aft ≤ dn)) hlt
      have hry := any_take1 (p := fun f => f.blk == blk && f.fac) hlt
      have hmo := HP1.out fs[k] (List.getElem_mem hlt)
      obtain ⟨f, hf⟩ : ∃ f, fs[k] = f := ⟨_, rfl⟩
      rw [hf] at x1 x2 x3 hrx hry hmo
      have hrx' : failsB (fs.take (k + 1)) blk dn = (x || failsB [f] blk dn) := hrx.trans (by rw [show ((fs.take k).any fun f => f.blk == blk && decide (f.aft ≤ dn)) = x from HX.out]; rfl)
      have hry' : badB (fs.take (k + 1)) blk = (y || badB [f] blk) := hry.trans (by rw [show ((fs.take k).any fun f => f.blk == blk && f.fac) = y from HY.out]; rfl)
      have HRX := Lib.hid hrx'
      have HRY := Lib.hid hry'
      have HMO := Lib.hid hmo
      have hsz := hBr.size
      have hg := HG.below hBr hz1
      have y0 := hg.cell_ 0
      have y1 := hg.cell_ 1
      have y2 := hg.cell_ 2
      have y3 := hg.cell_ 3
      have y4 := hg.cell_ 4
      simp at y0 y1 y2 y3 y4
      have l1' : b1 < wr.heap.size := by omega
      have l2' : w.heap.size < wr.heap.size := by omega
      have HN : SlF (wr.alloc (.cells #[.int .i64 f.blk, .bool f.fac, .int .i64 f.aft] 33)) (wr.alloc (.cells #[.int .i64 f.blk, .bool f.fac, .int .i64 f.aft] 33)).heap.size (some ⟨wr.heap.size, 0, none⟩) [f] := slf_new wr f _
      have HBN : Below w1.heap.size w1 (wr.alloc (.cells #[.int .i64 f.blk, .bool f.fac, .int .i64 f.aft] 33)) := hBr.alloc hsz _
      have j0 : (0 : Int) ≤ (k : Int) := by omega
      have j1 : (k : Int) < (fs.length : Int) := by omega
      clear q1 hf hrx hry hrx' hry' hmo hg
      cases x <;> cases y
      all_goals
        go_wp2_with (first
          | (go_at_call 7; refine (pMay_any _ _ _ _ _ [f] _ 1 _ HN (by simp) (by unfold maxLen; decide)).mono ?_; rw [HMO.out]; rintro e' w3 ⟨rfl, hb3⟩; have HN := HN.next hb3; have HBN := btr HBN HBN.size hb3; clear hb3)
          | (go_at_call 13; refine (Many_any [f] _ _ _).mono ?_; rintro e' w3 ⟨rfl, rfl⟩)
          | (go_at_call 9; refine (Fails_any [f] _ _ _ _ _ HN (by simp)).mono ?_; rintro e' w3 ⟨rfl, hb3⟩; have HN := HN.next hb3; have HBN := btr HBN HBN.size hb3; clear hb3)
          | (go_at_call 11; refine (Bad_any [f] _ _ _ _ HN (by simp)).mono ?_; rintro e' w3 ⟨rfl, hb3⟩; have HN := HN.next hb3; have HBN := btr HBN HBN.size hb3; clear hb3))
        go_roundw
        case rel => exact ⟨k + 1, _, _, by omega, by go_num, rfl, rfl, Lib.hid (by first | rw [HRX.out, Bool.false_or] | rw [HRX.out, Bool.true_or]), Lib.hid (by first | rw [HRY.out, Bool.false_or] | rw [HRY.out, Bool.true_or]), HBN⟩
        case measure => simp [intOf]; omega
    · have hkk : k = fs.length := by omega
      subst hkk
      have hfx : failsB fs blk dn = x := by have := HX.out; rwa [List.take_length] at this
      have hfy : badB fs blk = y := by have := HY.out; rwa [List.take_length] at this
      have bT := lowI_bd turn ((fs.length : Int) + 1) (by omega)
      obtain ⟨T, hT⟩ : ∃ T : Nat, lowI turn ((fs.length : Int) + 1) = (T : Int) := ⟨(lowI turn ((fs.length : Int) + 1)).toNat, by omega⟩
      rw [hT] at bT
      have ET := Lib.hid hT
      have HFX := Lib.hid hfx
      have HFY := Lib.hid hfy
      clear hT hfx hfy
      have T1 : (0 : Int) ≤ (T : Int) := by omega
      have T2 : (T : Int) ≤ (c0 : Int) := by omega
      have T3 : (T : Int) ≤ (fs.length : Int) := by omega
      have Hr := H.next hBr
      obtain ⟨wo, rfl⟩ : ∃ wo : World, wo = wr := ⟨_, rfl⟩
      have hcs : (¬ (c0 = T)) ∨ T = c0 := by omega
      rcases hcs with hcT | rfl
      all_goals
        go_upto_region 12 with (go_at_call 14; refine (low_any turn _ _ (by omega) (by omega)).mono ?_; rw [ET.out]; rintro e' w' ⟨rfl, rfl⟩)
        go_cut [15] (fun s15 wx => wx.ownsRow wo.heap.size 33 3 s15 fs.length (fcells (fs.drop T ++ fs.take T)) ∧ Below wo.heap.size wo wx)
        case first =>
          refine wp_region_noPanic ?_
          refine wp_region_held_drew (S := (fun w' => Below wo.heap.size wo w' ∧ wo.heap.size ≤ w'.heap.size ∧ ∀ (k o : Nat), k < wo.heap.size → w'.cell? ⟨k, o, none⟩ = wo.cell? ⟨k, o, none⟩)) (by kernel_rfl) ?_ (fun hHeld => ?_)
          · (first | exact ⟨(Below.refl _ _).drew, by simp, by simp⟩ | exact ⟨hbB, hbB.size, fun b o hb => (hbB.cell (p := ⟨b, o, none⟩) hb)⟩ | exact ⟨hbA, hbA.size, fun b o hb => (hbA.cell (p := ⟨b, o, none⟩) hb)⟩)
          refine wpAnyH_take (i := 0) (oi := { dst := some 64, op := Op.move (Operand.tmp 1), type := 24, pos := "more.go:23", after := #[], guard := none }) (v := ?_) rfl (by kernel_rfl) (by kernel_rfl) (by kernel_rfl) (fun _ _ _ h => h) (Or.inl ⟨by rfl, ?_⟩) (by assumption) ?_
          rotate_left
          · (intro wS hSw; (try dsimp only at hSw); go_simp; (try with_reducible rfl))
          try simp only [Act.put, List.setIfInBounds_toArray, List.set_cons_zero, List.set_cons_succ]
          refine wpAnyH_take (i := 1) (oi := { dst := some 65, op := Op.move (Operand.tmp 4), type := 3, pos := "more.go:23", after := #[], guard := none }) (v := ?_) rfl (by kernel_rfl) (by kernel_rfl) (by kernel_rfl) (fun _ _ _ h => h) (Or.inl ⟨by rfl, ?_⟩) (by assumption) ?_
          rotate_left
          · (intro wS hSw; (try dsimp only at hSw); go_simp; (try with_reducible rfl))
          try simp only [Act.put, List.setIfInBounds_toArray, List.set_cons_zero, List.set_cons_succ]
          refine wpAnyH_take (i := 2) (oi := { dst := some 66, op := Op.slice 24 (Operand.tmp 64) (some (Operand.tmp 65)) none none, type := 24, pos := "more.go:23", after := #[{ on := 0, ground := Ground.data }, { on := 1, ground := Ground.data }], guard := none }) (v := ?_) rfl (by kernel_rfl) (by kernel_rfl) (by kernel_rfl) (fun _ _ _ h => h) (Or.inl ⟨by rfl, ?_⟩) (by assumption) ?_
          rotate_left
          · (intro wS hSw; (try dsimp only at hSw); go_simp; (try with_reducible rfl))
          try simp only [Act.put, List.setIfInBounds_toArray, List.set_cons_zero, List.set_cons_succ]
          refine wpAnyH_take (i := 4) (oi := { dst := some 68, op := Op.move (Operand.tmp 1), type := 24, pos := "more.go:23", after := #[], guard := none }) (v := ?_) rfl (by kernel_rfl) (by kernel_rfl) (by kernel_rfl) (fun _ _ _ h => h) (Or.inl ⟨by rfl, ?_⟩) (by assumption) ?_
          rotate_left
          · (intro wS hSw; (try dsimp only at hSw); go_simp; (try with_reducible rfl))
          try simp only [Act.put, List.setIfInBounds_toArray, List.set_cons_zero, List.set_cons_succ]
          refine wpAnyH_take (i := 5) (oi := { dst := some 69, op := Op.move (Operand.tmp 4), type := 3, pos := "more.go:23", after := #[], guard := none }) (v := ?_) rfl (by kernel_rfl) (by kernel_rfl) (by kernel_rfl) (fun _ _ _ h => h) (Or.inl ⟨by rfl, ?_⟩) (by assumption) ?_
          rotate_left
          · (intro wS hSw; (try dsimp only at hSw); go_simp; (try with_reducible rfl))
          try simp only [Act.put, List.setIfInBounds_toArray, List.set_cons_zero, List.set_cons_succ]
          refine wpAnyH_take (i := 6) (oi := { dst := some 70, op := Op.slice 24 (Operand.tmp 68) none (some (Operand.tmp 69)) none, type := 24, pos := "more.go:23", after := #[{ on := 4, ground := Ground.data }, { on := 5, ground := Ground.data }], guard := none }) (v := ?_) rfl (by kernel_rfl) (by kernel_rfl) (by kernel_rfl) (fun _ _ _ h => h) (Or.inl ⟨by rfl, ?_⟩) (by assumption) ?_
          rotate_left
          · (intro wS hSw; (try dsimp only at hSw); go_simp; (try with_reducible rfl))
          try simp only [Act.put, List.setIfInBounds_toArray, List.set_cons_zero, List.set_cons_succ]
          refine wpAnyH_ready (rs := [3]) (by kernel_rfl) (by simp) ?_
          refine AllReadyH.cons (o := { dst := some 67, op := Op.call { callee := Callee.builtin Builtin.append, args := #[Operand.const (Value.slice none 0 0), Operand.tmp 66], argTypes := #[24, 24] }, type := 24, pos := "more.go:23", after := #[{ on := 2, ground := Ground.data }], guard := none }) rfl (fun K hK => ?_) AllReadyH.nil
          (first | refine step_app _ rfl (.const (.slice none 0 0)) (.tmp 66) 24 rfl wo.heap.size 33 i0 _ 3 24 Try.underlying24 hi hz0 hz1' hz2 rfl (by omega) (.slice none 0 0) 0 [] rfl (World.ownsRow_nil _ _ _ _) _ (fs.length - T) _ (fcells (fs.drop T)) rfl (rd_drop (Hr.held hHeld.2.1 hHeld.2.2) T _ (by omega) (by omega) _ ?hA) (fcells_one _) (by unfold maxLen; omega) (by omega) hHeld.2.1 ?_ | refine step_app _ rfl (.const (.slice none 0 0)) (.tmp 66) 24 rfl wo.heap.size 33 i0 _ 3 24 Try.underlying24 hi hz0 hz1' hz2 rfl (by omega) (.slice none 0 0) 0 [] rfl (World.ownsRow_nil _ _ _ _) _ 0 _ (fcells (fs.drop T)) rfl (rd_drop (Hr.held hHeld.2.1 hHeld.2.2) T _ (by omega) (by omega) _ ?hA) (fcells_one _) (by unfold maxLen; omega) (by omega) hHeld.2.1 ?_)
          case hA => (intro hlt b off hA; first | exact absurd hlt (by omega) | skip; subst hA; (try rw [if_neg (by omega)]); first | rfl | simp only [Option.map_some, add_mk] | rw [add_mk])
          intro vA wA hownA hgA hvA
          have hbA : Below wo.heap.size wo wA := hHeld.1.trans ((below_app (Nat.le_refl _) hHeld.2.1 (World.ownsRow_nil _ _ 33 3) hgA).mono (Nat.le_refl _))
          refine hK.out _ _ ?_ (fun hNew => ?_)
          · (first | exact ⟨(Below.refl _ _).drew, by simp, by simp⟩ | exact ⟨hbB, hbB.size, fun b o hb => (hbB.cell (p := ⟨b, o, none⟩) hb)⟩ | exact ⟨hbA, hbA.size, fun b o hb => (hbA.cell (p := ⟨b, o, none⟩) hb)⟩)
          clear hK K hHeld
          have hHeld := hNew
          clear hNew
          try simp only [Act.put, List.setIfInBounds_toArray, List.set_cons_zero, List.set_cons_succ]
          refine wpAnyH_ready (rs := [7]) (by kernel_rfl) (by simp) ?_
          refine AllReadyH.cons (o := { dst := some 71, op := Op.call { callee := Callee.builtin Builtin.append, args := #[Operand.tmp 67, Operand.tmp 70], argTypes := #[24, 24] }, type := 24, pos := "more.go:23", after := #[{ on := 3, ground := Ground.data }, { on := 6, ground := Ground.data }, { on := 3, ground := Ground.chain }], guard := none }) rfl (fun K hK => ?_) AllReadyH.nil
          refine step_app _ rfl (.tmp 67) (.tmp 70) 24 rfl wo.heap.size 33 i0 _ 3 24 Try.underlying24 hi hz0 hz1' hz2 rfl (by omega) vA _ _ rfl hownA _ T _ (fcells (fs.take T)) rfl (rd_take (Hr.held hHeld.2.1 hHeld.2.2) T (by omega)) (fcells_one _) (by unfold maxLen; omega) (by omega) hHeld.2.1 ?_
          intro vB wB hownB hgB hvB
          have hbB : Below wo.heap.size wo wB := hHeld.1.trans ((below_app (Nat.le_refl _) hHeld.2.1 hownA hgB).mono (Nat.le_refl _))
          refine hK.out _ _ ?_ (fun hNew => ?_)
          · (first | exact ⟨(Below.refl _ _).drew, by simp, by simp⟩ | exact ⟨hbB, hbB.size, fun b o hb => (hbB.cell (p := ⟨b, o, none⟩) hb)⟩ | exact ⟨hbA, hbA.size, fun b o hb => (hbA.cell (p := ⟨b, o, none⟩) hb)⟩)
          clear hK K hHeld
          have hHeld := hNew
          clear hNew
          try simp only [Act.put, List.setIfInBounds_toArray, List.set_cons_zero, List.set_cons_succ]
          refine wpAnyH_take (i := 8) (oi := { dst := some 15, op := Op.assign (Operand.tmp 71), type := 24, pos := "more.go:23", after := #[{ on := 7, ground := Ground.data }, { on := 7, ground := Ground.chain }, { on := 0, ground := Ground.phase }, { on := 1, ground := Ground.phase }, { on := 2, ground := Ground.phase }, { on := 3, ground := Ground.phase }, { on := 4, ground := Ground.phase }, { on := 5, ground := Ground.phase }, { on := 6, ground := Ground.phase }, { on := 7, ground := Ground.phase }], guard := none }) (v := ?_) rfl (by kernel_rfl) (by kernel_rfl) (by kernel_rfl) (fun _ _ _ h => h) (Or.inl ⟨by rfl, ?_⟩) (by assumption) ?_
          rotate_left
          · (intro wS hSw; (try dsimp only at hSw); go_simp; (try with_reducible rfl))
          try simp only [Act.put, List.setIfInBounds_toArray, List.set_cons_zero, List.set_cons_succ]
          refine wpAnyH_done (by kernel_rfl) ?_ _
          refine NoPanic.normal ?_
          go_wp2_with fail
          go_meet
          exact ⟨by rw [fcells_app]; first | exact own_len (by omega) hownB | simpa using own_len (by omega) hownB, hbB⟩
        case rest =>
          obtain ⟨hown, hbO⟩ := hcut
          obtain ⟨A5, c5, hv5, -, hc5, hc6, H5⟩ := slf_own (fs := fs.drop T ++ fs.take T) hown
          obtain ⟨wO, rfl⟩ : ∃ W : World, W = wc := ⟨_, rfl⟩
          have hl5 : (fs.drop T ++ fs.take T).length = fs.length := (rot_perm fs T).length_eq
          have K1 : Hid (failsB (fs.drop T ++ fs.take T) blk dn = x) := (any_perm (rot_perm fs T)).trans HFX.out
          have K2 : Hid (badB (fs.drop T ++ fs.take T) blk = y) := (any_perm (rot_perm fs T)).trans HFY.out
          have K3 : Hid (planMay a b c d e (fs.drop T ++ fs.take T) = true) := HP2.out T
          have hg := HG.below ((hBr.trans (hbO.mono hBr.size))) hz1
          have H := Hr.next hbO
          have HB := btr HBr HBr.size hbO
          obtain ⟨gs, hgs⟩ : ∃ gs, fs.drop T ++ fs.take T = gs := ⟨_, rfl⟩
          rw [← hl5] at hc5 hv5
          rw [hgs] at hl5 K1 K2 K3 H5 hown hc5 hv5
          subst hv5
          have n5 : gs.length ≤ 1000000 := by omega
          have HE5 : Hid (((gs.length : Int) == (fs.length : Int)) = true) := Lib.hid (by simp; omega)
          have HL5 := Lib.hid hl5
          clear hgs hown hl5 hlt HP1 HP2 hk bT ET T1 T2 T3 HX HY hc2 HC1 i0 hi hz0 hz1' hz2
          have HC6 := Lib.hid hc6
          clear hc6
          go_wp2_with (first
          | (go_at_call 9; ((with_reducible refine (Fails_any fs A _ _ _ _ H n1).mono ?_); rw [HFX.out]; rintro e' w4 ⟨rfl, hb1⟩; have H := H.next hb1; have H5 := H5.next hb1; have HB := btr HB HB.size hb1; have hg := hg.below hb1 hg.lt; clear hb1))
          | (go_at_call 11; ((with_reducible refine (Bad_any fs A _ _ _ H n1).mono ?_); rw [HFY.out]; rintro e' w4 ⟨rfl, hb1⟩; have H := H.next hb1; have H5 := H5.next hb1; have HB := btr HB HB.size hb1; have hg := hg.below hb1 hg.lt; have y0 := hg.cell_ 0; have y1 := hg.cell_ 1; have y2 := hg.cell_ 2; have y3 := hg.cell_ 3; have y4 := hg.cell_ 4; simp at y0 y1 y2 y3 y4; clear hb1))
          | (go_at_call 7; ((with_reducible refine (pMay_any _ _ _ _ _ gs A5 _ _ H5 hc5 HC6.out).mono ?_); rw [K3.out]; rintro e' w4 ⟨rfl, hb1⟩; have H := H.next hb1; have H5 := H5.next hb1; have HB := btr HB HB.size hb1; clear hb1))
          | (go_at_call 9; ((with_reducible refine (Fails_any gs A5 _ _ _ _ H5 n5).mono ?_); rw [K1.out]; rintro e' w4 ⟨rfl, hb1⟩; have H := H.next hb1; have H5 := H5.next hb1; have HB := btr HB HB.size hb1; clear hb1))
          | (go_at_call 11; ((with_reducible refine (Bad_any gs A5 _ _ _ H5 n5).mono ?_); rw [K2.out]; rintro e' w4 ⟨rfl, hb1⟩; have H := H.next hb1; have H5 := H5.next hb1; have HB := btr HB HB.size hb1; clear hb1))
          | (go_at_call 13; refine (Many_any gs _ _ _).mono ?_; rintro e' w3 ⟨rfl, rfl⟩; have e5 := HE5.out)
          | (go_at_call 6; refine (awake_any _).mono ?_; rintro e' w2 ⟨rfl, hb2⟩))
          go_ret
          exact ⟨rfl, btr HB HB.size hb2⟩

end Go.Proofs.Ytibplajobggdmaa
