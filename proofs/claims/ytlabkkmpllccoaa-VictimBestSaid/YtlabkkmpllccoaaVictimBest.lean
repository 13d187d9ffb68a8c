/- VictimBest: the walk. -/
import Derived.Test.YtlabkkmpllccoaaVictimAw
import Derived.Test.YtlabkkmpllccoaaVictimBM
import Derived.Test.YtlabkkmpllccoaaOpenS2
import Derived.Test.YtlabkkmpllccoaaVictimR20a
import Derived.Test.YtlabkkmpllccoaaVictimR20b
import Derived.Test.YtlabkkmpllccoaaVictimR20c
import Derived.Test.YtlabkkmpllccoaaVictimR20d
import Derived.Deep.RegionHeld3
import Derived.Deep.DrawnRows
import Derived.Deep.DeepCutAuto
namespace Go.Proofs.Ytlabkkmpllccoaa
open Go.ChangeShapes Go.WideShapes Go.ChangeAt Go.RowKit
attribute [local go_sem ↓] Go.wp_at_zero Go.wp_at_succ
set_option linter.unusedSimpArgs false
set_option linter.unusedVariables false

theorem getD_memB {l : List Int} {k : Nat} (h : k < l.length) : l.getD k 0 ∈ l := by
  rw [List.getD_eq_getElem?_getD, List.getElem?_eq_getElem h]
  exact List.getElem_mem h
theorem getD_bdB {l : List Int} {P : Int → Prop} (h : ∀ j, j < l.length → P (l.getD j 0)) : ∀ z ∈ l, P z := fun z hz => by
  obtain ⟨j, hj, rfl⟩ := List.getElem_of_mem hz
  have := h j hj
  rwa [List.getD_eq_getElem?_getD, List.getElem?_eq_getElem hj] at this
theorem at_int {l : List Int} {k n : Nat} (hl : l.length = n) (h : k < n) : (l.map (Value.int .i64))[k]? = some (.int .i64 (l.getD k 0)) := by
  rw [List.getElem?_map, List.getElem?_eq_getElem (by omega), List.getD_eq_getElem?_getD, List.getElem?_eq_getElem (by omega)]
  rfl
theorem at_bool {l : List Bool} {k n : Nat} (hl : l.length = n) (h : k < n) : (l.map Value.bool)[k]? = some (.bool (l.getD k false)) := by
  rw [List.getElem?_map, List.getElem?_eq_getElem (by omega), List.getD_eq_getElem?_getD, List.getElem?_eq_getElem (by omega)]
  rfl
theorem sl_get {w : World} {B : Nat} {A : Option Addr} {vs : List Value} (h : Sl w B A vs) (hv : 0 < vs.length) : ∃ b o, A = some ⟨b, o, none⟩ ∧ b < B ∧ ∀ w', Below B w w' → ∀ k v, vs[k]? = some v → w'.cell? ⟨b, o + k, none⟩ = some v := by
  obtain ⟨b, o, hA, hb, hq⟩ := h.at_ hv
  exact ⟨b, o, hA, hb, fun w' hB k v hk => (hB.cell (p := ⟨b, o + k, none⟩) hb).trans (hq k v hk)⟩
set_option maxRecDepth 100000 in
set_option maxHeartbeats 8000000 in
theorem vbest_walk (A1 : Option Addr) (m1 c1 : Nat) (live : List Int) (A2 : Option Addr) (m2 c2 : Nat) (ws : List Int) (A3 : Option Addr) (m3 c3 : Nat) (may : List Bool) (w : World)
    (r1 : SlA w A1 m1 c1 (live.map (Value.int .i64))) (_ : ∀ z ∈ live, i64in z) (r2 : SlA w A2 m2 c2 (ws.map (Value.int .i64))) (_ : ∀ z ∈ ws, i64in z) (r3 : SlA w A3 m3 c3 (may.map Value.bool)) :
    Calls Try.prog 4 #[.slice A1 m1 c1, .slice A2 m2 c2, .slice A3 m3 c3] w fun e' w' => e' = .returned (.bool true) ∧ Below w.heap.size w w' := by
  obtain ⟨e1, h1, k1, k1p, _⟩ := r1
  obtain ⟨e2, h2, k2, k2p, _⟩ := r2
  obtain ⟨e3, h3, k3, k3p, _⟩ := r3
  rw [List.length_map] at e1 e2 e3
  subst e1 e2 e3
  obtain ⟨n, hn⟩ : ∃ n, mlen3 live ws may = n := ⟨_, rfl⟩
  have en : min live.length (min ws.length may.length) = n := hn
  have HE := Lib.hid en
  clear hn en
  go_enter Try.func4, Try.ntmps4
  go_upto_region 1 with fail
  go_cut [7] (fun s wx => s = .int .i64 n ∧ w = wx)
  case first =>
    go_wp2
    all_goals
      go_meet
      have := HE.out
      refine ⟨?_, rfl⟩
      first
      | (have e1 : n = live.length := by omega
         exact congrArg (fun n : Nat => Value.int .i64 (n : Int)) e1.symm)
      | (have e1 : n = ws.length := by omega
         exact congrArg (fun n : Nat => Value.int .i64 (n : Int)) e1.symm)
      | (have e1 : n = may.length := by omega
         exact congrArg (fun n : Nat => Value.int .i64 (n : Int)) e1.symm)
  case rest =>
  obtain ⟨rfl, rfl⟩ := hcut
  by_cases hx : 40 < live.length
  · have g1 : (40 : Int) < (live.length : Int) := by omega
    go_wp2_with (go_at_call 6; refine (awake_any _).mono ?_; rintro e' w2 ⟨rfl, hb2⟩)
    go_ret
    exact ⟨rfl, hb2⟩
  have g1 : ¬ (40 : Int) < (live.length : Int) := by omega
  by_cases hx : 40 < ws.length
  · have g2 : (40 : Int) < (ws.length : Int) := by omega
    go_wp2_with (go_at_call 6; refine (awake_any _).mono ?_; rintro e' w2 ⟨rfl, hb2⟩)
    go_ret
    exact ⟨rfl, hb2⟩
  have g2 : ¬ (40 : Int) < (ws.length : Int) := by omega
  by_cases hx : 40 < may.length
  · have g3 : (40 : Int) < (may.length : Int) := by omega
    go_wp2_with (go_at_call 6; refine (awake_any _).mono ?_; rintro e' w2 ⟨rfl, hb2⟩)
    go_ret
    exact ⟨rfl, hb2⟩
  have g3 : ¬ (40 : Int) < (may.length : Int) := by omega
  have en := HE.out
  have nn : n ≤ 1000000 := by omega
  have n40 : n ≤ 40 := by omega
  have lt1 : (live.take n).length = n := len_take _ _ (by omega)
  have lt2 : (ws.take n).length = n := len_take _ _ (by omega)
  have lt3 : (may.take n).length = n := len_take _ _ (by omega)
  have HT := Lib.hid (And.intro lt1 (And.intro lt2 lt3))
  have hS1 : Sl w w.heap.size A1 ((live.take n).map (Value.int .i64)) := by rw [List.map_take]; exact sl_take h1 n
  have hS2 : Sl w w.heap.size A2 ((ws.take n).map (Value.int .i64)) := by rw [List.map_take]; exact sl_take h2 n
  have hS3 : Sl w w.heap.size A3 ((may.take n).map Value.bool) := by rw [List.map_take]; exact sl_take h3 n
  obtain ⟨L, hL⟩ : ∃ L, lowL 9 (live.take n) = L := ⟨_, rfl⟩
  obtain ⟨W, hW⟩ : ∃ L, lowL 50 (ws.take n) = L := ⟨_, rfl⟩
  obtain ⟨G, hG⟩ : ∃ G, may.take n = G := ⟨_, rfl⟩
  rw [hG] at hS3 lt3
  have lL : L.length = n := by rw [← hL]; simp only [lowL, List.length_map]; exact lt1
  have lW : W.length = n := by rw [← hW]; simp only [lowL, List.length_map]; exact lt2
  have bL : ∀ z ∈ L, 0 ≤ z := fun z hz => by rw [← hL] at hz; exact (lowL_bd (by omega) hz).1
  have bW : ∀ z ∈ W, 0 ≤ z ∧ z ≤ 2147483648 := fun z hz => by rw [← hW] at hz; have := lowL_bd (by omega) hz; omega
  have EL := Lib.hid hL
  have EW := Lib.hid hW
  have HLN := Lib.hid (And.intro lL (And.intro lW lt3))
  have FB := Lib.hid (And.intro bL bW)
  have s1 : (0 : Int) ≤ (n : Int) := by omega
  have s2 : (n : Int) ≤ (c1 : Int) := by omega
  have s3 : (n : Int) ≤ (c2 : Int) := by omega
  have s4 : (n : Int) ≤ (c3 : Int) := by omega
  have HB0 : Below w.heap.size w w := Below.refl _ _
  clear hL hW hG lL lW lt1 lt2 lt3 bL bW en h1 h2 h3
  go_upto_region 4 with fail
  go_cut [0, 1] (fun v0 v1 wx => ∃ A4 c4 A5 c5, v0 = .slice A4 n c4 ∧ v1 = .slice A5 n c5 ∧ n ≤ c5 ∧ c5 ≤ maxLen ∧ Sl wx wx.heap.size A4 (L.map (Value.int .i64)) ∧ Sl wx wx.heap.size A5 (W.map (Value.int .i64)) ∧ Below w.heap.size w wx)
  case first =>
    refine wp_region_noPanic ?_
    refine wp_region_held_drew (S := (fun w' => Below w.heap.size w w')) (by kernel_rfl) ?_ (fun hHeld => ?_)
    · (first | exact HX | exact HB0.drew)
    refine wpAnyH_take (i := 0) (oi := { dst := some 36, op := Op.move (Operand.tmp 0), type := 22, pos := "law.go:41", after := #[], guard := none }) (v := ?_) rfl (by kernel_rfl) (by kernel_rfl) (by kernel_rfl) (fun _ _ _ h => h) (Or.inl ⟨by rfl, ?_⟩) (by assumption) ?_
    rotate_left
    · (intro wS hSw; (try dsimp only at hSw); go_simp; (try with_reducible rfl))
    try simp only [Act.put, List.setIfInBounds_toArray, List.set_cons_zero, List.set_cons_succ]
    refine wpAnyH_take (i := 1) (oi := { dst := some 37, op := Op.move (Operand.tmp 7), type := 3, pos := "law.go:41", after := #[], guard := none }) (v := ?_) rfl (by kernel_rfl) (by kernel_rfl) (by kernel_rfl) (fun _ _ _ h => h) (Or.inl ⟨by rfl, ?_⟩) (by assumption) ?_
    rotate_left
    · (intro wS hSw; (try dsimp only at hSw); go_simp; (try with_reducible rfl))
    try simp only [Act.put, List.setIfInBounds_toArray, List.set_cons_zero, List.set_cons_succ]
    refine wpAnyH_take (i := 2) (oi := { dst := some 38, op := Op.slice 22 (Operand.tmp 36) none (some (Operand.tmp 37)) none, type := 22, pos := "law.go:41", after := #[{ on := 0, ground := Ground.data }, { on := 1, ground := Ground.data }], guard := none }) (v := ?_) rfl (by kernel_rfl) (by kernel_rfl) (by kernel_rfl) (fun _ _ _ h => h) (Or.inl ⟨by rfl, ?_⟩) (by assumption) ?_
    rotate_left
    · (intro wS hSw; (try dsimp only at hSw); go_simp; (try with_reducible rfl))
    try simp only [Act.put, List.setIfInBounds_toArray, List.set_cons_zero, List.set_cons_succ]
    refine wpAnyH_take (i := 4) (oi := { dst := some 40, op := Op.move (Operand.tmp 1), type := 22, pos := "law.go:41", after := #[], guard := none }) (v := ?_) rfl (by kernel_rfl) (by kernel_rfl) (by kernel_rfl) (fun _ _ _ h => h) (Or.inl ⟨by rfl, ?_⟩) (by assumption) ?_
    rotate_left
    · (intro wS hSw; (try dsimp only at hSw); go_simp; (try with_reducible rfl))
    try simp only [Act.put, List.setIfInBounds_toArray, List.set_cons_zero, List.set_cons_succ]
    refine wpAnyH_take (i := 5) (oi := { dst := some 41, op := Op.move (Operand.tmp 7), type := 3, pos := "law.go:41", after := #[], guard := none }) (v := ?_) rfl (by kernel_rfl) (by kernel_rfl) (by kernel_rfl) (fun _ _ _ h => h) (Or.inl ⟨by rfl, ?_⟩) (by assumption) ?_
    rotate_left
    · (intro wS hSw; (try dsimp only at hSw); go_simp; (try with_reducible rfl))
    try simp only [Act.put, List.setIfInBounds_toArray, List.set_cons_zero, List.set_cons_succ]
    refine wpAnyH_take (i := 6) (oi := { dst := some 42, op := Op.slice 22 (Operand.tmp 40) none (some (Operand.tmp 41)) none, type := 22, pos := "law.go:41", after := #[{ on := 4, ground := Ground.data }, { on := 5, ground := Ground.data }], guard := none }) (v := ?_) rfl (by kernel_rfl) (by kernel_rfl) (by kernel_rfl) (fun _ _ _ h => h) (Or.inl ⟨by rfl, ?_⟩) (by assumption) ?_
    rotate_left
    · (intro wS hSw; (try dsimp only at hSw); go_simp; (try with_reducible rfl))
    try simp only [Act.put, List.setIfInBounds_toArray, List.set_cons_zero, List.set_cons_succ]
    refine wpAnyH_ready (rs := [3]) (by kernel_rfl) (by simp) ?_
    refine AllReadyH.cons (o := { dst := some 39, op := Op.call { callee := Callee.value (Operand.func 7), args := #[Operand.tmp 38, Operand.const (Value.int IntKind.i64 9)], argTypes := #[22, 3] }, type := 22, pos := "law.go:41", after := #[{ on := 2, ground := Ground.data }], guard := none }) rfl (fun K hK => ?_) AllReadyH.nil
    go_simp
    (first
        | (go_at_call 7; ((with_reducible refine (low_n 9 (by omega) (by omega) n (live.take n) HT.out.1 A1 c1 _ (hS1.next hHeld) nn).mono ?_); rintro e' w1 ⟨A4, c4, rfl, k4, k4p, H1, hb1⟩; rw [EL.out] at H1; have HX := btr hHeld hHeld.size hb1))
        | (go_at_call 7; ((with_reducible refine (low_n 50 (by omega) (by omega) n (ws.take n) HT.out.2.1 A2 c2 _ (hS2.next hHeld) nn).mono ?_); rintro e' w1 ⟨A5, c5, rfl, k5, k5p, H2, hb1⟩; rw [EW.out] at H2; replace H1 := H1.next hb1; have HX := btr hHeld hHeld.size hb1)))
    go_wp2_with fail
    refine hK.out _ _ ?_ (fun hNew => ?_)
    · (first | exact HX | exact HB0.drew)
    clear hK K hHeld
    have hHeld := hNew
    clear hNew
    try simp only [Act.put, List.setIfInBounds_toArray, List.set_cons_zero, List.set_cons_succ]
    refine wpAnyH_ready (rs := [7]) (by kernel_rfl) (by simp) ?_
    refine AllReadyH.cons (o := { dst := some 43, op := Op.call { callee := Callee.value (Operand.func 7), args := #[Operand.tmp 42, Operand.const (Value.int IntKind.i64 50)], argTypes := #[22, 3] }, type := 22, pos := "law.go:41", after := #[{ on := 6, ground := Ground.data }, { on := 3, ground := Ground.chain }], guard := none }) rfl (fun K hK => ?_) AllReadyH.nil
    go_simp
    (first
        | (go_at_call 7; ((with_reducible refine (low_n 9 (by omega) (by omega) n (live.take n) HT.out.1 A1 c1 _ (hS1.next hHeld) nn).mono ?_); rintro e' w1 ⟨A4, c4, rfl, k4, k4p, H1, hb1⟩; rw [EL.out] at H1; have HX := btr hHeld hHeld.size hb1))
        | (go_at_call 7; ((with_reducible refine (low_n 50 (by omega) (by omega) n (ws.take n) HT.out.2.1 A2 c2 _ (hS2.next hHeld) nn).mono ?_); rintro e' w1 ⟨A5, c5, rfl, k5, k5p, H2, hb1⟩; rw [EW.out] at H2; replace H1 := H1.next hb1; have HX := btr hHeld hHeld.size hb1)))
    go_wp2_with fail
    refine hK.out _ _ ?_ (fun hNew => ?_)
    · (first | exact HX | exact HB0.drew)
    clear hK K hHeld
    have hHeld := hNew
    clear hNew
    try simp only [Act.put, List.setIfInBounds_toArray, List.set_cons_zero, List.set_cons_succ]
    refine wpAnyH_take (i := 8) (oi := { dst := some 0, op := Op.assign (Operand.tmp 39), type := 22, pos := "law.go:41", after := #[{ on := 3, ground := Ground.data }, { on := 7, ground := Ground.chain }, { on := 0, ground := Ground.phase }, { on := 1, ground := Ground.phase }, { on := 2, ground := Ground.phase }, { on := 3, ground := Ground.phase }, { on := 4, ground := Ground.textOnly Departure.lateStores }, { on := 5, ground := Ground.textOnly Departure.lateStores }, { on := 6, ground := Ground.textOnly Departure.lateStoresUnsure }, { on := 7, ground := Ground.textOnly Departure.lateStoresUnsure }], guard := none }) (v := ?_) rfl (by kernel_rfl) (by kernel_rfl) (by kernel_rfl) (fun _ _ _ h => h) (Or.inl ⟨by rfl, ?_⟩) (by assumption) ?_
    rotate_left
    · (intro wS hSw; (try dsimp only at hSw); go_simp; (try with_reducible rfl))
    try simp only [Act.put, List.setIfInBounds_toArray, List.set_cons_zero, List.set_cons_succ]
    refine wpAnyH_take (i := 9) (oi := { dst := some 1, op := Op.assign (Operand.tmp 43), type := 22, pos := "law.go:41", after := #[{ on := 7, ground := Ground.data }, { on := 8, ground := Ground.chain }, { on := 0, ground := Ground.phase }, { on := 1, ground := Ground.phase }, { on := 2, ground := Ground.phase }, { on := 3, ground := Ground.phase }, { on := 4, ground := Ground.phase }, { on := 5, ground := Ground.phase }, { on := 6, ground := Ground.phase }, { on := 7, ground := Ground.phase }, { on := 8, ground := Ground.phase }], guard := none }) (v := ?_) rfl (by kernel_rfl) (by kernel_rfl) (by kernel_rfl) (fun _ _ _ h => h) (Or.inl ⟨by rfl, ?_⟩) (by assumption) ?_
    rotate_left
    · (intro wS hSw; (try dsimp only at hSw); go_simp; (try with_reducible rfl))
    try simp only [Act.put, List.setIfInBounds_toArray, List.set_cons_zero, List.set_cons_succ]
    refine wpAnyH_done (by kernel_rfl) ?_ _
    refine NoPanic.normal ?_
    go_wp2_with fail
    go_meet
    exact ⟨A4, c4, A5, c5, rfl, rfl, k5, k5p, H1, H2, hHeld⟩

  case rest =>
  obtain ⟨A4, c4, A5, c5, rfl, rfl, k5, k5p, H1, H2, HW⟩ := hcut
  obtain ⟨wo, rfl⟩ : ∃ W : World, W = wc := ⟨_, rfl⟩
  have H3 := hS3.next HW
  clear HT hS1 hS2 HE EL EW k1 k1p k2 k2p HB0
  obtain ⟨P0, hP0⟩ : ∃ P, pickF L W G n = P := ⟨_, rfl⟩
  have FP : Hid (Value.int .i64 (pickF L W G n) = .int .i64 P0) := Lib.hid (by rw [hP0])
  have HP0 := Lib.hid hP0
  clear hP0
  go_wp2_with (first
    | (at_builtin; obtain ⟨i0, hi, hz0, hz1, hz2⟩ := info_parts infoBool; refine wpList_app _ rfl (.const (.slice none 0 0)) (.tmp 46) _ rfl wo.heap.size 4 i0 _ 1 1 Try.underlying23 hi hz0 hz1 hz2 rfl (by decide) (.slice none 0 0) 0 [] rfl (World.ownsRow_nil _ _ _ _) A3 n _ (G.map Value.bool) rfl (Rd.of_sl H3 (by rw [List.length_map]; exact HLN.out.2.2)) (by intro u hu; simp at hu; rcases hu with ⟨_, rfl⟩ | ⟨_, rfl⟩ <;> rfl) (by unfold maxLen; omega) (by omega) (Nat.le_refl _) ?_; intro vo wa hoO hgO hvO; clear hi hz0 hz1 hz2; replace hoO := own_len (Nat.zero_add n) hoO; rw [List.nil_append] at hoO; have HBA := below_app (Nat.le_refl _) (Nat.le_refl _) (World.ownsRow_nil _ wo.heap.size 4 1) hgO; have K1 := H1; have K2 := H2; have hZo := HBA; replace H1 := H1.next HBA; replace H2 := H2.next HBA; have hZ := btr HW HW.size HBA; obtain ⟨AO, co, rfl, -, ko, kop, SO⟩ := own_sliceB hoO)
    | (go_at_call 8; with_reducible refine (Pick_n _ n L W G HLN.out.1 HLN.out.2.1 HLN.out.2.2 A4 A5 AO c4 c5 co FP.out _ H1 H2 SO nn).mono ?_; rintro e' wq ⟨rfl, hb⟩; replace H1 := H1.next hb; replace H2 := H2.next hb; replace SO := SO.next hb; replace hoO := own_below hoO hb; replace hZ := btr hZ hZ.size hb; replace hZo := btr hZo hZo.size hb; clear hb))
  have HC0 := Lib.hid (show cnt G 0 = 0 from rfl)
  obtain ⟨C, hC, hC0⟩ : ∃ C : Nat → Nat, (∀ k, C k = cnt G k) ∧ C 0 = 0 := ⟨cnt G, fun _ => rfl, rfl⟩
  have HC := Lib.hid hC
  have HC1 := Lib.hid hC0
  clear hC hC0 HC0
  go_loopw [10, 11] (fun m i wr => ∃ k : Nat, k ≤ n ∧ i = .int .i64 k ∧ m = .int .i64 (C k : Nat) ∧ wq = wr) (fun _ i _ => n - (intOf i).toNat)
  case atStart => exact ⟨0, Nat.zero_le _, rfl, by rw [HC1.out]; rfl, rfl⟩
  case round =>
    obtain ⟨k, hk, rfl, rfl, rfl⟩ := hrel
    by_cases hlt : k < n
    · obtain ⟨b3, o3, rfl, l3, q3⟩ := SO.at_ (by rw [List.length_map]; have := HLN.out.2.2; omega)
      have cg := q3 k _ (at_bool HLN.out.2.2 hlt)
      have hst : C (k + 1) = C k + if G.getD k false = true then 1 else 0 := by rw [HC.out, HC.out]; rfl
      have hle : C k ≤ k := by rw [HC.out]; exact cnt_le G k
      obtain ⟨g, hg⟩ : ∃ g, G.getD k false = g := ⟨_, rfl⟩
      rw [hg] at cg hst
      have j0 : (0 : Int) ≤ (k : Int) := by omega
      have j1 : (k : Int) < (n : Int) := by omega
      generalize C k = c at hst hle ⊢
      have HST := Lib.hid hst
      have HLE := Lib.hid hle
      clear q3 hg hst hle
      cases g
      · go_wp2
        go_roundw
        case rel =>
          have h1 := HST.out
          have h2 := HLE.out
          simp at h1
          exact ⟨k + 1, by omega, by go_num, by rw [h1], trivial⟩
        case measure => simp [intOf]; omega
      · go_wp2
        go_roundw
        case rel =>
          have h1 := HST.out
          have h2 := HLE.out
          simp at h1
          exact ⟨k + 1, by omega, by go_num, by rw [h1]; exact congrArg (Value.int .i64) (by unfold wrap64; omega), trivial⟩
        case measure => simp [intOf]; omega
    · have hkn : k = n := by omega
      subst hkn
      have hCn := HC.out k
      obtain ⟨m, hm⟩ : ∃ m, C k = m := ⟨_, rfl⟩
      rw [hm] at hCn ⊢
      have q0 : ¬ (k : Int) < (k : Int) := by omega
      have HM := Lib.hid hCn
      have HML : Hid (m ≤ k) := Lib.hid (by rw [hCn]; exact cnt_le G k)
      clear hm hCn HC HC1
      obtain ⟨wo', rfl⟩ : ∃ W : World, W = wq := ⟨_, rfl⟩
      by_cases hm0 : m = 0
      · have hz : cnt G k = 0 := by rw [← HM.out]; exact hm0
        have P1 : P0 = -1 := by rw [← HP0.out]; exact pick_none L W hz
        have FL : Hid (Value.int .i64 (leastI W G) = .int .i64 (-1)) := Lib.hid (by rw [least_none HLN.out.2.1 HLN.out.2.2 hz])
        have FC : Hid (Value.int .i64 (coldI L W G 0) = .int .i64 (-1)) := Lib.hid (by rw [cold_none HLN.out.1 HLN.out.2.1 HLN.out.2.2 hz])
        have m0 : ((m : Int) == 0) = true := by simp; omega
        subst P1
        clear hm0 hz
        go_wp2_with (first
          | (go_at_call 10; with_reducible refine (Free_n _ k W G HLN.out.2.1 HLN.out.2.2 A5 AO c5 co FL.out _ H2 SO nn FB.out.2).mono ?_; rintro e' w' ⟨rfl, hb⟩; replace H1 := H1.next hb; replace H2 := H2.next hb; replace SO := SO.next hb; replace hoO := own_below hoO hb; replace hZ := btr hZ hZ.size hb; replace hZo := btr hZo hZo.size hb; clear hb)
          | (go_at_call 12; with_reducible refine (Cold_n _ k L W G HLN.out.1 HLN.out.2.1 HLN.out.2.2 A4 A5 AO c4 c5 co 0 FC.out _ H1 H2 SO nn k5 k5p ko kop FB.out.2 FB.out.1).mono ?_; rintro e' w' ⟨rfl, hb⟩; replace H1 := H1.next hb; replace H2 := H2.next hb; replace SO := SO.next hb; replace hoO := own_below hoO hb; replace hZ := btr hZ hZ.size hb; replace hZo := btr hZo hZo.size hb; clear hb)
          | (go_at_call 6; with_reducible refine (awake_any _).mono ?_; rintro e' w' ⟨rfl, hb⟩; replace H1 := H1.next hb; replace H2 := H2.next hb; replace SO := SO.next hb; replace hoO := own_below hoO hb; replace hZ := btr hZ hZ.size hb; replace hZo := btr hZo hZo.size hb; clear hb))
        go_ret
        exact ⟨by simp, hZ⟩
      · have hz : cnt G k ≠ 0 := by rw [← HM.out]; exact hm0
        have m0 : ((m : Int) == 0) = false := by simp; omega
        obtain ⟨p, hp, hP, hpm, hbest⟩ := pick_many (live := L) (ws := W) hz
        obtain ⟨q, hq, hQ⟩ := least_some HLN.out.2.1 HLN.out.2.2 hz
        have P1 : P0 = (p : Int) := by rw [← HP0.out]; exact hP
        subst P1
        obtain ⟨b3, o3, rfl, l3, q3⟩ := SO.at_ (by rw [List.length_map]; have := HLN.out.2.2; omega)
        have cp : wo'.cell? ⟨b3, o3 + p, none⟩ = some (.bool true) := by rw [← hpm]; exact q3 p _ (at_bool HLN.out.2.2 hp)
        have p0 : ¬ (p : Int) < 0 := by omega
        have p1 : ¬ (k : Int) ≤ (p : Int) := by omega
        have p2 : (p : Int) < (k : Int) := by omega
        have p3 : (0 : Int) ≤ (p : Int) := by omega
        have HBEST := Lib.hid hbest
        have HQ := Lib.hid hQ
        have HPM := Lib.hid hpm
        have HZ1 := Lib.hid hz
        clear hbest hQ hP hpm hz hm0
        go_wp2_with fail
        go_loopw [12] (fun i wr => ∃ k2 : Nat, k2 ≤ k ∧ i = .int .i64 k2 ∧ Below wo'.heap.size wo' wr) (fun i _ => k - (intOf i).toNat)
        case atStart => exact ⟨0, Nat.zero_le _, rfl, Below.refl _ _⟩
        case round =>
          obtain ⟨k2, hk2, rfl, hBr⟩ := hrel
          by_cases hlt : k2 < k
          · obtain ⟨b4, o4, rfl, l4, q4⟩ := sl_get H1 (by rw [List.length_map]; have := HLN.out.1; omega)
            obtain ⟨b5, o5, rfl, l5, q5⟩ := sl_get H2 (by rw [List.length_map]; have := HLN.out.2.1; omega)
            have q3' : ∀ w', Below wo'.heap.size wo' w' → w'.cell? ⟨b3, o3 + k2, none⟩ = some (.bool (G.getD k2 false)) := fun w' hB => (hB.cell (p := ⟨b3, o3 + k2, none⟩) l3).trans (q3 k2 _ (at_bool HLN.out.2.2 hlt))
            have y1 := fun w' hB => q4 w' hB k2 _ (at_int HLN.out.1 hlt)
            have y2 := fun w' hB => q4 w' hB p _ (at_int HLN.out.1 hp)
            have y3 := fun w' hB => q5 w' hB k2 _ (at_int HLN.out.2.1 hlt)
            have y4 := fun w' hB => q5 w' hB p _ (at_int HLN.out.2.1 hp)
            have hb := HBEST.out k2 hlt
            obtain ⟨g, hg⟩ : ∃ g, G.getD k2 false = g := ⟨_, rfl⟩
            obtain ⟨zl, hzl⟩ : ∃ z, L.getD k2 0 = z := ⟨_, rfl⟩
            obtain ⟨zw, hzw⟩ : ∃ z, W.getD k2 0 = z := ⟨_, rfl⟩
            obtain ⟨yl, hyl⟩ : ∃ z, L.getD p 0 = z := ⟨_, rfl⟩
            obtain ⟨yw, hyw⟩ : ∃ z, W.getD p 0 = z := ⟨_, rfl⟩
            rw [hg] at q3' hb
            rw [hzl] at y1 hb
            rw [hyl] at y2 hb
            rw [hzw] at y3 hb
            rw [hyw] at y4 hb
            have KP : Hid (∀ w', Below wo'.heap.size wo' w' → Below wo'.heap.size wo' w' ∧ w'.cell? ⟨b3, o3 + k2, none⟩ = some (.bool g) ∧ w'.cell? ⟨b4, o4 + k2, none⟩ = some (.int .i64 zl) ∧ w'.cell? ⟨b4, o4 + p, none⟩ = some (.int .i64 yl) ∧ w'.cell? ⟨b5, o5 + k2, none⟩ = some (.int .i64 zw) ∧ w'.cell? ⟨b5, o5 + p, none⟩ = some (.int .i64 yw)) :=
              Lib.hid fun w' h => ⟨h, q3' w' h, y1 w' h, y2 w' h, y3 w' h, y4 w' h⟩
            have HBN : Below wo'.heap.size wo' wr.drew := hBr.drew
            have i0 : (0 : Int) ≤ (k2 : Int) := by omega
            have i1 : (k2 : Int) < (k : Int) := by omega
            clear q3 q3' y1 y2 y3 y4 q4 q5 hg hzl hzw hyl hyw H1 H2 K1 K2 hZo SO hoO HBEST HQ HPM HZ1 HP0 FP HM HML m0 hZ H3 FB HLN HW hS3 g1 g2 g3 s1 s2 s3 s4 ko kop k3 k3p cp hq hx
            cases g
            · clear hb
              go_upto_region 20 with fail
              refine r20_a i0 i1 p2 p3 KP HBN ?_
              intro v102 v103 v104 v105 v106 v107 v108 v109 v110 v111 v112 v113 v114 v115 v116 v117 v118 v119 v120 v121 v122 v123 v124 v125 v126 v127 v128 v129 v130 v131 v132 v133 v134 v135 v136 v137 v138 v139 v140 v141 v142 v143 v144 v145 v146 v147 v148 v149 v150 v151 v152 v153 v154 v155 v156 v157 v158 v159 v160 v161 v162 v163 v164 w8 hHB
              clear KP HBN hBr
              go_wp2_with fail
              go_roundw
              case rel => exact ⟨k2 + 1, by omega, by go_num, hHB⟩
              case measure => simp [intOf]; omega
            · replace hb := hb rfl
              by_cases ha : yl < zl
              · have t1 : decide (zl < yl) = false := by simp; omega
                have t2 : (zl == yl) = false := by simp; omega
                clear hb ha
                go_upto_region 20 with fail
                refine r20_b i0 i1 p2 p3 t1 t2 KP HBN ?_
                intro v102 v103 v104 v105 v106 v107 v108 v109 v110 v111 v112 v113 v114 v115 v116 v117 v118 v119 v120 v121 v122 v123 v124 v125 v126 v127 v128 v129 v130 v131 v132 v133 v134 v135 v136 v137 v138 v139 v140 v141 v142 v143 v144 v145 v146 v147 v148 v149 v150 v151 v152 v153 v154 v155 v156 v157 v158 v159 v160 v161 v162 v163 v164 w8 hHB
                clear KP HBN hBr
                go_wp2_with fail
                go_roundw
                case rel => exact ⟨k2 + 1, by omega, by go_num, hHB⟩
                case measure => simp [intOf]; omega
              · have hE : zl = yl := by omega
                subst hE
                by_cases hc : yw < zw
                · have t1 : decide (zl < zl) = false := by simp
                  have t2 : (zl == zl) = true := by simp
                  have t3 : decide (zw < yw) = false := by simp; omega
                  have t4 : (zw == yw) = false := by simp; omega
                  clear hb ha hc
                  go_upto_region 20 with fail
                  refine r20_c (yl := zl) i0 i1 p2 p3 t1 t2 t3 t4 KP HBN ?_
                  intro v102 v103 v104 v105 v106 v107 v108 v109 v110 v111 v112 v113 v114 v115 v116 v117 v118 v119 v120 v121 v122 v123 v124 v125 v126 v127 v128 v129 v130 v131 v132 v133 v134 v135 v136 v137 v138 v139 v140 v141 v142 v143 v144 v145 v146 v147 v148 v149 v150 v151 v152 v153 v154 v155 v156 v157 v158 v159 v160 v161 v162 v163 v164 w8 hHB
                  clear KP HBN hBr
                  go_wp2_with fail
                  go_roundw
                  case rel => exact ⟨k2 + 1, by omega, by go_num, hHB⟩
                  case measure => simp [intOf]; omega
                · have hE2 : zw = yw := by omega
                  subst hE2
                  have t1 : decide (zl < zl) = false := by simp
                  have t2 : (zl == zl) = true := by simp
                  have t3 : decide (zw < zw) = false := by simp
                  have t4 : (zw == zw) = true := by simp
                  have t5 : decide (k2 < p) = false := decide_eq_false (by omega)
                  clear hb ha hc
                  go_upto_region 20 with fail
                  refine r20_d (yl := zl) (yw := zw) i0 i1 p2 p3 t1 t2 t3 t4 t5 KP HBN ?_
                  intro v102 v103 v104 v105 v106 v107 v108 v109 v110 v111 v112 v113 v114 v115 v116 v117 v118 v119 v120 v121 v122 v123 v124 v125 v126 v127 v128 v129 v130 v131 v132 v133 v134 v135 v136 v137 v138 v139 v140 v141 v142 v143 v144 v145 v146 v147 v148 v149 v150 v151 v152 v153 v154 v155 v156 v157 v158 v159 v160 v161 v162 v163 v164 w8 hHB
                  clear KP HBN hBr
                  go_wp2_with fail
                  go_roundw
                  case rel => exact ⟨k2 + 1, by omega, by go_num, hHB⟩
                  case measure => simp [intOf]; omega
          · have hkk : k = k2 := by omega
            subst hkk
            replace H1 := H1.next hBr
            replace H2 := H2.next hBr
            replace SO := SO.next hBr
            replace hoO := own_below hoO hBr
            replace hZ := btr hZ hZ.size hBr
            replace hZo := btr hZo hZo.size hBr
            clear hBr q3 cp hlt HBEST
            have hY : Below wr.heap.size wr wr := Below.refl _ _
            obtain ⟨d, hd⟩ : ∃ d, decide (3 < spreadI W G) = d := ⟨_, rfl⟩
            have FD : Hid (Value.bool (decide (3 < spreadI W G)) = .bool d) := Lib.hid (by rw [hd])
            have FL : Hid (Value.int .i64 (leastI W G) = .int .i64 q) := Lib.hid (by rw [HQ.out])
            obtain ⟨x1, x2, x3⟩ := cold_some HLN.out.1 HLN.out.2.1 HLN.out.2.2 HQ.out 3
            obtain ⟨C3, hC3⟩ : ∃ c, coldI L W G 3 = c := ⟨_, rfl⟩
            have FC : Hid (Value.int .i64 (coldI L W G 3) = .int .i64 C3) := Lib.hid (by rw [hC3])
            rw [hC3] at x1 x2 x3
            obtain ⟨b4, o4, rfl, l4, q4⟩ := sl_get H1 (by rw [List.length_map]; have := HLN.out.1; omega)
            have y1 := fun w' hB => q4 w' hB q _ (at_int HLN.out.1 hq)
            obtain ⟨zq, hzq⟩ : ∃ z, L.getD q 0 = z := ⟨_, rfl⟩
            rw [hzq] at y1 x2 x3
            clear q4 hzq hC3
            have YQ := Lib.hid y1
            clear y1
            have hd3 : d = true ↔ 3 < spreadI W G := by rw [← hd]; simp
            have X : Hid ((d = false ∧ C3 = -1) ∨ (d = true ∧ zq ≤ 0 ∧ C3 = -1) ∨ (d = true ∧ 0 < zq ∧ C3 = (q : Int))) := Lib.hid (by
              cases d
              · exact Or.inl ⟨rfl, x1 (fun h => by have := hd3.2 h; cases this)⟩
              · by_cases hz0 : 0 < zq
                · exact Or.inr (Or.inr ⟨rfl, hz0, x3 (hd3.1 rfl) hz0⟩)
                · exact Or.inr (Or.inl ⟨rfl, by omega, x2 (by omega)⟩))
            clear hd hd3 x1 x2 x3
            have u1 : (0 : Int) ≤ (q : Int) := by omega
            have u2 : (q : Int) < (k : Int) := by omega
            go_upto_region 23 with (first
                | (go_at_call 12; with_reducible refine (Cold_n _ k L W G HLN.out.1 HLN.out.2.1 HLN.out.2.2 _ A5 _ c4 c5 co 3 FC.out _ H1 H2 SO nn k5 k5p ko kop FB.out.2 FB.out.1).mono ?_; rintro e' w' ⟨rfl, hb⟩; replace H1 := H1.next hb; replace H2 := H2.next hb; replace SO := SO.next hb; replace hoO := own_below hoO hb; replace hZ := btr hZ hZ.size hb; replace hZo := btr hZo hZo.size hb; replace hY := btr hY hY.size hb; (try clear cy); have cy := YQ.out _ hY; clear hb)
                | (go_at_call 14; with_reducible refine (DueV_n _ k W G HLN.out.2.1 HLN.out.2.2 A5 _ c5 co 3 FD.out _ H2 SO nn FB.out.2).mono ?_; rintro e' w' ⟨rfl, hb⟩; replace H1 := H1.next hb; replace H2 := H2.next hb; replace SO := SO.next hb; replace hoO := own_below hoO hb; replace hZ := btr hZ hZ.size hb; replace hZo := btr hZo hZo.size hb; replace hY := btr hY hY.size hb; (try clear cy); have cy := YQ.out _ hY; clear hb)
                | (go_at_call 15; with_reducible refine (LeastV_n _ k W G HLN.out.2.1 HLN.out.2.2 A5 _ c5 co FL.out _ H2 SO nn FB.out.2).mono ?_; rintro e' w' ⟨rfl, hb⟩; replace H1 := H1.next hb; replace H2 := H2.next hb; replace SO := SO.next hb; replace hoO := own_below hoO hb; replace hZ := btr hZ hZ.size hb; replace hZo := btr hZo hZo.size hb; replace hY := btr hY hY.size hb; (try clear cy); have cy := YQ.out _ hY; clear hb))
            go_cut [191] (fun v wx => v = .bool false ∧ Below wo.heap.size wo wx ∧ Below w.heap.size w wx ∧ Sl wx wx.heap.size (some ⟨b3, o3, none⟩) (G.map Value.bool) ∧ wx.ownsRow wo.heap.size 4 1 (.slice (some ⟨b3, o3, none⟩) k co) k (G.map Value.bool))
            case first =>
              rcases X.out with ⟨rfl, rfl⟩ | ⟨rfl, hz0, rfl⟩ | ⟨rfl, hz0, rfl⟩
              · go_wp2_with (first
                | (go_at_call 12; with_reducible refine (Cold_n _ k L W G HLN.out.1 HLN.out.2.1 HLN.out.2.2 _ A5 _ c4 c5 co 3 FC.out _ H1 H2 SO nn k5 k5p ko kop FB.out.2 FB.out.1).mono ?_; rintro e' w' ⟨rfl, hb⟩; replace H1 := H1.next hb; replace H2 := H2.next hb; replace SO := SO.next hb; replace hoO := own_below hoO hb; replace hZ := btr hZ hZ.size hb; replace hZo := btr hZo hZo.size hb; replace hY := btr hY hY.size hb; (try clear cy); have cy := YQ.out _ hY; clear hb)
                | (go_at_call 14; with_reducible refine (DueV_n _ k W G HLN.out.2.1 HLN.out.2.2 A5 _ c5 co 3 FD.out _ H2 SO nn FB.out.2).mono ?_; rintro e' w' ⟨rfl, hb⟩; replace H1 := H1.next hb; replace H2 := H2.next hb; replace SO := SO.next hb; replace hoO := own_below hoO hb; replace hZ := btr hZ hZ.size hb; replace hZo := btr hZo hZo.size hb; replace hY := btr hY hY.size hb; (try clear cy); have cy := YQ.out _ hY; clear hb)
                | (go_at_call 15; with_reducible refine (LeastV_n _ k W G HLN.out.2.1 HLN.out.2.2 A5 _ c5 co FL.out _ H2 SO nn FB.out.2).mono ?_; rintro e' w' ⟨rfl, hb⟩; replace H1 := H1.next hb; replace H2 := H2.next hb; replace SO := SO.next hb; replace hoO := own_below hoO hb; replace hZ := btr hZ hZ.size hb; replace hZo := btr hZo hZo.size hb; replace hY := btr hY hY.size hb; (try clear cy); have cy := YQ.out _ hY; clear hb))
                go_meet
                exact ⟨by simp, hZo, hZ, SO, hoO⟩
              · have hz1 : ¬ 0 < zq := by omega
                go_wp2_with (first
                | (go_at_call 12; with_reducible refine (Cold_n _ k L W G HLN.out.1 HLN.out.2.1 HLN.out.2.2 _ A5 _ c4 c5 co 3 FC.out _ H1 H2 SO nn k5 k5p ko kop FB.out.2 FB.out.1).mono ?_; rintro e' w' ⟨rfl, hb⟩; replace H1 := H1.next hb; replace H2 := H2.next hb; replace SO := SO.next hb; replace hoO := own_below hoO hb; replace hZ := btr hZ hZ.size hb; replace hZo := btr hZo hZo.size hb; replace hY := btr hY hY.size hb; (try clear cy); have cy := YQ.out _ hY; clear hb)
                | (go_at_call 14; with_reducible refine (DueV_n _ k W G HLN.out.2.1 HLN.out.2.2 A5 _ c5 co 3 FD.out _ H2 SO nn FB.out.2).mono ?_; rintro e' w' ⟨rfl, hb⟩; replace H1 := H1.next hb; replace H2 := H2.next hb; replace SO := SO.next hb; replace hoO := own_below hoO hb; replace hZ := btr hZ hZ.size hb; replace hZo := btr hZo hZo.size hb; replace hY := btr hY hY.size hb; (try clear cy); have cy := YQ.out _ hY; clear hb)
                | (go_at_call 15; with_reducible refine (LeastV_n _ k W G HLN.out.2.1 HLN.out.2.2 A5 _ c5 co FL.out _ H2 SO nn FB.out.2).mono ?_; rintro e' w' ⟨rfl, hb⟩; replace H1 := H1.next hb; replace H2 := H2.next hb; replace SO := SO.next hb; replace hoO := own_below hoO hb; replace hZ := btr hZ hZ.size hb; replace hZo := btr hZo hZo.size hb; replace hY := btr hY hY.size hb; (try clear cy); have cy := YQ.out _ hY; clear hb))
                go_meet
                exact ⟨by simp; omega, hZo, hZ, SO, hoO⟩
              · go_wp2_with (first
                | (go_at_call 12; with_reducible refine (Cold_n _ k L W G HLN.out.1 HLN.out.2.1 HLN.out.2.2 _ A5 _ c4 c5 co 3 FC.out _ H1 H2 SO nn k5 k5p ko kop FB.out.2 FB.out.1).mono ?_; rintro e' w' ⟨rfl, hb⟩; replace H1 := H1.next hb; replace H2 := H2.next hb; replace SO := SO.next hb; replace hoO := own_below hoO hb; replace hZ := btr hZ hZ.size hb; replace hZo := btr hZo hZo.size hb; replace hY := btr hY hY.size hb; (try clear cy); have cy := YQ.out _ hY; clear hb)
                | (go_at_call 14; with_reducible refine (DueV_n _ k W G HLN.out.2.1 HLN.out.2.2 A5 _ c5 co 3 FD.out _ H2 SO nn FB.out.2).mono ?_; rintro e' w' ⟨rfl, hb⟩; replace H1 := H1.next hb; replace H2 := H2.next hb; replace SO := SO.next hb; replace hoO := own_below hoO hb; replace hZ := btr hZ hZ.size hb; replace hZo := btr hZo hZo.size hb; replace hY := btr hY hY.size hb; (try clear cy); have cy := YQ.out _ hY; clear hb)
                | (go_at_call 15; with_reducible refine (LeastV_n _ k W G HLN.out.2.1 HLN.out.2.2 A5 _ c5 co FL.out _ H2 SO nn FB.out.2).mono ?_; rintro e' w' ⟨rfl, hb⟩; replace H1 := H1.next hb; replace H2 := H2.next hb; replace SO := SO.next hb; replace hoO := own_below hoO hb; replace hZ := btr hZ hZ.size hb; replace hZo := btr hZo hZo.size hb; replace hY := btr hY hY.size hb; (try clear cy); have cy := YQ.out _ hY; clear hb))
                go_meet
                exact ⟨by simp, hZo, hZ, SO, hoO⟩
            case rest =>
            clear hZo hZ SO hoO YQ X FD FL FC hY u1 u2 H1 H2
            obtain ⟨rfl, hZo, hZ, SO, hoO⟩ := hcut
            obtain ⟨wt, rfl⟩ : ∃ W : World, W = wc := ⟨_, rfl⟩
            go_upto_region 25 with fail
            obtain ⟨ga, capa, hAA, -, -⟩ := hoO.form (by omega)
            cases hAA
            have fa := hoO.frozenAt p
            have hga := (hoO.lt b3 rfl).1
            have ca0 : wt.cell? ⟨b3, p, none⟩ = some (.bool true) := by
              rw [hoO.cellAt p (by omega), at_bool HLN.out.2.2 hp, HPM.out]
            have RA2 := (hoO.stored p (.bool false)).1
            rw [← List.map_set] at RA2
            have hZ3 := hZo.setCell (p := ⟨b3, p, none⟩) hga (.bool false)
            have hZ2 := hZ.setCell (p := ⟨b3, p, none⟩) (by show w.heap.size ≤ b3; have := HW.size; omega) (.bool false)
            have H1 := K1.next hZ3
            have H2 := K2.next hZ3
            have lS : (G.set p false).length = k := by rw [List.length_set]; exact HLN.out.2.2
            have hs0 : (G.set p false).getD p false = false := by rw [getD_setB _ _ _ _ (by have := HLN.out.2.2; omega), if_pos rfl]
            have hcs := cnt_set (G := G) (p := p) (by have := HLN.out.2.2; omega) HPM.out k
            rw [if_pos hp, ← HM.out] at hcs
            obtain ⟨J, hJ⟩ : ∃ J, pickF L W (G.set p false) k = J := ⟨_, rfl⟩
            have FJ : Hid (Value.int .i64 (pickF L W (G.set p false) k) = .int .i64 J) := Lib.hid (by rw [hJ])
            have J1 : J ≠ (p : Int) := by rw [← hJ]; exact pick_not hs0
            have J2 : J < 0 ↔ m = 1 := by rw [← hJ, pick_neg]; omega
            have HLS := Lib.hid lS
            clear lS hs0 hcs hJ hZ3 hZo hZ SO hoO
            replace J1 : ¬ J = (p : Int) := J1
            by_cases hm1 : m = 1
            · have m2 : ((m : Int) == 1) = true := by simp; omega
              have J3 : J < 0 := J2.2 hm1
              clear J2 hm1
              go_wp2_with (first
                | (go_at_call 8; with_reducible refine (Pick_n _ k L W (G.set p false) HLN.out.1 HLN.out.2.1 HLS.out _ A5 _ c4 c5 co FJ.out _ H1 H2 (Sl.of_own RA2) nn).mono ?_; rintro e' w3 ⟨rfl, hb⟩; replace hZ2 := btr hZ2 hZ2.size hb; clear hb)
                | (go_at_call 6; refine (awake_any _).mono ?_; rintro e' w4 ⟨rfl, hb⟩; replace hZ2 := btr hZ2 hZ2.size hb; clear hb))
              go_ret
              exact ⟨by simp; exact J1, hZ2⟩
            · have m2 : ((m : Int) == 1) = false := by simp; omega
              have J3 : ¬ J < 0 := fun h => hm1 (J2.1 h)
              clear J2 hm1
              go_wp2_with (first
                | (go_at_call 8; with_reducible refine (Pick_n _ k L W (G.set p false) HLN.out.1 HLN.out.2.1 HLS.out _ A5 _ c4 c5 co FJ.out _ H1 H2 (Sl.of_own RA2) nn).mono ?_; rintro e' w3 ⟨rfl, hb⟩; replace hZ2 := btr hZ2 hZ2.size hb; clear hb)
                | (go_at_call 6; refine (awake_any _).mono ?_; rintro e' w4 ⟨rfl, hb⟩; replace hZ2 := btr hZ2 hZ2.size hb; clear hb))
              go_ret
              exact ⟨by simp; exact ⟨J1, by omega⟩, hZ2⟩
end Go.Proofs.Ytlabkkmpllccoaa
