/- Free and Cold: the program's and the answer's own, by their contracts. -/
import Derived.Test.YtlabkkmpllccoaaVictimRef
import Derived.Test.YtlabkkmpllccoaaWearC12
import Derived.Test.YtlabkkmpllccoaaSl2
import Derived.Deep.RegionHeld3
import Derived.Deep.DrawnRows
import Derived.Deep.DeepCutAuto
namespace Go.Proofs.Ytlabkkmpllccoaa
open Go.ChangeShapes Go.WideShapes Go.ChangeAt Go.RowKit
attribute [local go_sem ↓] Go.wp_at_zero Go.wp_at_succ
set_option linter.unusedSimpArgs false
set_option linter.unusedVariables false

def coldI (live ws : List Int) (may : List Bool) (t : Int) : Int :=
  if t < spreadI (ws.take (mlen3 live ws may)) (may.take (mlen3 live ws may)) then
    (if leastI (ws.take (mlen3 live ws may)) (may.take (mlen3 live ws may)) < 0 ∨ live.getD (leastI (ws.take (mlen3 live ws may)) (may.take (mlen3 live ws may))).toNat 0 ≤ 0 then -1
     else leastI (ws.take (mlen3 live ws may)) (may.take (mlen3 live ws may))) else -1

theorem leastI_bd (ws : List Int) (good : List Bool) : leastI ws good = -1 ∨ (0 ≤ leastI ws good ∧ leastI ws good < ws.length) := by
  have := ext_bd ws good 1 (mlen ws good)
  unfold leastI
  unfold mlen at *
  omega
theorem len_take {α} (l : List α) (k : Nat) (h : k ≤ l.length) : (l.take k).length = k := by simp; omega
theorem sl_take {w : World} {B : Nat} {A : Option Addr} {vs : List Value} (h : Sl w B A vs) (n : Nat) : Sl w B A (vs.take n) := by
  rcases h with h | ⟨b, off, e, hlt, hc⟩
  · exact Or.inl (by simp [h])
  · refine Or.inr ⟨b, off, e, hlt, fun k f hv => hc k f ?_⟩
    rw [List.getElem?_take] at hv
    split at hv
    · exact hv
    · cases hv

theorem Due_len (ws : List Int) (may : List Bool) (M : Nat) (e2 : M ≤ ws.length) (e3 : M ≤ may.length) (A2 A3 : Option Addr) (c2 c3 : Nat) (t : Int) (w : World)
    (h2 : Sl w w.heap.size A2 (ws.map (Value.int .i64))) (h3 : Sl w w.heap.size A3 (may.map Value.bool)) (n2 : ws.length ≤ 1000000) (n3 : may.length ≤ 1000000) (hw : ∀ z ∈ ws, 0 ≤ z ∧ z ≤ 2147483648) :
    Calls Try.prog 14 #[.slice A2 M c2, .slice A3 M c3, .int .i64 t] w fun e w' => e = .returned (.bool (decide (t < spreadI (ws.take M) (may.take M)))) ∧ Below w.heap.size w w' := by
  have hx := Due_any (ws.take M) (may.take M) A2 A3 c2 c3 t w (by rw [List.map_take]; exact sl_take h2 M) (by rw [List.map_take]; exact sl_take h3 M) (by rw [len_take _ _ e2]; omega) (by rw [len_take _ _ e3]; omega) (fun z hz => hw z (List.mem_of_mem_take hz))
  rwa [len_take _ _ e2, len_take _ _ e3] at hx

theorem rDue_len (ws : List Int) (may : List Bool) (M : Nat) (e2 : M ≤ ws.length) (e3 : M ≤ may.length) (A2 A3 : Option Addr) (c2 c3 : Nat) (t : Int) (w : World)
    (h2 : Sl w w.heap.size A2 (ws.map (Value.int .i64))) (h3 : Sl w w.heap.size A3 (may.map Value.bool)) (n2 : ws.length ≤ 1000000) (n3 : may.length ≤ 1000000) (hw : ∀ z ∈ ws, 0 ≤ z ∧ z ≤ 2147483648) :
    Calls Try.prog 19 #[.slice A2 M c2, .slice A3 M c3, .int .i64 t] w fun e w' => e = .returned (.bool (decide (t < spreadI (ws.take M) (may.take M)))) ∧ Below w.heap.size w w' := by
  have hx := rDue_any (ws.take M) (may.take M) A2 A3 c2 c3 t w (by rw [List.map_take]; exact sl_take h2 M) (by rw [List.map_take]; exact sl_take h3 M) (by rw [len_take _ _ e2]; omega) (by rw [len_take _ _ e3]; omega) (fun z hz => hw z (List.mem_of_mem_take hz))
  rwa [len_take _ _ e2, len_take _ _ e3] at hx

theorem Least_len (ws : List Int) (may : List Bool) (M : Nat) (e2 : M ≤ ws.length) (e3 : M ≤ may.length) (A2 A3 : Option Addr) (c2 c3 : Nat) (w : World)
    (h2 : Sl w w.heap.size A2 (ws.map (Value.int .i64))) (h3 : Sl w w.heap.size A3 (may.map Value.bool)) (n2 : ws.length ≤ 1000000) (n3 : may.length ≤ 1000000) (hw : ∀ z ∈ ws, 0 ≤ z ∧ z ≤ 2147483648) :
    Calls Try.prog 15 #[.slice A2 M c2, .slice A3 M c3] w fun e w' => e = .returned (.int .i64 (leastI (ws.take M) (may.take M))) ∧ Below w.heap.size w w' := by
  have hx := Least_any (ws.take M) (may.take M) A2 A3 c2 c3 w (by rw [List.map_take]; exact sl_take h2 M) (by rw [List.map_take]; exact sl_take h3 M) (by rw [len_take _ _ e2]; omega) (by rw [len_take _ _ e3]; omega) (fun z hz => hw z (List.mem_of_mem_take hz))
  rwa [len_take _ _ e2, len_take _ _ e3] at hx

theorem rLeast_len (ws : List Int) (may : List Bool) (M : Nat) (e2 : M ≤ ws.length) (e3 : M ≤ may.length) (A2 A3 : Option Addr) (c2 c3 : Nat) (w : World)
    (h2 : Sl w w.heap.size A2 (ws.map (Value.int .i64))) (h3 : Sl w w.heap.size A3 (may.map Value.bool)) (n2 : ws.length ≤ 1000000) (n3 : may.length ≤ 1000000) (hw : ∀ z ∈ ws, 0 ≤ z ∧ z ≤ 2147483648) :
    Calls Try.prog 18 #[.slice A2 M c2, .slice A3 M c3] w fun e w' => e = .returned (.int .i64 (leastI (ws.take M) (may.take M))) ∧ Below w.heap.size w w' := by
  have hx := rLeast_any (ws.take M) (may.take M) A2 A3 c2 c3 w (by rw [List.map_take]; exact sl_take h2 M) (by rw [List.map_take]; exact sl_take h3 M) (by rw [len_take _ _ e2]; omega) (by rw [len_take _ _ e3]; omega) (fun z hz => hw z (List.mem_of_mem_take hz))
  rwa [len_take _ _ e2, len_take _ _ e3] at hx

theorem Free_any (ws : List Int) (good : List Bool) (A1 A2 : Option Addr) (c1 c2 : Nat) (w : World)
    (h1 : Sl w w.heap.size A1 (ws.map (Value.int .i64))) (h2 : Sl w w.heap.size A2 (good.map Value.bool)) (n1 : ws.length ≤ 1000000) (n2 : good.length ≤ 1000000) (hw : ∀ z ∈ ws, 0 ≤ z ∧ z ≤ 2147483648) :
    Calls Try.prog 10 #[.slice A1 ws.length c1, .slice A2 good.length c2] w fun e w' => e = .returned (.int .i64 (leastI ws good)) ∧ Below w.heap.size w w' := by
  go_enter Try.func10, Try.ntmps10
  go_wp2_with (go_at_call 15; refine (Least_any ws good A1 A2 c1 c2 _ h1 h2 n1 n2 hw).mono ?_; rintro e' w1 ⟨rfl, hb1⟩)
  go_ret
  exact ⟨rfl, hb1⟩
theorem rFree_any (ws : List Int) (good : List Bool) (A1 A2 : Option Addr) (c1 c2 : Nat) (w : World)
    (h1 : Sl w w.heap.size A1 (ws.map (Value.int .i64))) (h2 : Sl w w.heap.size A2 (good.map Value.bool)) (n1 : ws.length ≤ 1000000) (n2 : good.length ≤ 1000000) (hw : ∀ z ∈ ws, 0 ≤ z ∧ z ≤ 2147483648) :
    Calls Try.prog 11 #[.slice A1 ws.length c1, .slice A2 good.length c2] w fun e w' => e = .returned (.int .i64 (leastI ws good)) ∧ Below w.heap.size w w' := by
  go_enter Try.func11, Try.ntmps11
  go_wp2_with (go_at_call 18; refine (rLeast_any ws good A1 A2 c1 c2 _ h1 h2 n1 n2 hw).mono ?_; rintro e' w1 ⟨rfl, hb1⟩)
  go_ret
  exact ⟨rfl, hb1⟩

set_option maxRecDepth 100000 in
set_option maxHeartbeats 8000000 in
theorem Cold_any (live ws : List Int) (may : List Bool) (A1 A2 A3 : Option Addr) (c1 c2 c3 : Nat) (t : Int) (w : World)
    (h1 : Sl w w.heap.size A1 (live.map (Value.int .i64))) (h2 : Sl w w.heap.size A2 (ws.map (Value.int .i64))) (h3 : Sl w w.heap.size A3 (may.map Value.bool)) (n1 : live.length ≤ 1000000) (n2 : ws.length ≤ 1000000) (n3 : may.length ≤ 1000000)
    (k2 : ws.length ≤ c2) (k2' : c2 ≤ maxLen) (k3 : may.length ≤ c3) (k3' : c3 ≤ maxLen) (hw : ∀ z ∈ ws, 0 ≤ z ∧ z ≤ 2147483648) (hl : ∀ z ∈ live, 0 ≤ z) :
    Calls Try.prog 12 #[.slice A1 live.length c1, .slice A2 ws.length c2, .slice A3 may.length c3, .int .i64 t] w fun e w' => e = .returned (.int .i64 (coldI live ws may t)) ∧ Below w.heap.size w w' := by
  have em1 : mlen3 live ws may ≤ live.length := by unfold mlen3; omega
  have em2 : mlen3 live ws may ≤ ws.length := by unfold mlen3; omega
  have em3 : mlen3 live ws may ≤ may.length := by unfold mlen3; omega
  unfold maxLen at k2' k3'
  have hcom := common_any live ws may A1 A2 A3 c1 c2 c3
  have cno : ¬ t < spreadI (ws.take (mlen3 live ws may)) (may.take (mlen3 live ws may)) → coldI live ws may t = -1 := fun h => by unfold coldI; rw [if_neg h]
  have cneg : leastI (ws.take (mlen3 live ws may)) (may.take (mlen3 live ws may)) < 0 → coldI live ws may t = -1 := fun h => by unfold coldI; simp [h]
  have cz : live.getD (leastI (ws.take (mlen3 live ws may)) (may.take (mlen3 live ws may))).toNat 0 ≤ 0 → coldI live ws may t = -1 := fun h => by unfold coldI; rw [if_pos (Or.inr h)]; simp
  have cyes : t < spreadI (ws.take (mlen3 live ws may)) (may.take (mlen3 live ws may)) → ¬ leastI (ws.take (mlen3 live ws may)) (may.take (mlen3 live ws may)) < 0 → ¬ live.getD (leastI (ws.take (mlen3 live ws may)) (may.take (mlen3 live ws may))).toNat 0 ≤ 0 →
      coldI live ws may t = leastI (ws.take (mlen3 live ws may)) (may.take (mlen3 live ws may)) := fun a b c => by unfold coldI; rw [if_pos a, if_neg (by simp only [not_or]; exact ⟨b, c⟩)]
  have hLb := leastI_bd (ws.take (mlen3 live ws may)) (may.take (mlen3 live ws may))
  obtain ⟨M, hM⟩ : ∃ x, mlen3 live ws may = x := ⟨_, rfl⟩
  rw [hM] at em1 em2 em3 cno cneg cz cyes hLb
  rw [hM] at hcom
  have hlM : (ws.take M).length ≤ M := by simp; omega
  obtain ⟨S, hS⟩ : ∃ x, spreadI (ws.take M) (may.take M) = x := ⟨_, rfl⟩
  obtain ⟨L, hL⟩ : ∃ x, leastI (ws.take M) (may.take M) = x := ⟨_, rfl⟩
  rw [hS] at cno cyes
  rw [hL] at cneg cz cyes hLb
  have EL := Lib.hid hL
  have Hcom := Lib.hid hcom
  have HlM := Lib.hid hlM
  have HEM := Lib.hid hM
  clear hM hcom hlM hL
  obtain ⟨C, hC⟩ : ∃ x, coldI live ws may t = x := ⟨_, rfl⟩
  rw [hC] at cno cneg cz cyes ⊢
  have i2 : (0 : Int) ≤ (M : Int) := by omega
  have i3 : (M : Int) ≤ (c2 : Int) := by omega
  have i4 : (M : Int) ≤ (c3 : Int) := by omega
  clear hC
  by_cases hdue : t < S
  · have ED : Hid (decide (t < spreadI (ws.take M) (may.take M)) = true) := Lib.hid (by rw [hS]; simpa using hdue)
    clear hS
    by_cases hneg : L < 0
    · obtain rfl := cneg hneg
      have t1 : decide (L < 0) = true := by simpa using hneg
      clear cno cneg cz cyes hdue
      go_enter Try.func12, Try.ntmps12
      go_wp2_with (go_at_call 17; refine (Hcom.out _ n1 n2 n3).mono ?_; rintro e w' ⟨rfl, rfl⟩)
      refine wp_region_noPanic ?_
      refine wp_region_held_drew (S := (fun w' => Below w.heap.size w w' ∧ w.heap.size ≤ w'.heap.size ∧ ∀ (k o : Nat), k < w.heap.size → w'.cell? ⟨k, o, none⟩ = w.cell? ⟨k, o, none⟩)) (by kernel_rfl) ?_ (fun hHeld => ?_)
      · (first | exact ⟨(Below.refl _ _).drew, by simp, by simp⟩ | exact kept_step (by assumption) hb3)
      refine wpAnyH_take (i := 0) (oi := { dst := some 15, op := Op.move (Operand.tmp 1), type := 22, pos := "victim.go:33", after := #[], guard := none }) (v := ?_) rfl (by kernel_rfl) (by kernel_rfl) (by kernel_rfl) (fun _ _ _ h => h) (Or.inl ⟨by rfl, ?_⟩) (by assumption) ?_
      rotate_left
      · (intro wS hSw; (try dsimp only at hSw); go_simp; (try with_reducible rfl))
      try simp only [Act.put, List.setIfInBounds_toArray, List.set_cons_zero, List.set_cons_succ]
      refine wpAnyH_take (i := 1) (oi := { dst := some 16, op := Op.move (Operand.tmp 9), type := 3, pos := "victim.go:33", after := #[], guard := none }) (v := ?_) rfl (by kernel_rfl) (by kernel_rfl) (by kernel_rfl) (fun _ _ _ h => h) (Or.inl ⟨by rfl, ?_⟩) (by assumption) ?_
      rotate_left
      · (intro wS hSw; (try dsimp only at hSw); go_simp; (try with_reducible rfl))
      try simp only [Act.put, List.setIfInBounds_toArray, List.set_cons_zero, List.set_cons_succ]
      refine wpAnyH_take (i := 2) (oi := { dst := some 17, op := Op.slice 22 (Operand.tmp 15) none (some (Operand.tmp 16)) none, type := 22, pos := "victim.go:33", after := #[{ on := 0, ground := Ground.data }, { on := 1, ground := Ground.data }], guard := none }) (v := ?_) rfl (by kernel_rfl) (by kernel_rfl) (by kernel_rfl) (fun _ _ _ h => h) (Or.inl ⟨by rfl, ?_⟩) (by assumption) ?_
      rotate_left
      · (intro wS hSw; (try dsimp only at hSw); go_simp; (try with_reducible rfl))
      try simp only [Act.put, List.setIfInBounds_toArray, List.set_cons_zero, List.set_cons_succ]
      refine wpAnyH_take (i := 3) (oi := { dst := some 18, op := Op.move (Operand.tmp 2), type := 23, pos := "victim.go:33", after := #[], guard := none }) (v := ?_) rfl (by kernel_rfl) (by kernel_rfl) (by kernel_rfl) (fun _ _ _ h => h) (Or.inl ⟨by rfl, ?_⟩) (by assumption) ?_
      rotate_left
      · (intro wS hSw; (try dsimp only at hSw); go_simp; (try with_reducible rfl))
      try simp only [Act.put, List.setIfInBounds_toArray, List.set_cons_zero, List.set_cons_succ]
      refine wpAnyH_take (i := 4) (oi := { dst := some 19, op := Op.move (Operand.tmp 9), type := 3, pos := "victim.go:33", after := #[], guard := none }) (v := ?_) rfl (by kernel_rfl) (by kernel_rfl) (by kernel_rfl) (fun _ _ _ h => h) (Or.inl ⟨by rfl, ?_⟩) (by assumption) ?_
      rotate_left
      · (intro wS hSw; (try dsimp only at hSw); go_simp; (try with_reducible rfl))
      try simp only [Act.put, List.setIfInBounds_toArray, List.set_cons_zero, List.set_cons_succ]
      refine wpAnyH_take (i := 5) (oi := { dst := some 20, op := Op.slice 23 (Operand.tmp 18) none (some (Operand.tmp 19)) none, type := 23, pos := "victim.go:33", after := #[{ on := 3, ground := Ground.data }, { on := 4, ground := Ground.data }], guard := none }) (v := ?_) rfl (by kernel_rfl) (by kernel_rfl) (by kernel_rfl) (fun _ _ _ h => h) (Or.inl ⟨by rfl, ?_⟩) (by assumption) ?_
      rotate_left
      · (intro wS hSw; (try dsimp only at hSw); go_simp; (try with_reducible rfl))
      try simp only [Act.put, List.setIfInBounds_toArray, List.set_cons_zero, List.set_cons_succ]
      refine wpAnyH_take (i := 6) (oi := { dst := some 21, op := Op.move (Operand.tmp 3), type := 3, pos := "victim.go:33", after := #[], guard := none }) (v := ?_) rfl (by kernel_rfl) (by kernel_rfl) (by kernel_rfl) (fun _ _ _ h => h) (Or.inl ⟨by rfl, ?_⟩) (by assumption) ?_
      rotate_left
      · (intro wS hSw; (try dsimp only at hSw); go_simp; (try with_reducible rfl))
      try simp only [Act.put, List.setIfInBounds_toArray, List.set_cons_zero, List.set_cons_succ]
      refine wpAnyH_ready (rs := [7]) (by kernel_rfl) (by simp) ?_
      refine AllReadyH.cons (o := { dst := some 22, op := Op.call { callee := Callee.value (Operand.func 14), args := #[Operand.tmp 17, Operand.tmp 20, Operand.tmp 21], argTypes := #[22, 23, 3] }, type := 4, pos := "victim.go:33", after := #[{ on := 2, ground := Ground.data }, { on := 5, ground := Ground.data }, { on := 6, ground := Ground.data }], guard := none }) rfl (fun K hK => ?_) AllReadyH.nil
      go_simp
      (go_at_call 14; refine (Due_len ws may M em2 em3 A2 A3 c2 c3 t _ (h2.held hHeld.2.1 hHeld.2.2) (h3.held hHeld.2.1 hHeld.2.2) n2 n3 hw).mono ?_; rw [ED.out]; rintro e' w3 ⟨rfl, hb3⟩)
      go_wp2_with fail
      refine hK.out _ _ ?_ (fun hNew => ?_)
      · (first | exact ⟨(Below.refl _ _).drew, by simp, by simp⟩ | exact kept_step (by assumption) hb3)
      clear hK K hHeld
      have hHeld := hNew
      clear hNew
      try simp only [Act.put, List.setIfInBounds_toArray, List.set_cons_zero, List.set_cons_succ]
      refine wpAnyH_take (i := 8) (oi := { dst := some 23, op := Op.unOp UnOp.not 4 (Operand.tmp 22), type := 4, pos := "victim.go:33", after := #[{ on := 7, ground := Ground.data }], guard := none }) (v := ?_) rfl (by kernel_rfl) (by kernel_rfl) (by kernel_rfl) (fun _ _ _ h => h) (Or.inl ⟨by rfl, ?_⟩) (by assumption) ?_
      rotate_left
      · (intro wS hSw; (try dsimp only at hSw); go_simp; (try with_reducible rfl))
      try simp only [Act.put, List.setIfInBounds_toArray, List.set_cons_zero, List.set_cons_succ]
      refine wpAnyH_done (by kernel_rfl) ?_ _
      refine NoPanic.normal ?_
      have hB3 := hHeld.1
      have h2' := h2.held hHeld.2.1 hHeld.2.2
      have h3' := h3.held hHeld.2.1 hHeld.2.2
      clear hHeld
      go_wp2_with fail
      refine wp_region_noPanic ?_
      refine wp_region_held_drew (S := (fun w' => Below w.heap.size w w' ∧ w3.heap.size ≤ w'.heap.size ∧ ∀ (k o : Nat), k < w3.heap.size → w'.cell? ⟨k, o, none⟩ = w3.cell? ⟨k, o, none⟩)) (by kernel_rfl) ?_ (fun hHeld => ?_)
      · (first | exact ⟨hB3.drew, by simp, by simp⟩ | exact kept_step (by assumption) hb4)
      refine wpAnyH_take (i := 0) (oi := { dst := some 24, op := Op.move (Operand.tmp 1), type := 22, pos := "victim.go:36", after := #[], guard := none }) (v := ?_) rfl (by kernel_rfl) (by kernel_rfl) (by kernel_rfl) (fun _ _ _ h => h) (Or.inl ⟨by rfl, ?_⟩) (by assumption) ?_
      rotate_left
      · (intro wS hSw; (try dsimp only at hSw); go_simp; (try with_reducible rfl))
      try simp only [Act.put, List.setIfInBounds_toArray, List.set_cons_zero, List.set_cons_succ]
      refine wpAnyH_take (i := 1) (oi := { dst := some 25, op := Op.move (Operand.tmp 9), type := 3, pos := "victim.go:36", after := #[], guard := none }) (v := ?_) rfl (by kernel_rfl) (by kernel_rfl) (by kernel_rfl) (fun _ _ _ h => h) (Or.inl ⟨by rfl, ?_⟩) (by assumption) ?_
      rotate_left
      · (intro wS hSw; (try dsimp only at hSw); go_simp; (try with_reducible rfl))
      try simp only [Act.put, List.setIfInBounds_toArray, List.set_cons_zero, List.set_cons_succ]
      refine wpAnyH_take (i := 2) (oi := { dst := some 26, op := Op.slice 22 (Operand.tmp 24) none (some (Operand.tmp 25)) none, type := 22, pos := "victim.go:36", after := #[{ on := 0, ground := Ground.data }, { on := 1, ground := Ground.data }], guard := none }) (v := ?_) rfl (by kernel_rfl) (by kernel_rfl) (by kernel_rfl) (fun _ _ _ h => h) (Or.inl ⟨by rfl, ?_⟩) (by assumption) ?_
      rotate_left
      · (intro wS hSw; (try dsimp only at hSw); go_simp; (try with_reducible rfl))
      try simp only [Act.put, List.setIfInBounds_toArray, List.set_cons_zero, List.set_cons_succ]
      refine wpAnyH_take (i := 3) (oi := { dst := some 27, op := Op.move (Operand.tmp 2), type := 23, pos := "victim.go:36", after := #[], guard := none }) (v := ?_) rfl (by kernel_rfl) (by kernel_rfl) (by kernel_rfl) (fun _ _ _ h => h) (Or.inl ⟨by rfl, ?_⟩) (by assumption) ?_
      rotate_left
      · (intro wS hSw; (try dsimp only at hSw); go_simp; (try with_reducible rfl))
      try simp only [Act.put, List.setIfInBounds_toArray, List.set_cons_zero, List.set_cons_succ]
      refine wpAnyH_take (i := 4) (oi := { dst := some 28, op := Op.move (Operand.tmp 9), type := 3, pos := "victim.go:36", after := #[], guard := none }) (v := ?_) rfl (by kernel_rfl) (by kernel_rfl) (by kernel_rfl) (fun _ _ _ h => h) (Or.inl ⟨by rfl, ?_⟩) (by assumption) ?_
      rotate_left
      · (intro wS hSw; (try dsimp only at hSw); go_simp; (try with_reducible rfl))
      try simp only [Act.put, List.setIfInBounds_toArray, List.set_cons_zero, List.set_cons_succ]
      refine wpAnyH_take (i := 5) (oi := { dst := some 29, op := Op.slice 23 (Operand.tmp 27) none (some (Operand.tmp 28)) none, type := 23, pos := "victim.go:36", after := #[{ on := 3, ground := Ground.data }, { on := 4, ground := Ground.data }], guard := none }) (v := ?_) rfl (by kernel_rfl) (by kernel_rfl) (by kernel_rfl) (fun _ _ _ h => h) (Or.inl ⟨by rfl, ?_⟩) (by assumption) ?_
      rotate_left
      · (intro wS hSw; (try dsimp only at hSw); go_simp; (try with_reducible rfl))
      try simp only [Act.put, List.setIfInBounds_toArray, List.set_cons_zero, List.set_cons_succ]
      refine wpAnyH_ready (rs := [6]) (by kernel_rfl) (by simp) ?_
      refine AllReadyH.cons (o := { dst := some 30, op := Op.call { callee := Callee.value (Operand.func 15), args := #[Operand.tmp 26, Operand.tmp 29], argTypes := #[22, 23] }, type := 3, pos := "victim.go:36", after := #[{ on := 2, ground := Ground.data }, { on := 5, ground := Ground.data }], guard := none }) rfl (fun K hK => ?_) AllReadyH.nil
      go_simp
      (go_at_call 15; refine (Least_len ws may M em2 em3 A2 A3 c2 c3 _ (h2'.held hHeld.2.1 hHeld.2.2) (h3'.held hHeld.2.1 hHeld.2.2) n2 n3 hw).mono ?_; rw [EL.out]; rintro e' w4 ⟨rfl, hb4⟩)
      go_wp2_with fail
      refine hK.out _ _ ?_ (fun hNew => ?_)
      · (first | exact ⟨hB3.drew, by simp, by simp⟩ | exact kept_step (by assumption) hb4)
      clear hK K hHeld
      have hHeld := hNew
      clear hNew
      try simp only [Act.put, List.setIfInBounds_toArray, List.set_cons_zero, List.set_cons_succ]
      refine wpAnyH_take (i := 7) (oi := { dst := some 10, op := Op.assign (Operand.tmp 30), type := 3, pos := "victim.go:36", after := #[{ on := 6, ground := Ground.data }, { on := 6, ground := Ground.chain }, { on := 0, ground := Ground.phase }, { on := 1, ground := Ground.phase }, { on := 2, ground := Ground.phase }, { on := 3, ground := Ground.phase }, { on := 4, ground := Ground.phase }, { on := 5, ground := Ground.phase }, { on := 6, ground := Ground.phase }], guard := none }) (v := ?_) rfl (by kernel_rfl) (by kernel_rfl) (by kernel_rfl) (fun _ _ _ h => h) (Or.inl ⟨by rfl, ?_⟩) (by assumption) ?_
      rotate_left
      · (intro wS hSw; (try dsimp only at hSw); go_simp; (try with_reducible rfl))
      try simp only [Act.put, List.setIfInBounds_toArray, List.set_cons_zero, List.set_cons_succ]
      refine wpAnyH_done (by kernel_rfl) ?_ _
      refine NoPanic.normal ?_
      go_wp2
      go_ret
      exact ⟨rfl, hHeld.1⟩
    · obtain ⟨j, rfl⟩ : ∃ j : Nat, L = (j : Int) := ⟨L.toNat, by omega⟩
      have hj : j < live.length := by
        have := HlM.out
        omega
      obtain ⟨b1, o1, rfl, l1, q1⟩ := h1.at_ (by simpa using (by omega : 0 < live.length))
      obtain ⟨z, hz⟩ : ∃ z, live.getD j 0 = z := ⟨_, rfl⟩
      have cl : w.cell? ⟨b1, o1 + j, none⟩ = some (.int .i64 z) := q1 j _ (by rw [← hz]; simp [hj])
      have z0 : 0 ≤ z := hl z (by rw [← hz]; simp [hj])
      simp only [Int.toNat_natCast] at cz cyes
      rw [hz] at cz cyes
      have t1 : decide ((j : Int) < 0) = false := decide_eq_false hneg
      have i5 : (0 : Int) ≤ (j : Int) := by omega
      have i6 : (j : Int) < (live.length : Int) := by omega
      clear hz q1 hl hLb
      by_cases hp : z ≤ 0
      · obtain rfl := cz hp
        have t2 : decide (z ≤ 0) = true := decide_eq_true hp
        clear cno cneg cz cyes hdue hneg
        go_enter Try.func12, Try.ntmps12
        go_wp2_with (go_at_call 17; refine (Hcom.out _ n1 n2 n3).mono ?_; rintro e w' ⟨rfl, rfl⟩)
        refine wp_region_noPanic ?_
        refine wp_region_held_drew (S := (fun w' => Below w.heap.size w w' ∧ w.heap.size ≤ w'.heap.size ∧ ∀ (k o : Nat), k < w.heap.size → w'.cell? ⟨k, o, none⟩ = w.cell? ⟨k, o, none⟩)) (by kernel_rfl) ?_ (fun hHeld => ?_)
        · (first | exact ⟨(Below.refl _ _).drew, by simp, by simp⟩ | exact kept_step (by assumption) hb3)
        refine wpAnyH_take (i := 0) (oi := { dst := some 15, op := Op.move (Operand.tmp 1), type := 22, pos := "victim.go:33", after := #[], guard := none }) (v := ?_) rfl (by kernel_rfl) (by kernel_rfl) (by kernel_rfl) (fun _ _ _ h => h) (Or.inl ⟨by rfl, ?_⟩) (by assumption) ?_
        rotate_left
        · (intro wS hSw; (try dsimp only at hSw); go_simp; (try with_reducible rfl))
        try simp only [Act.put, List.setIfInBounds_toArray, List.set_cons_zero, List.set_cons_succ]
        refine wpAnyH_take (i := 1) (oi := { dst := some 16, op := Op.move (Operand.tmp 9), type := 3, pos := "victim.go:33", after := #[], guard := none }) (v := ?_) rfl (by kernel_rfl) (by kernel_rfl) (by kernel_rfl) (fun _ _ _ h => h) (Or.inl ⟨by rfl, ?_⟩) (by assumption) ?_
        rotate_left
        · (intro wS hSw; (try dsimp only at hSw); go_simp; (try with_reducible rfl))
        try simp only [Act.put, List.setIfInBounds_toArray, List.set_cons_zero, List.set_cons_succ]
        refine wpAnyH_take (i := 2) (oi := { dst := some 17, op := Op.slice 22 (Operand.tmp 15) none (some (Operand.tmp 16)) none, type := 22, pos := "victim.go:33", after := #[{ on := 0, ground := Ground.data }, { on := 1, ground := Ground.data }], guard := none }) (v := ?_) rfl (by kernel_rfl) (by kernel_rfl) (by kernel_rfl) (fun _ _ _ h => h) (Or.inl ⟨by rfl, ?_⟩) (by assumption) ?_
        rotate_left
        · (intro wS hSw; (try dsimp only at hSw); go_simp; (try with_reducible rfl))
        try simp only [Act.put, List.setIfInBounds_toArray, List.set_cons_zero, List.set_cons_succ]
        refine wpAnyH_take (i := 3) (oi := { dst := some 18, op := Op.move (Operand.tmp 2), type := 23, pos := "victim.go:33", after := #[], guard := none }) (v := ?_) rfl (by kernel_rfl) (by kernel_rfl) (by kernel_rfl) (fun _ _ _ h => h) (Or.inl ⟨by rfl, ?_⟩) (by assumption) ?_
        rotate_left
        · (intro wS hSw; (try dsimp only at hSw); go_simp; (try with_reducible rfl))
        try simp only [Act.put, List.setIfInBounds_toArray, List.set_cons_zero, List.set_cons_succ]
        refine wpAnyH_take (i := 4) (oi := { dst := some 19, op := Op.move (Operand.tmp 9), type := 3, pos := "victim.go:33", after := #[], guard := none }) (v := ?_) rfl (by kernel_rfl) (by kernel_rfl) (by kernel_rfl) (fun _ _ _ h => h) (Or.inl ⟨by rfl, ?_⟩) (by assumption) ?_
        rotate_left
        · (intro wS hSw; (try dsimp only at hSw); go_simp; (try with_reducible rfl))
        try simp only [Act.put, List.setIfInBounds_toArray, List.set_cons_zero, List.set_cons_succ]
        refine wpAnyH_take (i := 5) (oi := { dst := some 20, op := Op.slice 23 (Operand.tmp 18) none (some (Operand.tmp 19)) none, type := 23, pos := "victim.go:33", after := #[{ on := 3, ground := Ground.data }, { on := 4, ground := Ground.data }], guard := none }) (v := ?_) rfl (by kernel_rfl) (by kernel_rfl) (by kernel_rfl) (fun _ _ _ h => h) (Or.inl ⟨by rfl, ?_⟩) (by assumption) ?_
        rotate_left
        · (intro wS hSw; (try dsimp only at hSw); go_simp; (try with_reducible rfl))
        try simp only [Act.put, List.setIfInBounds_toArray, List.set_cons_zero, List.set_cons_succ]
        refine wpAnyH_take (i := 6) (oi := { dst := some 21, op := Op.move (Operand.tmp 3), type := 3, pos := "victim.go:33", after := #[], guard := none }) (v := ?_) rfl (by kernel_rfl) (by kernel_rfl) (by kernel_rfl) (fun _ _ _ h => h) (Or.inl ⟨by rfl, ?_⟩) (by assumption) ?_
        rotate_left
        · (intro wS hSw; (try dsimp only at hSw); go_simp; (try with_reducible rfl))
        try simp only [Act.put, List.setIfInBounds_toArray, List.set_cons_zero, List.set_cons_succ]
        refine wpAnyH_ready (rs := [7]) (by kernel_rfl) (by simp) ?_
        refine AllReadyH.cons (o := { dst := some 22, op := Op.call { callee := Callee.value (Operand.func 14), args := #[Operand.tmp 17, Operand.tmp 20, Operand.tmp 21], argTypes := #[22, 23, 3] }, type := 4, pos := "victim.go:33", after := #[{ on := 2, ground := Ground.data }, { on := 5, ground := Ground.data }, { on := 6, ground := Ground.data }], guard := none }) rfl (fun K hK => ?_) AllReadyH.nil
        go_simp
        (go_at_call 14; refine (Due_len ws may M em2 em3 A2 A3 c2 c3 t _ (h2.held hHeld.2.1 hHeld.2.2) (h3.held hHeld.2.1 hHeld.2.2) n2 n3 hw).mono ?_; rw [ED.out]; rintro e' w3 ⟨rfl, hb3⟩)
        go_wp2_with fail
        refine hK.out _ _ ?_ (fun hNew => ?_)
        · (first | exact ⟨(Below.refl _ _).drew, by simp, by simp⟩ | exact kept_step (by assumption) hb3)
        clear hK K hHeld
        have hHeld := hNew
        clear hNew
        try simp only [Act.put, List.setIfInBounds_toArray, List.set_cons_zero, List.set_cons_succ]
        refine wpAnyH_take (i := 8) (oi := { dst := some 23, op := Op.unOp UnOp.not 4 (Operand.tmp 22), type := 4, pos := "victim.go:33", after := #[{ on := 7, ground := Ground.data }], guard := none }) (v := ?_) rfl (by kernel_rfl) (by kernel_rfl) (by kernel_rfl) (fun _ _ _ h => h) (Or.inl ⟨by rfl, ?_⟩) (by assumption) ?_
        rotate_left
        · (intro wS hSw; (try dsimp only at hSw); go_simp; (try with_reducible rfl))
        try simp only [Act.put, List.setIfInBounds_toArray, List.set_cons_zero, List.set_cons_succ]
        refine wpAnyH_done (by kernel_rfl) ?_ _
        refine NoPanic.normal ?_
        have hB3 := hHeld.1
        have h2' := h2.held hHeld.2.1 hHeld.2.2
        have h3' := h3.held hHeld.2.1 hHeld.2.2
        have cl3 := (hHeld.2.2 b1 (o1 + j) l1).trans cl
        clear hHeld
        go_wp2_with fail
        refine wp_region_noPanic ?_
        refine wp_region_held_drew (S := (fun w' => Below w.heap.size w w' ∧ w3.heap.size ≤ w'.heap.size ∧ ∀ (k o : Nat), k < w3.heap.size → w'.cell? ⟨k, o, none⟩ = w3.cell? ⟨k, o, none⟩)) (by kernel_rfl) ?_ (fun hHeld => ?_)
        · (first | exact ⟨hB3.drew, by simp, by simp⟩ | exact kept_step (by assumption) hb4)
        refine wpAnyH_take (i := 0) (oi := { dst := some 24, op := Op.move (Operand.tmp 1), type := 22, pos := "victim.go:36", after := #[], guard := none }) (v := ?_) rfl (by kernel_rfl) (by kernel_rfl) (by kernel_rfl) (fun _ _ _ h => h) (Or.inl ⟨by rfl, ?_⟩) (by assumption) ?_
        rotate_left
        · (intro wS hSw; (try dsimp only at hSw); go_simp; (try with_reducible rfl))
        try simp only [Act.put, List.setIfInBounds_toArray, List.set_cons_zero, List.set_cons_succ]
        refine wpAnyH_take (i := 1) (oi := { dst := some 25, op := Op.move (Operand.tmp 9), type := 3, pos := "victim.go:36", after := #[], guard := none }) (v := ?_) rfl (by kernel_rfl) (by kernel_rfl) (by kernel_rfl) (fun _ _ _ h => h) (Or.inl ⟨by rfl, ?_⟩) (by assumption) ?_
        rotate_left
        · (intro wS hSw; (try dsimp only at hSw); go_simp; (try with_reducible rfl))
        try simp only [Act.put, List.setIfInBounds_toArray, List.set_cons_zero, List.set_cons_succ]
        refine wpAnyH_take (i := 2) (oi := { dst := some 26, op := Op.slice 22 (Operand.tmp 24) none (some (Operand.tmp 25)) none, type := 22, pos := "victim.go:36", after := #[{ on := 0, ground := Ground.data }, { on := 1, ground := Ground.data }], guard := none }) (v := ?_) rfl (by kernel_rfl) (by kernel_rfl) (by kernel_rfl) (fun _ _ _ h => h) (Or.inl ⟨by rfl, ?_⟩) (by assumption) ?_
        rotate_left
        · (intro wS hSw; (try dsimp only at hSw); go_simp; (try with_reducible rfl))
        try simp only [Act.put, List.setIfInBounds_toArray, List.set_cons_zero, List.set_cons_succ]
        refine wpAnyH_take (i := 3) (oi := { dst := some 27, op := Op.move (Operand.tmp 2), type := 23, pos := "victim.go:36", after := #[], guard := none }) (v := ?_) rfl (by kernel_rfl) (by kernel_rfl) (by kernel_rfl) (fun _ _ _ h => h) (Or.inl ⟨by rfl, ?_⟩) (by assumption) ?_
        rotate_left
        · (intro wS hSw; (try dsimp only at hSw); go_simp; (try with_reducible rfl))
        try simp only [Act.put, List.setIfInBounds_toArray, List.set_cons_zero, List.set_cons_succ]
        refine wpAnyH_take (i := 4) (oi := { dst := some 28, op := Op.move (Operand.tmp 9), type := 3, pos := "victim.go:36", after := #[], guard := none }) (v := ?_) rfl (by kernel_rfl) (by kernel_rfl) (by kernel_rfl) (fun _ _ _ h => h) (Or.inl ⟨by rfl, ?_⟩) (by assumption) ?_
        rotate_left
        · (intro wS hSw; (try dsimp only at hSw); go_simp; (try with_reducible rfl))
        try simp only [Act.put, List.setIfInBounds_toArray, List.set_cons_zero, List.set_cons_succ]
        refine wpAnyH_take (i := 5) (oi := { dst := some 29, op := Op.slice 23 (Operand.tmp 27) none (some (Operand.tmp 28)) none, type := 23, pos := "victim.go:36", after := #[{ on := 3, ground := Ground.data }, { on := 4, ground := Ground.data }], guard := none }) (v := ?_) rfl (by kernel_rfl) (by kernel_rfl) (by kernel_rfl) (fun _ _ _ h => h) (Or.inl ⟨by rfl, ?_⟩) (by assumption) ?_
        rotate_left
        · (intro wS hSw; (try dsimp only at hSw); go_simp; (try with_reducible rfl))
        try simp only [Act.put, List.setIfInBounds_toArray, List.set_cons_zero, List.set_cons_succ]
        refine wpAnyH_ready (rs := [6]) (by kernel_rfl) (by simp) ?_
        refine AllReadyH.cons (o := { dst := some 30, op := Op.call { callee := Callee.value (Operand.func 15), args := #[Operand.tmp 26, Operand.tmp 29], argTypes := #[22, 23] }, type := 3, pos := "victim.go:36", after := #[{ on := 2, ground := Ground.data }, { on := 5, ground := Ground.data }], guard := none }) rfl (fun K hK => ?_) AllReadyH.nil
        go_simp
        (go_at_call 15; refine (Least_len ws may M em2 em3 A2 A3 c2 c3 _ (h2'.held hHeld.2.1 hHeld.2.2) (h3'.held hHeld.2.1 hHeld.2.2) n2 n3 hw).mono ?_; rw [EL.out]; rintro e' w4 ⟨rfl, hb4⟩)
        go_wp2_with fail
        refine hK.out _ _ ?_ (fun hNew => ?_)
        · (first | exact ⟨hB3.drew, by simp, by simp⟩ | exact kept_step (by assumption) hb4)
        clear hK K hHeld
        have hHeld := hNew
        clear hNew
        try simp only [Act.put, List.setIfInBounds_toArray, List.set_cons_zero, List.set_cons_succ]
        refine wpAnyH_take (i := 7) (oi := { dst := some 10, op := Op.assign (Operand.tmp 30), type := 3, pos := "victim.go:36", after := #[{ on := 6, ground := Ground.data }, { on := 6, ground := Ground.chain }, { on := 0, ground := Ground.phase }, { on := 1, ground := Ground.phase }, { on := 2, ground := Ground.phase }, { on := 3, ground := Ground.phase }, { on := 4, ground := Ground.phase }, { on := 5, ground := Ground.phase }, { on := 6, ground := Ground.phase }], guard := none }) (v := ?_) rfl (by kernel_rfl) (by kernel_rfl) (by kernel_rfl) (fun _ _ _ h => h) (Or.inl ⟨by rfl, ?_⟩) (by assumption) ?_
        rotate_left
        · (intro wS hSw; (try dsimp only at hSw); go_simp; (try with_reducible rfl))
        try simp only [Act.put, List.setIfInBounds_toArray, List.set_cons_zero, List.set_cons_succ]
        refine wpAnyH_done (by kernel_rfl) ?_ _
        refine NoPanic.normal ?_
        have cl4 := (hHeld.2.2 b1 (o1 + j) (by have := hB3.size; omega)).trans cl3
        go_wp2
        go_ret
        exact ⟨rfl, hHeld.1⟩
      · obtain rfl := cyes hdue hneg hp
        have t2 : decide (z ≤ 0) = false := decide_eq_false hp
        clear cno cneg cz cyes hdue hneg
        go_enter Try.func12, Try.ntmps12
        go_wp2_with (go_at_call 17; refine (Hcom.out _ n1 n2 n3).mono ?_; rintro e w' ⟨rfl, rfl⟩)
        refine wp_region_noPanic ?_
        refine wp_region_held_drew (S := (fun w' => Below w.heap.size w w' ∧ w.heap.size ≤ w'.heap.size ∧ ∀ (k o : Nat), k < w.heap.size → w'.cell? ⟨k, o, none⟩ = w.cell? ⟨k, o, none⟩)) (by kernel_rfl) ?_ (fun hHeld => ?_)
        · (first | exact ⟨(Below.refl _ _).drew, by simp, by simp⟩ | exact kept_step (by assumption) hb3)
        refine wpAnyH_take (i := 0) (oi := { dst := some 15, op := Op.move (Operand.tmp 1), type := 22, pos := "victim.go:33", after := #[], guard := none }) (v := ?_) rfl (by kernel_rfl) (by kernel_rfl) (by kernel_rfl) (fun _ _ _ h => h) (Or.inl ⟨by rfl, ?_⟩) (by assumption) ?_
        rotate_left
        · (intro wS hSw; (try dsimp only at hSw); go_simp; (try with_reducible rfl))
        try simp only [Act.put, List.setIfInBounds_toArray, List.set_cons_zero, List.set_cons_succ]
        refine wpAnyH_take (i := 1) (oi := { dst := some 16, op := Op.move (Operand.tmp 9), type := 3, pos := "victim.go:33", after := #[], guard := none }) (v := ?_) rfl (by kernel_rfl) (by kernel_rfl) (by kernel_rfl) (fun _ _ _ h => h) (Or.inl ⟨by rfl, ?_⟩) (by assumption) ?_
        rotate_left
        · (intro wS hSw; (try dsimp only at hSw); go_simp; (try with_reducible rfl))
        try simp only [Act.put, List.setIfInBounds_toArray, List.set_cons_zero, List.set_cons_succ]
        refine wpAnyH_take (i := 2) (oi := { dst := some 17, op := Op.slice 22 (Operand.tmp 15) none (some (Operand.tmp 16)) none, type := 22, pos := "victim.go:33", after := #[{ on := 0, ground := Ground.data }, { on := 1, ground := Ground.data }], guard := none }) (v := ?_) rfl (by kernel_rfl) (by kernel_rfl) (by kernel_rfl) (fun _ _ _ h => h) (Or.inl ⟨by rfl, ?_⟩) (by assumption) ?_
        rotate_left
        · (intro wS hSw; (try dsimp only at hSw); go_simp; (try with_reducible rfl))
        try simp only [Act.put, List.setIfInBounds_toArray, List.set_cons_zero, List.set_cons_succ]
        refine wpAnyH_take (i := 3) (oi := { dst := some 18, op := Op.move (Operand.tmp 2), type := 23, pos := "victim.go:33", after := #[], guard := none }) (v := ?_) rfl (by kernel_rfl) (by kernel_rfl) (by kernel_rfl) (fun _ _ _ h => h) (Or.inl ⟨by rfl, ?_⟩) (by assumption) ?_
        rotate_left
        · (intro wS hSw; (try dsimp only at hSw); go_simp; (try with_reducible rfl))
        try simp only [Act.put, List.setIfInBounds_toArray, List.set_cons_zero, List.set_cons_succ]
        refine wpAnyH_take (i := 4) (oi := { dst := some 19, op := Op.move (Operand.tmp 9), type := 3, pos := "victim.go:33", after := #[], guard := none }) (v := ?_) rfl (by kernel_rfl) (by kernel_rfl) (by kernel_rfl) (fun _ _ _ h => h) (Or.inl ⟨by rfl, ?_⟩) (by assumption) ?_
        rotate_left
        · (intro wS hSw; (try dsimp only at hSw); go_simp; (try with_reducible rfl))
        try simp only [Act.put, List.setIfInBounds_toArray, List.set_cons_zero, List.set_cons_succ]
        refine wpAnyH_take (i := 5) (oi := { dst := some 20, op := Op.slice 23 (Operand.tmp 18) none (some (Operand.tmp 19)) none, type := 23, pos := "victim.go:33", after := #[{ on := 3, ground := Ground.data }, { on := 4, ground := Ground.data }], guard := none }) (v := ?_) rfl (by kernel_rfl) (by kernel_rfl) (by kernel_rfl) (fun _ _ _ h => h) (Or.inl ⟨by rfl, ?_⟩) (by assumption) ?_
        rotate_left
        · (intro wS hSw; (try dsimp only at hSw); go_simp; (try with_reducible rfl))
        try simp only [Act.put, List.setIfInBounds_toArray, List.set_cons_zero, List.set_cons_succ]
        refine wpAnyH_take (i := 6) (oi := { dst := some 21, op := Op.move (Operand.tmp 3), type := 3, pos := "victim.go:33", after := #[], guard := none }) (v := ?_) rfl (by kernel_rfl) (by kernel_rfl) (by kernel_rfl) (fun _ _ _ h => h) (Or.inl ⟨by rfl, ?_⟩) (by assumption) ?_
        rotate_left
        · (intro wS hSw; (try dsimp only at hSw); go_simp; (try with_reducible rfl))
        try simp only [Act.put, List.setIfInBounds_toArray, List.set_cons_zero, List.set_cons_succ]
        refine wpAnyH_ready (rs := [7]) (by kernel_rfl) (by simp) ?_
        refine AllReadyH.cons (o := { dst := some 22, op := Op.call { callee := Callee.value (Operand.func 14), args := #[Operand.tmp 17, Operand.tmp 20, Operand.tmp 21], argTypes := #[22, 23, 3] }, type := 4, pos := "victim.go:33", after := #[{ on := 2, ground := Ground.data }, { on := 5, ground := Ground.data }, { on := 6, ground := Ground.data }], guard := none }) rfl (fun K hK => ?_) AllReadyH.nil
        go_simp
        (go_at_call 14; refine (Due_len ws may M em2 em3 A2 A3 c2 c3 t _ (h2.held hHeld.2.1 hHeld.2.2) (h3.held hHeld.2.1 hHeld.2.2) n2 n3 hw).mono ?_; rw [ED.out]; rintro e' w3 ⟨rfl, hb3⟩)
        go_wp2_with fail
        refine hK.out _ _ ?_ (fun hNew => ?_)
        · (first | exact ⟨(Below.refl _ _).drew, by simp, by simp⟩ | exact kept_step (by assumption) hb3)
        clear hK K hHeld
        have hHeld := hNew
        clear hNew
        try simp only [Act.put, List.setIfInBounds_toArray, List.set_cons_zero, List.set_cons_succ]
        refine wpAnyH_take (i := 8) (oi := { dst := some 23, op := Op.unOp UnOp.not 4 (Operand.tmp 22), type := 4, pos := "victim.go:33", after := #[{ on := 7, ground := Ground.data }], guard := none }) (v := ?_) rfl (by kernel_rfl) (by kernel_rfl) (by kernel_rfl) (fun _ _ _ h => h) (Or.inl ⟨by rfl, ?_⟩) (by assumption) ?_
        rotate_left
        · (intro wS hSw; (try dsimp only at hSw); go_simp; (try with_reducible rfl))
        try simp only [Act.put, List.setIfInBounds_toArray, List.set_cons_zero, List.set_cons_succ]
        refine wpAnyH_done (by kernel_rfl) ?_ _
        refine NoPanic.normal ?_
        have hB3 := hHeld.1
        have h2' := h2.held hHeld.2.1 hHeld.2.2
        have h3' := h3.held hHeld.2.1 hHeld.2.2
        have cl3 := (hHeld.2.2 b1 (o1 + j) l1).trans cl
        clear hHeld
        go_wp2_with fail
        refine wp_region_noPanic ?_
        refine wp_region_held_drew (S := (fun w' => Below w.heap.size w w' ∧ w3.heap.size ≤ w'.heap.size ∧ ∀ (k o : Nat), k < w3.heap.size → w'.cell? ⟨k, o, none⟩ = w3.cell? ⟨k, o, none⟩)) (by kernel_rfl) ?_ (fun hHeld => ?_)
        · (first | exact ⟨hB3.drew, by simp, by simp⟩ | exact kept_step (by assumption) hb4)
        refine wpAnyH_take (i := 0) (oi := { dst := some 24, op := Op.move (Operand.tmp 1), type := 22, pos := "victim.go:36", after := #[], guard := none }) (v := ?_) rfl (by kernel_rfl) (by kernel_rfl) (by kernel_rfl) (fun _ _ _ h => h) (Or.inl ⟨by rfl, ?_⟩) (by assumption) ?_
        rotate_left
        · (intro wS hSw; (try dsimp only at hSw); go_simp; (try with_reducible rfl))
        try simp only [Act.put, List.setIfInBounds_toArray, List.set_cons_zero, List.set_cons_succ]
        refine wpAnyH_take (i := 1) (oi := { dst := some 25, op := Op.move (Operand.tmp 9), type := 3, pos := "victim.go:36", after := #[], guard := none }) (v := ?_) rfl (by kernel_rfl) (by kernel_rfl) (by kernel_rfl) (fun _ _ _ h => h) (Or.inl ⟨by rfl, ?_⟩) (by assumption) ?_
        rotate_left
        · (intro wS hSw; (try dsimp only at hSw); go_simp; (try with_reducible rfl))
        try simp only [Act.put, List.setIfInBounds_toArray, List.set_cons_zero, List.set_cons_succ]
        refine wpAnyH_take (i := 2) (oi := { dst := some 26, op := Op.slice 22 (Operand.tmp 24) none (some (Operand.tmp 25)) none, type := 22, pos := "victim.go:36", after := #[{ on := 0, ground := Ground.data }, { on := 1, ground := Ground.data }], guard := none }) (v := ?_) rfl (by kernel_rfl) (by kernel_rfl) (by kernel_rfl) (fun _ _ _ h => h) (Or.inl ⟨by rfl, ?_⟩) (by assumption) ?_
        rotate_left
        · (intro wS hSw; (try dsimp only at hSw); go_simp; (try with_reducible rfl))
        try simp only [Act.put, List.setIfInBounds_toArray, List.set_cons_zero, List.set_cons_succ]
        refine wpAnyH_take (i := 3) (oi := { dst := some 27, op := Op.move (Operand.tmp 2), type := 23, pos := "victim.go:36", after := #[], guard := none }) (v := ?_) rfl (by kernel_rfl) (by kernel_rfl) (by kernel_rfl) (fun _ _ _ h => h) (Or.inl ⟨by rfl, ?_⟩) (by assumption) ?_
        rotate_left
        · (intro wS hSw; (try dsimp only at hSw); go_simp; (try with_reducible rfl))
        try simp only [Act.put, List.setIfInBounds_toArray, List.set_cons_zero, List.set_cons_succ]
        refine wpAnyH_take (i := 4) (oi := { dst := some 28, op := Op.move (Operand.tmp 9), type := 3, pos := "victim.go:36", after := #[], guard := none }) (v := ?_) rfl (by kernel_rfl) (by kernel_rfl) (by kernel_rfl) (fun _ _ _ h => h) (Or.inl ⟨by rfl, ?_⟩) (by assumption) ?_
        rotate_left
        · (intro wS hSw; (try dsimp only at hSw); go_simp; (try with_reducible rfl))
        try simp only [Act.put, List.setIfInBounds_toArray, List.set_cons_zero, List.set_cons_succ]
        refine wpAnyH_take (i := 5) (oi := { dst := some 29, op := Op.slice 23 (Operand.tmp 27) none (some (Operand.tmp 28)) none, type := 23, pos := "victim.go:36", after := #[{ on := 3, ground := Ground.data }, { on := 4, ground := Ground.data }], guard := none }) (v := ?_) rfl (by kernel_rfl) (by kernel_rfl) (by kernel_rfl) (fun _ _ _ h => h) (Or.inl ⟨by rfl, ?_⟩) (by assumption) ?_
        rotate_left
        · (intro wS hSw; (try dsimp only at hSw); go_simp; (try with_reducible rfl))
        try simp only [Act.put, List.setIfInBounds_toArray, List.set_cons_zero, List.set_cons_succ]
        refine wpAnyH_ready (rs := [6]) (by kernel_rfl) (by simp) ?_
        refine AllReadyH.cons (o := { dst := some 30, op := Op.call { callee := Callee.value (Operand.func 15), args := #[Operand.tmp 26, Operand.tmp 29], argTypes := #[22, 23] }, type := 3, pos := "victim.go:36", after := #[{ on := 2, ground := Ground.data }, { on := 5, ground := Ground.data }], guard := none }) rfl (fun K hK => ?_) AllReadyH.nil
        go_simp
        (go_at_call 15; refine (Least_len ws may M em2 em3 A2 A3 c2 c3 _ (h2'.held hHeld.2.1 hHeld.2.2) (h3'.held hHeld.2.1 hHeld.2.2) n2 n3 hw).mono ?_; rw [EL.out]; rintro e' w4 ⟨rfl, hb4⟩)
        go_wp2_with fail
        refine hK.out _ _ ?_ (fun hNew => ?_)
        · (first | exact ⟨hB3.drew, by simp, by simp⟩ | exact kept_step (by assumption) hb4)
        clear hK K hHeld
        have hHeld := hNew
        clear hNew
        try simp only [Act.put, List.setIfInBounds_toArray, List.set_cons_zero, List.set_cons_succ]
        refine wpAnyH_take (i := 7) (oi := { dst := some 10, op := Op.assign (Operand.tmp 30), type := 3, pos := "victim.go:36", after := #[{ on := 6, ground := Ground.data }, { on := 6, ground := Ground.chain }, { on := 0, ground := Ground.phase }, { on := 1, ground := Ground.phase }, { on := 2, ground := Ground.phase }, { on := 3, ground := Ground.phase }, { on := 4, ground := Ground.phase }, { on := 5, ground := Ground.phase }, { on := 6, ground := Ground.phase }], guard := none }) (v := ?_) rfl (by kernel_rfl) (by kernel_rfl) (by kernel_rfl) (fun _ _ _ h => h) (Or.inl ⟨by rfl, ?_⟩) (by assumption) ?_
        rotate_left
        · (intro wS hSw; (try dsimp only at hSw); go_simp; (try with_reducible rfl))
        try simp only [Act.put, List.setIfInBounds_toArray, List.set_cons_zero, List.set_cons_succ]
        refine wpAnyH_done (by kernel_rfl) ?_ _
        refine NoPanic.normal ?_
        have cl4 := (hHeld.2.2 b1 (o1 + j) (by have := hB3.size; omega)).trans cl3
        go_wp2
        go_ret
        exact ⟨rfl, hHeld.1⟩
  · have ED : Hid (decide (t < spreadI (ws.take M) (may.take M)) = false) := Lib.hid (by rw [hS]; exact decide_eq_false hdue)
    obtain rfl := cno hdue
    clear cno cneg cz cyes hS hdue
    go_enter Try.func12, Try.ntmps12
    go_wp2_with (go_at_call 17; refine (Hcom.out _ n1 n2 n3).mono ?_; rintro e w' ⟨rfl, rfl⟩)
    refine wp_region_noPanic ?_
    refine wp_region_held_drew (S := (fun w' => Below w.heap.size w w' ∧ w.heap.size ≤ w'.heap.size ∧ ∀ (k o : Nat), k < w.heap.size → w'.cell? ⟨k, o, none⟩ = w.cell? ⟨k, o, none⟩)) (by kernel_rfl) ?_ (fun hHeld => ?_)
    · (first | exact ⟨(Below.refl _ _).drew, by simp, by simp⟩ | exact kept_step (by assumption) hb3)
    refine wpAnyH_take (i := 0) (oi := { dst := some 15, op := Op.move (Operand.tmp 1), type := 22, pos := "victim.go:33", after := #[], guard := none }) (v := ?_) rfl (by kernel_rfl) (by kernel_rfl) (by kernel_rfl) (fun _ _ _ h => h) (Or.inl ⟨by rfl, ?_⟩) (by assumption) ?_
    rotate_left
    · (intro wS hSw; (try dsimp only at hSw); go_simp; (try with_reducible rfl))
    try simp only [Act.put, List.setIfInBounds_toArray, List.set_cons_zero, List.set_cons_succ]
    refine wpAnyH_take (i := 1) (oi := { dst := some 16, op := Op.move (Operand.tmp 9), type := 3, pos := "victim.go:33", after := #[], guard := none }) (v := ?_) rfl (by kernel_rfl) (by kernel_rfl) (by kernel_rfl) (fun _ _ _ h => h) (Or.inl ⟨by rfl, ?_⟩) (by assumption) ?_
    rotate_left
    · (intro wS hSw; (try dsimp only at hSw); go_simp; (try with_reducible rfl))
    try simp only [Act.put, List.setIfInBounds_toArray, List.set_cons_zero, List.set_cons_succ]
    refine wpAnyH_take (i := 2) (oi := { dst := some 17, op := Op.slice 22 (Operand.tmp 15) none (some (Operand.tmp 16)) none, type := 22, pos := "victim.go:33", after := #[{ on := 0, ground := Ground.data }, { on := 1, ground := Ground.data }], guard := none }) (v := ?_) rfl (by kernel_rfl) (by kernel_rfl) (by kernel_rfl) (fun _ _ _ h => h) (Or.inl ⟨by rfl, ?_⟩) (by assumption) ?_
    rotate_left
    · (intro wS hSw; (try dsimp only at hSw); go_simp; (try with_reducible rfl))
    try simp only [Act.put, List.setIfInBounds_toArray, List.set_cons_zero, List.set_cons_succ]
    refine wpAnyH_take (i := 3) (oi := { dst := some 18, op := Op.move (Operand.tmp 2), type := 23, pos := "victim.go:33", after := #[], guard := none }) (v := ?_) rfl (by kernel_rfl) (by kernel_rfl) (by kernel_rfl) (fun _ _ _ h => h) (Or.inl ⟨by rfl, ?_⟩) (by assumption) ?_
    rotate_left
    · (intro wS hSw; (try dsimp only at hSw); go_simp; (try with_reducible rfl))
    try simp only [Act.put, List.setIfInBounds_toArray, List.set_cons_zero, List.set_cons_succ]
    refine wpAnyH_take (i := 4) (oi := { dst := some 19, op := Op.move (Operand.tmp 9), type := 3, pos := "victim.go:33", after := #[], guard := none }) (v := ?_) rfl (by kernel_rfl) (by kernel_rfl) (by kernel_rfl) (fun _ _ _ h => h) (Or.inl ⟨by rfl, ?_⟩) (by assumption) ?_
    rotate_left
    · (intro wS hSw; (try dsimp only at hSw); go_simp; (try with_reducible rfl))
    try simp only [Act.put, List.setIfInBounds_toArray, List.set_cons_zero, List.set_cons_succ]
    refine wpAnyH_take (i := 5) (oi := { dst := some 20, op := Op.slice 23 (Operand.tmp 18) none (some (Operand.tmp 19)) none, type := 23, pos := "victim.go:33", after := #[{ on := 3, ground := Ground.data }, { on := 4, ground := Ground.data }], guard := none }) (v := ?_) rfl (by kernel_rfl) (by kernel_rfl) (by kernel_rfl) (fun _ _ _ h => h) (Or.inl ⟨by rfl, ?_⟩) (by assumption) ?_
    rotate_left
    · (intro wS hSw; (try dsimp only at hSw); go_simp; (try with_reducible rfl))
    try simp only [Act.put, List.setIfInBounds_toArray, List.set_cons_zero, List.set_cons_succ]
    refine wpAnyH_take (i := 6) (oi := { dst := some 21, op := Op.move (Operand.tmp 3), type := 3, pos := "victim.go:33", after := #[], guard := none }) (v := ?_) rfl (by kernel_rfl) (by kernel_rfl) (by kernel_rfl) (fun _ _ _ h => h) (Or.inl ⟨by rfl, ?_⟩) (by assumption) ?_
    rotate_left
    · (intro wS hSw; (try dsimp only at hSw); go_simp; (try with_reducible rfl))
    try simp only [Act.put, List.setIfInBounds_toArray, List.set_cons_zero, List.set_cons_succ]
    refine wpAnyH_ready (rs := [7]) (by kernel_rfl) (by simp) ?_
    refine AllReadyH.cons (o := { dst := some 22, op := Op.call { callee := Callee.value (Operand.func 14), args := #[Operand.tmp 17, Operand.tmp 20, Operand.tmp 21], argTypes := #[22, 23, 3] }, type := 4, pos := "victim.go:33", after := #[{ on := 2, ground := Ground.data }, { on := 5, ground := Ground.data }, { on := 6, ground := Ground.data }], guard := none }) rfl (fun K hK => ?_) AllReadyH.nil
    go_simp
    (go_at_call 14; refine (Due_len ws may M em2 em3 A2 A3 c2 c3 t _ (h2.held hHeld.2.1 hHeld.2.2) (h3.held hHeld.2.1 hHeld.2.2) n2 n3 hw).mono ?_; rw [ED.out]; rintro e' w3 ⟨rfl, hb3⟩)
    go_wp2_with fail
    refine hK.out _ _ ?_ (fun hNew => ?_)
    · (first | exact ⟨(Below.refl _ _).drew, by simp, by simp⟩ | exact kept_step (by assumption) hb3)
    clear hK K hHeld
    have hHeld := hNew
    clear hNew
    try simp only [Act.put, List.setIfInBounds_toArray, List.set_cons_zero, List.set_cons_succ]
    refine wpAnyH_take (i := 8) (oi := { dst := some 23, op := Op.unOp UnOp.not 4 (Operand.tmp 22), type := 4, pos := "victim.go:33", after := #[{ on := 7, ground := Ground.data }], guard := none }) (v := ?_) rfl (by kernel_rfl) (by kernel_rfl) (by kernel_rfl) (fun _ _ _ h => h) (Or.inl ⟨by rfl, ?_⟩) (by assumption) ?_
    rotate_left
    · (intro wS hSw; (try dsimp only at hSw); go_simp; (try with_reducible rfl))
    try simp only [Act.put, List.setIfInBounds_toArray, List.set_cons_zero, List.set_cons_succ]
    refine wpAnyH_done (by kernel_rfl) ?_ _
    refine NoPanic.normal ?_
    go_wp2
    go_ret
    exact ⟨rfl, hHeld.1⟩

set_option maxRecDepth 100000 in
set_option maxHeartbeats 8000000 in
theorem rCold_any (live ws : List Int) (may : List Bool) (A1 A2 A3 : Option Addr) (c1 c2 c3 : Nat) (t : Int) (w : World)
    (h1 : Sl w w.heap.size A1 (live.map (Value.int .i64))) (h2 : Sl w w.heap.size A2 (ws.map (Value.int .i64))) (h3 : Sl w w.heap.size A3 (may.map Value.bool)) (n1 : live.length ≤ 1000000) (n2 : ws.length ≤ 1000000) (n3 : may.length ≤ 1000000)
    (k2 : ws.length ≤ c2) (k2' : c2 ≤ maxLen) (k3 : may.length ≤ c3) (k3' : c3 ≤ maxLen) (hw : ∀ z ∈ ws, 0 ≤ z ∧ z ≤ 2147483648) (hl : ∀ z ∈ live, 0 ≤ z) :
    Calls Try.prog 13 #[.slice A1 live.length c1, .slice A2 ws.length c2, .slice A3 may.length c3, .int .i64 t] w fun e w' => e = .returned (.int .i64 (coldI live ws may t)) ∧ Below w.heap.size w w' := by
  have em1 : mlen3 live ws may ≤ live.length := by unfold mlen3; omega
  have em2 : mlen3 live ws may ≤ ws.length := by unfold mlen3; omega
  have em3 : mlen3 live ws may ≤ may.length := by unfold mlen3; omega
  unfold maxLen at k2' k3'
  have hcom := common_any live ws may A1 A2 A3 c1 c2 c3
  have cno : ¬ t < spreadI (ws.take (mlen3 live ws may)) (may.take (mlen3 live ws may)) → coldI live ws may t = -1 := fun h => by unfold coldI; rw [if_neg h]
  have cneg : leastI (ws.take (mlen3 live ws may)) (may.take (mlen3 live ws may)) < 0 → coldI live ws may t = -1 := fun h => by unfold coldI; simp [h]
  have cz : live.getD (leastI (ws.take (mlen3 live ws may)) (may.take (mlen3 live ws may))).toNat 0 ≤ 0 → coldI live ws may t = -1 := fun h => by unfold coldI; rw [if_pos (Or.inr h)]; simp
  have cyes : t < spreadI (ws.take (mlen3 live ws may)) (may.take (mlen3 live ws may)) → ¬ leastI (ws.take (mlen3 live ws may)) (may.take (mlen3 live ws may)) < 0 → ¬ live.getD (leastI (ws.take (mlen3 live ws may)) (may.take (mlen3 live ws may))).toNat 0 ≤ 0 →
      coldI live ws may t = leastI (ws.take (mlen3 live ws may)) (may.take (mlen3 live ws may)) := fun a b c => by unfold coldI; rw [if_pos a, if_neg (by simp only [not_or]; exact ⟨b, c⟩)]
  have hLb := leastI_bd (ws.take (mlen3 live ws may)) (may.take (mlen3 live ws may))
  obtain ⟨M, hM⟩ : ∃ x, mlen3 live ws may = x := ⟨_, rfl⟩
  rw [hM] at em1 em2 em3 cno cneg cz cyes hLb
  rw [hM] at hcom
  have hlM : (ws.take M).length ≤ M := by simp; omega
  obtain ⟨S, hS⟩ : ∃ x, spreadI (ws.take M) (may.take M) = x := ⟨_, rfl⟩
  obtain ⟨L, hL⟩ : ∃ x, leastI (ws.take M) (may.take M) = x := ⟨_, rfl⟩
  rw [hS] at cno cyes
  rw [hL] at cneg cz cyes hLb
  have EL := Lib.hid hL
  have Hcom := Lib.hid hcom
  have HlM := Lib.hid hlM
  have HEM := Lib.hid hM
  clear hM hcom hlM hL
  obtain ⟨C, hC⟩ : ∃ x, coldI live ws may t = x := ⟨_, rfl⟩
  rw [hC] at cno cneg cz cyes ⊢
  have i2 : (0 : Int) ≤ (M : Int) := by omega
  have i3 : (M : Int) ≤ (c2 : Int) := by omega
  have i4 : (M : Int) ≤ (c3 : Int) := by omega
  clear hC
  by_cases hdue : t < S
  · have ED : Hid (decide (t < spreadI (ws.take M) (may.take M)) = true) := Lib.hid (by rw [hS]; simpa using hdue)
    clear hS
    by_cases hneg : L < 0
    · obtain rfl := cneg hneg
      have t1 : decide (L < 0) = true := by simpa using hneg
      clear cno cneg cz cyes hdue
      go_enter Try.func13, Try.ntmps13
      go_upto_region 1 with fail
      go_cut [9] (fun s9 wx => s9 = .int .i64 M ∧ w = wx)
      case first =>
        go_wp2
        all_goals
          go_meet
          have := HEM.out
          unfold mlen3 at this
          refine ⟨?_, rfl⟩
          first
          | (have e1 : M = live.length := by omega
             exact congrArg (fun n : Nat => Value.int .i64 (n : Int)) e1.symm)
          | (have e1 : M = ws.length := by omega
             exact congrArg (fun n : Nat => Value.int .i64 (n : Int)) e1.symm)
          | (have e1 : M = may.length := by omega
             exact congrArg (fun n : Nat => Value.int .i64 (n : Int)) e1.symm)
      case rest =>
      obtain ⟨rfl, rfl⟩ := hcut
      go_wp2_with fail
      refine wp_region_noPanic ?_
      refine wp_region_held_drew (S := (fun w' => Below w.heap.size w w' ∧ w.heap.size ≤ w'.heap.size ∧ ∀ (k o : Nat), k < w.heap.size → w'.cell? ⟨k, o, none⟩ = w.cell? ⟨k, o, none⟩)) (by kernel_rfl) ?_ (fun hHeld => ?_)
      · (first | exact ⟨(Below.refl _ _).drew, by simp, by simp⟩ | exact kept_step (by assumption) hb3)
      refine wpAnyH_take (i := 0) (oi := { dst := some 18, op := Op.move (Operand.tmp 1), type := 22, pos := "ref.go:23", after := #[], guard := none }) (v := ?_) rfl (by kernel_rfl) (by kernel_rfl) (by kernel_rfl) (fun _ _ _ h => h) (Or.inl ⟨by rfl, ?_⟩) (by assumption) ?_
      rotate_left
      · (intro wS hSw; (try dsimp only at hSw); go_simp; (try with_reducible rfl))
      try simp only [Act.put, List.setIfInBounds_toArray, List.set_cons_zero, List.set_cons_succ]
      refine wpAnyH_take (i := 1) (oi := { dst := some 19, op := Op.move (Operand.tmp 9), type := 3, pos := "ref.go:23", after := #[], guard := none }) (v := ?_) rfl (by kernel_rfl) (by kernel_rfl) (by kernel_rfl) (fun _ _ _ h => h) (Or.inl ⟨by rfl, ?_⟩) (by assumption) ?_
      rotate_left
      · (intro wS hSw; (try dsimp only at hSw); go_simp; (try with_reducible rfl))
      try simp only [Act.put, List.setIfInBounds_toArray, List.set_cons_zero, List.set_cons_succ]
      refine wpAnyH_take (i := 2) (oi := { dst := some 20, op := Op.slice 22 (Operand.tmp 18) none (some (Operand.tmp 19)) none, type := 22, pos := "ref.go:23", after := #[{ on := 0, ground := Ground.data }, { on := 1, ground := Ground.data }], guard := none }) (v := ?_) rfl (by kernel_rfl) (by kernel_rfl) (by kernel_rfl) (fun _ _ _ h => h) (Or.inl ⟨by rfl, ?_⟩) (by assumption) ?_
      rotate_left
      · (intro wS hSw; (try dsimp only at hSw); go_simp; (try with_reducible rfl))
      try simp only [Act.put, List.setIfInBounds_toArray, List.set_cons_zero, List.set_cons_succ]
      refine wpAnyH_take (i := 3) (oi := { dst := some 21, op := Op.move (Operand.tmp 2), type := 23, pos := "ref.go:23", after := #[], guard := none }) (v := ?_) rfl (by kernel_rfl) (by kernel_rfl) (by kernel_rfl) (fun _ _ _ h => h) (Or.inl ⟨by rfl, ?_⟩) (by assumption) ?_
      rotate_left
      · (intro wS hSw; (try dsimp only at hSw); go_simp; (try with_reducible rfl))
      try simp only [Act.put, List.setIfInBounds_toArray, List.set_cons_zero, List.set_cons_succ]
      refine wpAnyH_take (i := 4) (oi := { dst := some 22, op := Op.move (Operand.tmp 9), type := 3, pos := "ref.go:23", after := #[], guard := none }) (v := ?_) rfl (by kernel_rfl) (by kernel_rfl) (by kernel_rfl) (fun _ _ _ h => h) (Or.inl ⟨by rfl, ?_⟩) (by assumption) ?_
      rotate_left
      · (intro wS hSw; (try dsimp only at hSw); go_simp; (try with_reducible rfl))
      try simp only [Act.put, List.setIfInBounds_toArray, List.set_cons_zero, List.set_cons_succ]
      refine wpAnyH_take (i := 5) (oi := { dst := some 23, op := Op.slice 23 (Operand.tmp 21) none (some (Operand.tmp 22)) none, type := 23, pos := "ref.go:23", after := #[{ on := 3, ground := Ground.data }, { on := 4, ground := Ground.data }], guard := none }) (v := ?_) rfl (by kernel_rfl) (by kernel_rfl) (by kernel_rfl) (fun _ _ _ h => h) (Or.inl ⟨by rfl, ?_⟩) (by assumption) ?_
      rotate_left
      · (intro wS hSw; (try dsimp only at hSw); go_simp; (try with_reducible rfl))
      try simp only [Act.put, List.setIfInBounds_toArray, List.set_cons_zero, List.set_cons_succ]
      refine wpAnyH_take (i := 6) (oi := { dst := some 24, op := Op.move (Operand.tmp 3), type := 3, pos := "ref.go:23", after := #[], guard := none }) (v := ?_) rfl (by kernel_rfl) (by kernel_rfl) (by kernel_rfl) (fun _ _ _ h => h) (Or.inl ⟨by rfl, ?_⟩) (by assumption) ?_
      rotate_left
      · (intro wS hSw; (try dsimp only at hSw); go_simp; (try with_reducible rfl))
      try simp only [Act.put, List.setIfInBounds_toArray, List.set_cons_zero, List.set_cons_succ]
      refine wpAnyH_ready (rs := [7]) (by kernel_rfl) (by simp) ?_
      refine AllReadyH.cons (o := { dst := some 25, op := Op.call { callee := Callee.value (Operand.func 19), args := #[Operand.tmp 20, Operand.tmp 23, Operand.tmp 24], argTypes := #[22, 23, 3] }, type := 4, pos := "ref.go:23", after := #[{ on := 2, ground := Ground.data }, { on := 5, ground := Ground.data }, { on := 6, ground := Ground.data }], guard := none }) rfl (fun K hK => ?_) AllReadyH.nil
      go_simp
      (go_at_call 19; refine (rDue_len ws may M em2 em3 A2 A3 c2 c3 t _ (h2.held hHeld.2.1 hHeld.2.2) (h3.held hHeld.2.1 hHeld.2.2) n2 n3 hw).mono ?_; rw [ED.out]; rintro e' w3 ⟨rfl, hb3⟩)
      go_wp2_with fail
      refine hK.out _ _ ?_ (fun hNew => ?_)
      · (first | exact ⟨(Below.refl _ _).drew, by simp, by simp⟩ | exact kept_step (by assumption) hb3)
      clear hK K hHeld
      have hHeld := hNew
      clear hNew
      try simp only [Act.put, List.setIfInBounds_toArray, List.set_cons_zero, List.set_cons_succ]
      refine wpAnyH_take (i := 8) (oi := { dst := some 26, op := Op.unOp UnOp.not 4 (Operand.tmp 25), type := 4, pos := "ref.go:23", after := #[{ on := 7, ground := Ground.data }], guard := none }) (v := ?_) rfl (by kernel_rfl) (by kernel_rfl) (by kernel_rfl) (fun _ _ _ h => h) (Or.inl ⟨by rfl, ?_⟩) (by assumption) ?_
      rotate_left
      · (intro wS hSw; (try dsimp only at hSw); go_simp; (try with_reducible rfl))
      try simp only [Act.put, List.setIfInBounds_toArray, List.set_cons_zero, List.set_cons_succ]
      refine wpAnyH_done (by kernel_rfl) ?_ _
      refine NoPanic.normal ?_
      have hB3 := hHeld.1
      have h2' := h2.held hHeld.2.1 hHeld.2.2
      have h3' := h3.held hHeld.2.1 hHeld.2.2
      clear hHeld
      go_wp2_with fail
      refine wp_region_noPanic ?_
      refine wp_region_held_drew (S := (fun w' => Below w.heap.size w w' ∧ w3.heap.size ≤ w'.heap.size ∧ ∀ (k o : Nat), k < w3.heap.size → w'.cell? ⟨k, o, none⟩ = w3.cell? ⟨k, o, none⟩)) (by kernel_rfl) ?_ (fun hHeld => ?_)
      · (first | exact ⟨hB3.drew, by simp, by simp⟩ | exact kept_step (by assumption) hb4)
      refine wpAnyH_take (i := 0) (oi := { dst := some 27, op := Op.move (Operand.tmp 1), type := 22, pos := "ref.go:26", after := #[], guard := none }) (v := ?_) rfl (by kernel_rfl) (by kernel_rfl) (by kernel_rfl) (fun _ _ _ h => h) (Or.inl ⟨by rfl, ?_⟩) (by assumption) ?_
      rotate_left
      · (intro wS hSw; (try dsimp only at hSw); go_simp; (try with_reducible rfl))
      try simp only [Act.put, List.setIfInBounds_toArray, List.set_cons_zero, List.set_cons_succ]
      refine wpAnyH_take (i := 1) (oi := { dst := some 28, op := Op.move (Operand.tmp 9), type := 3, pos := "ref.go:26", after := #[], guard := none }) (v := ?_) rfl (by kernel_rfl) (by kernel_rfl) (by kernel_rfl) (fun _ _ _ h => h) (Or.inl ⟨by rfl, ?_⟩) (by assumption) ?_
      rotate_left
      · (intro wS hSw; (try dsimp only at hSw); go_simp; (try with_reducible rfl))
      try simp only [Act.put, List.setIfInBounds_toArray, List.set_cons_zero, List.set_cons_succ]
      refine wpAnyH_take (i := 2) (oi := { dst := some 29, op := Op.slice 22 (Operand.tmp 27) none (some (Operand.tmp 28)) none, type := 22, pos := "ref.go:26", after := #[{ on := 0, ground := Ground.data }, { on := 1, ground := Ground.data }], guard := none }) (v := ?_) rfl (by kernel_rfl) (by kernel_rfl) (by kernel_rfl) (fun _ _ _ h => h) (Or.inl ⟨by rfl, ?_⟩) (by assumption) ?_
      rotate_left
      · (intro wS hSw; (try dsimp only at hSw); go_simp; (try with_reducible rfl))
      try simp only [Act.put, List.setIfInBounds_toArray, List.set_cons_zero, List.set_cons_succ]
      refine wpAnyH_take (i := 3) (oi := { dst := some 30, op := Op.move (Operand.tmp 2), type := 23, pos := "ref.go:26", after := #[], guard := none }) (v := ?_) rfl (by kernel_rfl) (by kernel_rfl) (by kernel_rfl) (fun _ _ _ h => h) (Or.inl ⟨by rfl, ?_⟩) (by assumption) ?_
      rotate_left
      · (intro wS hSw; (try dsimp only at hSw); go_simp; (try with_reducible rfl))
      try simp only [Act.put, List.setIfInBounds_toArray, List.set_cons_zero, List.set_cons_succ]
      refine wpAnyH_take (i := 4) (oi := { dst := some 31, op := Op.move (Operand.tmp 9), type := 3, pos := "ref.go:26", after := #[], guard := none }) (v := ?_) rfl (by kernel_rfl) (by kernel_rfl) (by kernel_rfl) (fun _ _ _ h => h) (Or.inl ⟨by rfl, ?_⟩) (by assumption) ?_
      rotate_left
      · (intro wS hSw; (try dsimp only at hSw); go_simp; (try with_reducible rfl))
      try simp only [Act.put, List.setIfInBounds_toArray, List.set_cons_zero, List.set_cons_succ]
      refine wpAnyH_take (i := 5) (oi := { dst := some 32, op := Op.slice 23 (Operand.tmp 30) none (some (Operand.tmp 31)) none, type := 23, pos := "ref.go:26", after := #[{ on := 3, ground := Ground.data }, { on := 4, ground := Ground.data }], guard := none }) (v := ?_) rfl (by kernel_rfl) (by kernel_rfl) (by kernel_rfl) (fun _ _ _ h => h) (Or.inl ⟨by rfl, ?_⟩) (by assumption) ?_
      rotate_left
      · (intro wS hSw; (try dsimp only at hSw); go_simp; (try with_reducible rfl))
      try simp only [Act.put, List.setIfInBounds_toArray, List.set_cons_zero, List.set_cons_succ]
      refine wpAnyH_ready (rs := [6]) (by kernel_rfl) (by simp) ?_
      refine AllReadyH.cons (o := { dst := some 33, op := Op.call { callee := Callee.value (Operand.func 18), args := #[Operand.tmp 29, Operand.tmp 32], argTypes := #[22, 23] }, type := 3, pos := "ref.go:26", after := #[{ on := 2, ground := Ground.data }, { on := 5, ground := Ground.data }], guard := none }) rfl (fun K hK => ?_) AllReadyH.nil
      go_simp
      (go_at_call 18; refine (rLeast_len ws may M em2 em3 A2 A3 c2 c3 _ (h2'.held hHeld.2.1 hHeld.2.2) (h3'.held hHeld.2.1 hHeld.2.2) n2 n3 hw).mono ?_; rw [EL.out]; rintro e' w4 ⟨rfl, hb4⟩)
      go_wp2_with fail
      refine hK.out _ _ ?_ (fun hNew => ?_)
      · (first | exact ⟨hB3.drew, by simp, by simp⟩ | exact kept_step (by assumption) hb4)
      clear hK K hHeld
      have hHeld := hNew
      clear hNew
      try simp only [Act.put, List.setIfInBounds_toArray, List.set_cons_zero, List.set_cons_succ]
      refine wpAnyH_take (i := 7) (oi := { dst := some 10, op := Op.assign (Operand.tmp 33), type := 3, pos := "ref.go:26", after := #[{ on := 6, ground := Ground.data }, { on := 6, ground := Ground.chain }, { on := 0, ground := Ground.phase }, { on := 1, ground := Ground.phase }, { on := 2, ground := Ground.phase }, { on := 3, ground := Ground.phase }, { on := 4, ground := Ground.phase }, { on := 5, ground := Ground.phase }, { on := 6, ground := Ground.phase }], guard := none }) (v := ?_) rfl (by kernel_rfl) (by kernel_rfl) (by kernel_rfl) (fun _ _ _ h => h) (Or.inl ⟨by rfl, ?_⟩) (by assumption) ?_
      rotate_left
      · (intro wS hSw; (try dsimp only at hSw); go_simp; (try with_reducible rfl))
      try simp only [Act.put, List.setIfInBounds_toArray, List.set_cons_zero, List.set_cons_succ]
      refine wpAnyH_done (by kernel_rfl) ?_ _
      refine NoPanic.normal ?_
      go_wp2
      go_ret
      exact ⟨rfl, hHeld.1⟩
    · obtain ⟨j, rfl⟩ : ∃ j : Nat, L = (j : Int) := ⟨L.toNat, by omega⟩
      have hj : j < live.length := by
        have := HlM.out
        omega
      obtain ⟨b1, o1, rfl, l1, q1⟩ := h1.at_ (by simpa using (by omega : 0 < live.length))
      obtain ⟨z, hz⟩ : ∃ z, live.getD j 0 = z := ⟨_, rfl⟩
      have cl : w.cell? ⟨b1, o1 + j, none⟩ = some (.int .i64 z) := q1 j _ (by rw [← hz]; simp [hj])
      have z0 : 0 ≤ z := hl z (by rw [← hz]; simp [hj])
      simp only [Int.toNat_natCast] at cz cyes
      rw [hz] at cz cyes
      have t1 : decide ((j : Int) < 0) = false := decide_eq_false hneg
      have i5 : (0 : Int) ≤ (j : Int) := by omega
      have i6 : (j : Int) < (live.length : Int) := by omega
      clear hz q1 hl hLb
      by_cases hp : z ≤ 0
      · obtain rfl := cz hp
        have t2 : (z == 0) = true := by simp; omega
        clear cno cneg cz cyes hdue hneg
        go_enter Try.func13, Try.ntmps13
        go_upto_region 1 with fail
        go_cut [9] (fun s9 wx => s9 = .int .i64 M ∧ w = wx)
        case first =>
          go_wp2
          all_goals
            go_meet
            have := HEM.out
            unfold mlen3 at this
            refine ⟨?_, rfl⟩
            first
            | (have e1 : M = live.length := by omega
               exact congrArg (fun n : Nat => Value.int .i64 (n : Int)) e1.symm)
            | (have e1 : M = ws.length := by omega
               exact congrArg (fun n : Nat => Value.int .i64 (n : Int)) e1.symm)
            | (have e1 : M = may.length := by omega
               exact congrArg (fun n : Nat => Value.int .i64 (n : Int)) e1.symm)
        case rest =>
        obtain ⟨rfl, rfl⟩ := hcut
        go_wp2_with fail
        refine wp_region_noPanic ?_
        refine wp_region_held_drew (S := (fun w' => Below w.heap.size w w' ∧ w.heap.size ≤ w'.heap.size ∧ ∀ (k o : Nat), k < w.heap.size → w'.cell? ⟨k, o, none⟩ = w.cell? ⟨k, o, none⟩)) (by kernel_rfl) ?_ (fun hHeld => ?_)
        · (first | exact ⟨(Below.refl _ _).drew, by simp, by simp⟩ | exact kept_step (by assumption) hb3)
        refine wpAnyH_take (i := 0) (oi := { dst := some 18, op := Op.move (Operand.tmp 1), type := 22, pos := "ref.go:23", after := #[], guard := none }) (v := ?_) rfl (by kernel_rfl) (by kernel_rfl) (by kernel_rfl) (fun _ _ _ h => h) (Or.inl ⟨by rfl, ?_⟩) (by assumption) ?_
        rotate_left
        · (intro wS hSw; (try dsimp only at hSw); go_simp; (try with_reducible rfl))
        try simp only [Act.put, List.setIfInBounds_toArray, List.set_cons_zero, List.set_cons_succ]
        refine wpAnyH_take (i := 1) (oi := { dst := some 19, op := Op.move (Operand.tmp 9), type := 3, pos := "ref.go:23", after := #[], guard := none }) (v := ?_) rfl (by kernel_rfl) (by kernel_rfl) (by kernel_rfl) (fun _ _ _ h => h) (Or.inl ⟨by rfl, ?_⟩) (by assumption) ?_
        rotate_left
        · (intro wS hSw; (try dsimp only at hSw); go_simp; (try with_reducible rfl))
        try simp only [Act.put, List.setIfInBounds_toArray, List.set_cons_zero, List.set_cons_succ]
        refine wpAnyH_take (i := 2) (oi := { dst := some 20, op := Op.slice 22 (Operand.tmp 18) none (some (Operand.tmp 19)) none, type := 22, pos := "ref.go:23", after := #[{ on := 0, ground := Ground.data }, { on := 1, ground := Ground.data }], guard := none }) (v := ?_) rfl (by kernel_rfl) (by kernel_rfl) (by kernel_rfl) (fun _ _ _ h => h) (Or.inl ⟨by rfl, ?_⟩) (by assumption) ?_
        rotate_left
        · (intro wS hSw; (try dsimp only at hSw); go_simp; (try with_reducible rfl))
        try simp only [Act.put, List.setIfInBounds_toArray, List.set_cons_zero, List.set_cons_succ]
        refine wpAnyH_take (i := 3) (oi := { dst := some 21, op := Op.move (Operand.tmp 2), type := 23, pos := "ref.go:23", after := #[], guard := none }) (v := ?_) rfl (by kernel_rfl) (by kernel_rfl) (by kernel_rfl) (fun _ _ _ h => h) (Or.inl ⟨by rfl, ?_⟩) (by assumption) ?_
        rotate_left
        · (intro wS hSw; (try dsimp only at hSw); go_simp; (try with_reducible rfl))
        try simp only [Act.put, List.setIfInBounds_toArray, List.set_cons_zero, List.set_cons_succ]
        refine wpAnyH_take (i := 4) (oi := { dst := some 22, op := Op.move (Operand.tmp 9), type := 3, pos := "ref.go:23", after := #[], guard := none }) (v := ?_) rfl (by kernel_rfl) (by kernel_rfl) (by kernel_rfl) (fun _ _ _ h => h) (Or.inl ⟨by rfl, ?_⟩) (by assumption) ?_
        rotate_left
        · (intro wS hSw; (try dsimp only at hSw); go_simp; (try with_reducible rfl))
        try simp only [Act.put, List.setIfInBounds_toArray, List.set_cons_zero, List.set_cons_succ]
        refine wpAnyH_take (i := 5) (oi := { dst := some 23, op := Op.slice 23 (Operand.tmp 21) none (some (Operand.tmp 22)) none, type := 23, pos := "ref.go:23", after := #[{ on := 3, ground := Ground.data }, { on := 4, ground := Ground.data }], guard := none }) (v := ?_) rfl (by kernel_rfl) (by kernel_rfl) (by kernel_rfl) (fun _ _ _ h => h) (Or.inl ⟨by rfl, ?_⟩) (by assumption) ?_
        rotate_left
        · (intro wS hSw; (try dsimp only at hSw); go_simp; (try with_reducible rfl))
        try simp only [Act.put, List.setIfInBounds_toArray, List.set_cons_zero, List.set_cons_succ]
        refine wpAnyH_take (i := 6) (oi := { dst := some 24, op := Op.move (Operand.tmp 3), type := 3, pos := "ref.go:23", after := #[], guard := none }) (v := ?_) rfl (by kernel_rfl) (by kernel_rfl) (by kernel_rfl) (fun _ _ _ h => h) (Or.inl ⟨by rfl, ?_⟩) (by assumption) ?_
        rotate_left
        · (intro wS hSw; (try dsimp only at hSw); go_simp; (try with_reducible rfl))
        try simp only [Act.put, List.setIfInBounds_toArray, List.set_cons_zero, List.set_cons_succ]
        refine wpAnyH_ready (rs := [7]) (by kernel_rfl) (by simp) ?_
        refine AllReadyH.cons (o := { dst := some 25, op := Op.call { callee := Callee.value (Operand.func 19), args := #[Operand.tmp 20, Operand.tmp 23, Operand.tmp 24], argTypes := #[22, 23, 3] }, type := 4, pos := "ref.go:23", after := #[{ on := 2, ground := Ground.data }, { on := 5, ground := Ground.data }, { on := 6, ground := Ground.data }], guard := none }) rfl (fun K hK => ?_) AllReadyH.nil
        go_simp
        (go_at_call 19; refine (rDue_len ws may M em2 em3 A2 A3 c2 c3 t _ (h2.held hHeld.2.1 hHeld.2.2) (h3.held hHeld.2.1 hHeld.2.2) n2 n3 hw).mono ?_; rw [ED.out]; rintro e' w3 ⟨rfl, hb3⟩)
        go_wp2_with fail
        refine hK.out _ _ ?_ (fun hNew => ?_)
        · (first | exact ⟨(Below.refl _ _).drew, by simp, by simp⟩ | exact kept_step (by assumption) hb3)
        clear hK K hHeld
        have hHeld := hNew
        clear hNew
        try simp only [Act.put, List.setIfInBounds_toArray, List.set_cons_zero, List.set_cons_succ]
        refine wpAnyH_take (i := 8) (oi := { dst := some 26, op := Op.unOp UnOp.not 4 (Operand.tmp 25), type := 4, pos := "ref.go:23", after := #[{ on := 7, ground := Ground.data }], guard := none }) (v := ?_) rfl (by kernel_rfl) (by kernel_rfl) (by kernel_rfl) (fun _ _ _ h => h) (Or.inl ⟨by rfl, ?_⟩) (by assumption) ?_
        rotate_left
        · (intro wS hSw; (try dsimp only at hSw); go_simp; (try with_reducible rfl))
        try simp only [Act.put, List.setIfInBounds_toArray, List.set_cons_zero, List.set_cons_succ]
        refine wpAnyH_done (by kernel_rfl) ?_ _
        refine NoPanic.normal ?_
        have hB3 := hHeld.1
        have h2' := h2.held hHeld.2.1 hHeld.2.2
        have h3' := h3.held hHeld.2.1 hHeld.2.2
        have cl3 := (hHeld.2.2 b1 (o1 + j) l1).trans cl
        clear hHeld
        go_wp2_with fail
        refine wp_region_noPanic ?_
        refine wp_region_held_drew (S := (fun w' => Below w.heap.size w w' ∧ w3.heap.size ≤ w'.heap.size ∧ ∀ (k o : Nat), k < w3.heap.size → w'.cell? ⟨k, o, none⟩ = w3.cell? ⟨k, o, none⟩)) (by kernel_rfl) ?_ (fun hHeld => ?_)
        · (first | exact ⟨hB3.drew, by simp, by simp⟩ | exact kept_step (by assumption) hb4)
        refine wpAnyH_take (i := 0) (oi := { dst := some 27, op := Op.move (Operand.tmp 1), type := 22, pos := "ref.go:26", after := #[], guard := none }) (v := ?_) rfl (by kernel_rfl) (by kernel_rfl) (by kernel_rfl) (fun _ _ _ h => h) (Or.inl ⟨by rfl, ?_⟩) (by assumption) ?_
        rotate_left
        · (intro wS hSw; (try dsimp only at hSw); go_simp; (try with_reducible rfl))
        try simp only [Act.put, List.setIfInBounds_toArray, List.set_cons_zero, List.set_cons_succ]
        refine wpAnyH_take (i := 1) (oi := { dst := some 28, op := Op.move (Operand.tmp 9), type := 3, pos := "ref.go:26", after := #[], guard := none }) (v := ?_) rfl (by kernel_rfl) (by kernel_rfl) (by kernel_rfl) (fun _ _ _ h => h) (Or.inl ⟨by rfl, ?_⟩) (by assumption) ?_
        rotate_left
        · (intro wS hSw; (try dsimp only at hSw); go_simp; (try with_reducible rfl))
        try simp only [Act.put, List.setIfInBounds_toArray, List.set_cons_zero, List.set_cons_succ]
        refine wpAnyH_take (i := 2) (oi := { dst := some 29, op := Op.slice 22 (Operand.tmp 27) none (some (Operand.tmp 28)) none, type := 22, pos := "ref.go:26", after := #[{ on := 0, ground := Ground.data }, { on := 1, ground := Ground.data }], guard := none }) (v := ?_) rfl (by kernel_rfl) (by kernel_rfl) (by kernel_rfl) (fun _ _ _ h => h) (Or.inl ⟨by rfl, ?_⟩) (by assumption) ?_
        rotate_left
        · (intro wS hSw; (try dsimp only at hSw); go_simp; (try with_reducible rfl))
        try simp only [Act.put, List.setIfInBounds_toArray, List.set_cons_zero, List.set_cons_succ]
        refine wpAnyH_take (i := 3) (oi := { dst := some 30, op := Op.move (Operand.tmp 2), type := 23, pos := "ref.go:26", after := #[], guard := none }) (v := ?_) rfl (by kernel_rfl) (by kernel_rfl) (by kernel_rfl) (fun _ _ _ h => h) (Or.inl ⟨by rfl, ?_⟩) (by assumption) ?_
        rotate_left
        · (intro wS hSw; (try dsimp only at hSw); go_simp; (try with_reducible rfl))
        try simp only [Act.put, List.setIfInBounds_toArray, List.set_cons_zero, List.set_cons_succ]
        refine wpAnyH_take (i := 4) (oi := { dst := some 31, op := Op.move (Operand.tmp 9), type := 3, pos := "ref.go:26", after := #[], guard := none }) (v := ?_) rfl (by kernel_rfl) (by kernel_rfl) (by kernel_rfl) (fun _ _ _ h => h) (Or.inl ⟨by rfl, ?_⟩) (by assumption) ?_
        rotate_left
        · (intro wS hSw; (try dsimp only at hSw); go_simp; (try with_reducible rfl))
        try simp only [Act.put, List.setIfInBounds_toArray, List.set_cons_zero, List.set_cons_succ]
        refine wpAnyH_take (i := 5) (oi := { dst := some 32, op := Op.slice 23 (Operand.tmp 30) none (some (Operand.tmp 31)) none, type := 23, pos := "ref.go:26", after := #[{ on := 3, ground := Ground.data }, { on := 4, ground := Ground.data }], guard := none }) (v := ?_) rfl (by kernel_rfl) (by kernel_rfl) (by kernel_rfl) (fun _ _ _ h => h) (Or.inl ⟨by rfl, ?_⟩) (by assumption) ?_
        rotate_left
        · (intro wS hSw; (try dsimp only at hSw); go_simp; (try with_reducible rfl))
        try simp only [Act.put, List.setIfInBounds_toArray, List.set_cons_zero, List.set_cons_succ]
        refine wpAnyH_ready (rs := [6]) (by kernel_rfl) (by simp) ?_
        refine AllReadyH.cons (o := { dst := some 33, op := Op.call { callee := Callee.value (Operand.func 18), args := #[Operand.tmp 29, Operand.tmp 32], argTypes := #[22, 23] }, type := 3, pos := "ref.go:26", after := #[{ on := 2, ground := Ground.data }, { on := 5, ground := Ground.data }], guard := none }) rfl (fun K hK => ?_) AllReadyH.nil
        go_simp
        (go_at_call 18; refine (rLeast_len ws may M em2 em3 A2 A3 c2 c3 _ (h2'.held hHeld.2.1 hHeld.2.2) (h3'.held hHeld.2.1 hHeld.2.2) n2 n3 hw).mono ?_; rw [EL.out]; rintro e' w4 ⟨rfl, hb4⟩)
        go_wp2_with fail
        refine hK.out _ _ ?_ (fun hNew => ?_)
        · (first | exact ⟨hB3.drew, by simp, by simp⟩ | exact kept_step (by assumption) hb4)
        clear hK K hHeld
        have hHeld := hNew
        clear hNew
        try simp only [Act.put, List.setIfInBounds_toArray, List.set_cons_zero, List.set_cons_succ]
        refine wpAnyH_take (i := 7) (oi := { dst := some 10, op := Op.assign (Operand.tmp 33), type := 3, pos := "ref.go:26", after := #[{ on := 6, ground := Ground.data }, { on := 6, ground := Ground.chain }, { on := 0, ground := Ground.phase }, { on := 1, ground := Ground.phase }, { on := 2, ground := Ground.phase }, { on := 3, ground := Ground.phase }, { on := 4, ground := Ground.phase }, { on := 5, ground := Ground.phase }, { on := 6, ground := Ground.phase }], guard := none }) (v := ?_) rfl (by kernel_rfl) (by kernel_rfl) (by kernel_rfl) (fun _ _ _ h => h) (Or.inl ⟨by rfl, ?_⟩) (by assumption) ?_
        rotate_left
        · (intro wS hSw; (try dsimp only at hSw); go_simp; (try with_reducible rfl))
        try simp only [Act.put, List.setIfInBounds_toArray, List.set_cons_zero, List.set_cons_succ]
        refine wpAnyH_done (by kernel_rfl) ?_ _
        refine NoPanic.normal ?_
        have cl4 := (hHeld.2.2 b1 (o1 + j) (by have := hB3.size; omega)).trans cl3
        go_wp2
        go_ret
        exact ⟨rfl, hHeld.1⟩
      · obtain rfl := cyes hdue hneg hp
        have t2 : (z == 0) = false := by simp; omega
        clear cno cneg cz cyes hdue hneg
        go_enter Try.func13, Try.ntmps13
        go_upto_region 1 with fail
        go_cut [9] (fun s9 wx => s9 = .int .i64 M ∧ w = wx)
        case first =>
          go_wp2
          all_goals
            go_meet
            have := HEM.out
            unfold mlen3 at this
            refine ⟨?_, rfl⟩
            first
            | (have e1 : M = live.length := by omega
               exact congrArg (fun n : Nat => Value.int .i64 (n : Int)) e1.symm)
            | (have e1 : M = ws.length := by omega
               exact congrArg (fun n : Nat => Value.int .i64 (n : Int)) e1.symm)
            | (have e1 : M = may.length := by omega
               exact congrArg (fun n : Nat => Value.int .i64 (n : Int)) e1.symm)
        case rest =>
        obtain ⟨rfl, rfl⟩ := hcut
        go_wp2_with fail
        refine wp_region_noPanic ?_
        refine wp_region_held_drew (S := (fun w' => Below w.heap.size w w' ∧ w.heap.size ≤ w'.heap.size ∧ ∀ (k o : Nat), k < w.heap.size → w'.cell? ⟨k, o, none⟩ = w.cell? ⟨k, o, none⟩)) (by kernel_rfl) ?_ (fun hHeld => ?_)
        · (first | exact ⟨(Below.refl _ _).drew, by simp, by simp⟩ | exact kept_step (by assumption) hb3)
        refine wpAnyH_take (i := 0) (oi := { dst := some 18, op := Op.move (Operand.tmp 1), type := 22, pos := "ref.go:23", after := #[], guard := none }) (v := ?_) rfl (by kernel_rfl) (by kernel_rfl) (by kernel_rfl) (fun _ _ _ h => h) (Or.inl ⟨by rfl, ?_⟩) (by assumption) ?_
        rotate_left
        · (intro wS hSw; (try dsimp only at hSw); go_simp; (try with_reducible rfl))
        try simp only [Act.put, List.setIfInBounds_toArray, List.set_cons_zero, List.set_cons_succ]
        refine wpAnyH_take (i := 1) (oi := { dst := some 19, op := Op.move (Operand.tmp 9), type := 3, pos := "ref.go:23", after := #[], guard := none }) (v := ?_) rfl (by kernel_rfl) (by kernel_rfl) (by kernel_rfl) (fun _ _ _ h => h) (Or.inl ⟨by rfl, ?_⟩) (by assumption) ?_
        rotate_left
        · (intro wS hSw; (try dsimp only at hSw); go_simp; (try with_reducible rfl))
        try simp only [Act.put, List.setIfInBounds_toArray, List.set_cons_zero, List.set_cons_succ]
        refine wpAnyH_take (i := 2) (oi := { dst := some 20, op := Op.slice 22 (Operand.tmp 18) none (some (Operand.tmp 19)) none, type := 22, pos := "ref.go:23", after := #[{ on := 0, ground := Ground.data }, { on := 1, ground := Ground.data }], guard := none }) (v := ?_) rfl (by kernel_rfl) (by kernel_rfl) (by kernel_rfl) (fun _ _ _ h => h) (Or.inl ⟨by rfl, ?_⟩) (by assumption) ?_
        rotate_left
        · (intro wS hSw; (try dsimp only at hSw); go_simp; (try with_reducible rfl))
        try simp only [Act.put, List.setIfInBounds_toArray, List.set_cons_zero, List.set_cons_succ]
        refine wpAnyH_take (i := 3) (oi := { dst := some 21, op := Op.move (Operand.tmp 2), type := 23, pos := "ref.go:23", after := #[], guard := none }) (v := ?_) rfl (by kernel_rfl) (by kernel_rfl) (by kernel_rfl) (fun _ _ _ h => h) (Or.inl ⟨by rfl, ?_⟩) (by assumption) ?_
        rotate_left
        · (intro wS hSw; (try dsimp only at hSw); go_simp; (try with_reducible rfl))
        try simp only [Act.put, List.setIfInBounds_toArray, List.set_cons_zero, List.set_cons_succ]
        refine wpAnyH_take (i := 4) (oi := { dst := some 22, op := Op.move (Operand.tmp 9), type := 3, pos := "ref.go:23", after := #[], guard := none }) (v := ?_) rfl (by kernel_rfl) (by kernel_rfl) (by kernel_rfl) (fun _ _ _ h => h) (Or.inl ⟨by rfl, ?_⟩) (by assumption) ?_
        rotate_left
        · (intro wS hSw; (try dsimp only at hSw); go_simp; (try with_reducible rfl))
        try simp only [Act.put, List.setIfInBounds_toArray, List.set_cons_zero, List.set_cons_succ]
        refine wpAnyH_take (i := 5) (oi := { dst := some 23, op := Op.slice 23 (Operand.tmp 21) none (some (Operand.tmp 22)) none, type := 23, pos := "ref.go:23", after := #[{ on := 3, ground := Ground.data }, { on := 4, ground := Ground.data }], guard := none }) (v := ?_) rfl (by kernel_rfl) (by kernel_rfl) (by kernel_rfl) (fun _ _ _ h => h) (Or.inl ⟨by rfl, ?_⟩) (by assumption) ?_
        rotate_left
        · (intro wS hSw; (try dsimp only at hSw); go_simp; (try with_reducible rfl))
        try simp only [Act.put, List.setIfInBounds_toArray, List.set_cons_zero, List.set_cons_succ]
        refine wpAnyH_take (i := 6) (oi := { dst := some 24, op := Op.move (Operand.tmp 3), type := 3, pos := "ref.go:23", after := #[], guard := none }) (v := ?_) rfl (by kernel_rfl) (by kernel_rfl) (by kernel_rfl) (fun _ _ _ h => h) (Or.inl ⟨by rfl, ?_⟩) (by assumption) ?_
        rotate_left
        · (intro wS hSw; (try dsimp only at hSw); go_simp; (try with_reducible rfl))
        try simp only [Act.put, List.setIfInBounds_toArray, List.set_cons_zero, List.set_cons_succ]
        refine wpAnyH_ready (rs := [7]) (by kernel_rfl) (by simp) ?_
        refine AllReadyH.cons (o := { dst := some 25, op := Op.call { callee := Callee.value (Operand.func 19), args := #[Operand.tmp 20, Operand.tmp 23, Operand.tmp 24], argTypes := #[22, 23, 3] }, type := 4, pos := "ref.go:23", after := #[{ on := 2, ground := Ground.data }, { on := 5, ground := Ground.data }, { on := 6, ground := Ground.data }], guard := none }) rfl (fun K hK => ?_) AllReadyH.nil
        go_simp
        (go_at_call 19; refine (rDue_len ws may M em2 em3 A2 A3 c2 c3 t _ (h2.held hHeld.2.1 hHeld.2.2) (h3.held hHeld.2.1 hHeld.2.2) n2 n3 hw).mono ?_; rw [ED.out]; rintro e' w3 ⟨rfl, hb3⟩)
        go_wp2_with fail
        refine hK.out _ _ ?_ (fun hNew => ?_)
        · (first | exact ⟨(Below.refl _ _).drew, by simp, by simp⟩ | exact kept_step (by assumption) hb3)
        clear hK K hHeld
        have hHeld := hNew
        clear hNew
        try simp only [Act.put, List.setIfInBounds_toArray, List.set_cons_zero, List.set_cons_succ]
        refine wpAnyH_take (i := 8) (oi := { dst := some 26, op := Op.unOp UnOp.not 4 (Operand.tmp 25), type := 4, pos := "ref.go:23", after := #[{ on := 7, ground := Ground.data }], guard := none }) (v := ?_) rfl (by kernel_rfl) (by kernel_rfl) (by kernel_rfl) (fun _ _ _ h => h) (Or.inl ⟨by rfl, ?_⟩) (by assumption) ?_
        rotate_left
        · (intro wS hSw; (try dsimp only at hSw); go_simp; (try with_reducible rfl))
        try simp only [Act.put, List.setIfInBounds_toArray, List.set_cons_zero, List.set_cons_succ]
        refine wpAnyH_done (by kernel_rfl) ?_ _
        refine NoPanic.normal ?_
        have hB3 := hHeld.1
        have h2' := h2.held hHeld.2.1 hHeld.2.2
        have h3' := h3.held hHeld.2.1 hHeld.2.2
        have cl3 := (hHeld.2.2 b1 (o1 + j) l1).trans cl
        clear hHeld
        go_wp2_with fail
        refine wp_region_noPanic ?_
        refine wp_region_held_drew (S := (fun w' => Below w.heap.size w w' ∧ w3.heap.size ≤ w'.heap.size ∧ ∀ (k o : Nat), k < w3.heap.size → w'.cell? ⟨k, o, none⟩ = w3.cell? ⟨k, o, none⟩)) (by kernel_rfl) ?_ (fun hHeld => ?_)
        · (first | exact ⟨hB3.drew, by simp, by simp⟩ | exact kept_step (by assumption) hb4)
        refine wpAnyH_take (i := 0) (oi := { dst := some 27, op := Op.move (Operand.tmp 1), type := 22, pos := "ref.go:26", after := #[], guard := none }) (v := ?_) rfl (by kernel_rfl) (by kernel_rfl) (by kernel_rfl) (fun _ _ _ h => h) (Or.inl ⟨by rfl, ?_⟩) (by assumption) ?_
        rotate_left
        · (intro wS hSw; (try dsimp only at hSw); go_simp; (try with_reducible rfl))
        try simp only [Act.put, List.setIfInBounds_toArray, List.set_cons_zero, List.set_cons_succ]
        refine wpAnyH_take (i := 1) (oi := { dst := some 28, op := Op.move (Operand.tmp 9), type := 3, pos := "ref.go:26", after := #[], guard := none }) (v := ?_) rfl (by kernel_rfl) (by kernel_rfl) (by kernel_rfl) (fun _ _ _ h => h) (Or.inl ⟨by rfl, ?_⟩) (by assumption) ?_
        rotate_left
        · (intro wS hSw; (try dsimp only at hSw); go_simp; (try with_reducible rfl))
        try simp only [Act.put, List.setIfInBounds_toArray, List.set_cons_zero, List.set_cons_succ]
        refine wpAnyH_take (i := 2) (oi := { dst := some 29, op := Op.slice 22 (Operand.tmp 27) none (some (Operand.tmp 28)) none, type := 22, pos := "ref.go:26", after := #[{ on := 0, ground := Ground.data }, { on := 1, ground := Ground.data }], guard := none }) (v := ?_) rfl (by kernel_rfl) (by kernel_rfl) (by kernel_rfl) (fun _ _ _ h => h) (Or.inl ⟨by rfl, ?_⟩) (by assumption) ?_
        rotate_left
        · (intro wS hSw; (try dsimp only at hSw); go_simp; (try with_reducible rfl))
        try simp only [Act.put, List.setIfInBounds_toArray, List.set_cons_zero, List.set_cons_succ]
        refine wpAnyH_take (i := 3) (oi := { dst := some 30, op := Op.move (Operand.tmp 2), type := 23, pos := "ref.go:26", after := #[], guard := none }) (v := ?_) rfl (by kernel_rfl) (by kernel_rfl) (by kernel_rfl) (fun _ _ _ h => h) (Or.inl ⟨by rfl, ?_⟩) (by assumption) ?_
        rotate_left
        · (intro wS hSw; (try dsimp only at hSw); go_simp; (try with_reducible rfl))
        try simp only [Act.put, List.setIfInBounds_toArray, List.set_cons_zero, List.set_cons_succ]
        refine wpAnyH_take (i := 4) (oi := { dst := some 31, op := Op.move (Operand.tmp 9), type := 3, pos := "ref.go:26", after := #[], guard := none }) (v := ?_) rfl (by kernel_rfl) (by kernel_rfl) (by kernel_rfl) (fun _ _ _ h => h) (Or.inl ⟨by rfl, ?_⟩) (by assumption) ?_
        rotate_left
        · (intro wS hSw; (try dsimp only at hSw); go_simp; (try with_reducible rfl))
        try simp only [Act.put, List.setIfInBounds_toArray, List.set_cons_zero, List.set_cons_succ]
        refine wpAnyH_take (i := 5) (oi := { dst := some 32, op := Op.slice 23 (Operand.tmp 30) none (some (Operand.tmp 31)) none, type := 23, pos := "ref.go:26", after := #[{ on := 3, ground := Ground.data }, { on := 4, ground := Ground.data }], guard := none }) (v := ?_) rfl (by kernel_rfl) (by kernel_rfl) (by kernel_rfl) (fun _ _ _ h => h) (Or.inl ⟨by rfl, ?_⟩) (by assumption) ?_
        rotate_left
        · (intro wS hSw; (try dsimp only at hSw); go_simp; (try with_reducible rfl))
        try simp only [Act.put, List.setIfInBounds_toArray, List.set_cons_zero, List.set_cons_succ]
        refine wpAnyH_ready (rs := [6]) (by kernel_rfl) (by simp) ?_
        refine AllReadyH.cons (o := { dst := some 33, op := Op.call { callee := Callee.value (Operand.func 18), args := #[Operand.tmp 29, Operand.tmp 32], argTypes := #[22, 23] }, type := 3, pos := "ref.go:26", after := #[{ on := 2, ground := Ground.data }, { on := 5, ground := Ground.data }], guard := none }) rfl (fun K hK => ?_) AllReadyH.nil
        go_simp
        (go_at_call 18; refine (rLeast_len ws may M em2 em3 A2 A3 c2 c3 _ (h2'.held hHeld.2.1 hHeld.2.2) (h3'.held hHeld.2.1 hHeld.2.2) n2 n3 hw).mono ?_; rw [EL.out]; rintro e' w4 ⟨rfl, hb4⟩)
        go_wp2_with fail
        refine hK.out _ _ ?_ (fun hNew => ?_)
        · (first | exact ⟨hB3.drew, by simp, by simp⟩ | exact kept_step (by assumption) hb4)
        clear hK K hHeld
        have hHeld := hNew
        clear hNew
        try simp only [Act.put, List.setIfInBounds_toArray, List.set_cons_zero, List.set_cons_succ]
        refine wpAnyH_take (i := 7) (oi := { dst := some 10, op := Op.assign (Operand.tmp 33), type := 3, pos := "ref.go:26", after := #[{ on := 6, ground := Ground.data }, { on := 6, ground := Ground.chain }, { on := 0, ground := Ground.phase }, { on := 1, ground := Ground.phase }, { on := 2, ground := Ground.phase }, { on := 3, ground := Ground.phase }, { on := 4, ground := Ground.phase }, { on := 5, ground := Ground.phase }, { on := 6, ground := Ground.phase }], guard := none }) (v := ?_) rfl (by kernel_rfl) (by kernel_rfl) (by kernel_rfl) (fun _ _ _ h => h) (Or.inl ⟨by rfl, ?_⟩) (by assumption) ?_
        rotate_left
        · (intro wS hSw; (try dsimp only at hSw); go_simp; (try with_reducible rfl))
        try simp only [Act.put, List.setIfInBounds_toArray, List.set_cons_zero, List.set_cons_succ]
        refine wpAnyH_done (by kernel_rfl) ?_ _
        refine NoPanic.normal ?_
        have cl4 := (hHeld.2.2 b1 (o1 + j) (by have := hB3.size; omega)).trans cl3
        go_wp2
        go_ret
        exact ⟨rfl, hHeld.1⟩
  · have ED : Hid (decide (t < spreadI (ws.take M) (may.take M)) = false) := Lib.hid (by rw [hS]; exact decide_eq_false hdue)
    obtain rfl := cno hdue
    clear cno cneg cz cyes hS hdue
    go_enter Try.func13, Try.ntmps13
    go_upto_region 1 with fail
    go_cut [9] (fun s9 wx => s9 = .int .i64 M ∧ w = wx)
    case first =>
      go_wp2
      all_goals
        go_meet
        have := HEM.out
        unfold mlen3 at this
        refine ⟨?_, rfl⟩
        first
        | (have e1 : M = live.length := by omega
           exact congrArg (fun n : Nat => Value.int .i64 (n : Int)) e1.symm)
        | (have e1 : M = ws.length := by omega
           exact congrArg (fun n : Nat => Value.int .i64 (n : Int)) e1.symm)
        | (have e1 : M = may.length := by omega
           exact congrArg (fun n : Nat => Value.int .i64 (n : Int)) e1.symm)
    case rest =>
    obtain ⟨rfl, rfl⟩ := hcut
    go_wp2_with fail
    refine wp_region_noPanic ?_
    refine wp_region_held_drew (S := (fun w' => Below w.heap.size w w' ∧ w.heap.size ≤ w'.heap.size ∧ ∀ (k o : Nat), k < w.heap.size → w'.cell? ⟨k, o, none⟩ = w.cell? ⟨k, o, none⟩)) (by kernel_rfl) ?_ (fun hHeld => ?_)
    · (first | exact ⟨(Below.refl _ _).drew, by simp, by simp⟩ | exact kept_step (by assumption) hb3)
    refine wpAnyH_take (i := 0) (oi := { dst := some 18, op := Op.move (Operand.tmp 1), type := 22, pos := "ref.go:23", after := #[], guard := none }) (v := ?_) rfl (by kernel_rfl) (by kernel_rfl) (by kernel_rfl) (fun _ _ _ h => h) (Or.inl ⟨by rfl, ?_⟩) (by assumption) ?_
    rotate_left
    · (intro wS hSw; (try dsimp only at hSw); go_simp; (try with_reducible rfl))
    try simp only [Act.put, List.setIfInBounds_toArray, List.set_cons_zero, List.set_cons_succ]
    refine wpAnyH_take (i := 1) (oi := { dst := some 19, op := Op.move (Operand.tmp 9), type := 3, pos := "ref.go:23", after := #[], guard := none }) (v := ?_) rfl (by kernel_rfl) (by kernel_rfl) (by kernel_rfl) (fun _ _ _ h => h) (Or.inl ⟨by rfl, ?_⟩) (by assumption) ?_
    rotate_left
    · (intro wS hSw; (try dsimp only at hSw); go_simp; (try with_reducible rfl))
    try simp only [Act.put, List.setIfInBounds_toArray, List.set_cons_zero, List.set_cons_succ]
    refine wpAnyH_take (i := 2) (oi := { dst := some 20, op := Op.slice 22 (Operand.tmp 18) none (some (Operand.tmp 19)) none, type := 22, pos := "ref.go:23", after := #[{ on := 0, ground := Ground.data }, { on := 1, ground := Ground.data }], guard := none }) (v := ?_) rfl (by kernel_rfl) (by kernel_rfl) (by kernel_rfl) (fun _ _ _ h => h) (Or.inl ⟨by rfl, ?_⟩) (by assumption) ?_
    rotate_left
    · (intro wS hSw; (try dsimp only at hSw); go_simp; (try with_reducible rfl))
    try simp only [Act.put, List.setIfInBounds_toArray, List.set_cons_zero, List.set_cons_succ]
    refine wpAnyH_take (i := 3) (oi := { dst := some 21, op := Op.move (Operand.tmp 2), type := 23, pos := "ref.go:23", after := #[], guard := none }) (v := ?_) rfl (by kernel_rfl) (by kernel_rfl) (by kernel_rfl) (fun _ _ _ h => h) (Or.inl ⟨by rfl, ?_⟩) (by assumption) ?_
    rotate_left
    · (intro wS hSw; (try dsimp only at hSw); go_simp; (try with_reducible rfl))
    try simp only [Act.put, List.setIfInBounds_toArray, List.set_cons_zero, List.set_cons_succ]
    refine wpAnyH_take (i := 4) (oi := { dst := some 22, op := Op.move (Operand.tmp 9), type := 3, pos := "ref.go:23", after := #[], guard := none }) (v := ?_) rfl (by kernel_rfl) (by kernel_rfl) (by kernel_rfl) (fun _ _ _ h => h) (Or.inl ⟨by rfl, ?_⟩) (by assumption) ?_
    rotate_left
    · (intro wS hSw; (try dsimp only at hSw); go_simp; (try with_reducible rfl))
    try simp only [Act.put, List.setIfInBounds_toArray, List.set_cons_zero, List.set_cons_succ]
    refine wpAnyH_take (i := 5) (oi := { dst := some 23, op := Op.slice 23 (Operand.tmp 21) none (some (Operand.tmp 22)) none, type := 23, pos := "ref.go:23", after := #[{ on := 3, ground := Ground.data }, { on := 4, ground := Ground.data }], guard := none }) (v := ?_) rfl (by kernel_rfl) (by kernel_rfl) (by kernel_rfl) (fun _ _ _ h => h) (Or.inl ⟨by rfl, ?_⟩) (by assumption) ?_
    rotate_left
    · (intro wS hSw; (try dsimp only at hSw); go_simp; (try with_reducible rfl))
    try simp only [Act.put, List.setIfInBounds_toArray, List.set_cons_zero, List.set_cons_succ]
    refine wpAnyH_take (i := 6) (oi := { dst := some 24, op := Op.move (Operand.tmp 3), type := 3, pos := "ref.go:23", after := #[], guard := none }) (v := ?_) rfl (by kernel_rfl) (by kernel_rfl) (by kernel_rfl) (fun _ _ _ h => h) (Or.inl ⟨by rfl, ?_⟩) (by assumption) ?_
    rotate_left
    · (intro wS hSw; (try dsimp only at hSw); go_simp; (try with_reducible rfl))
    try simp only [Act.put, List.setIfInBounds_toArray, List.set_cons_zero, List.set_cons_succ]
    refine wpAnyH_ready (rs := [7]) (by kernel_rfl) (by simp) ?_
    refine AllReadyH.cons (o := { dst := some 25, op := Op.call { callee := Callee.value (Operand.func 19), args := #[Operand.tmp 20, Operand.tmp 23, Operand.tmp 24], argTypes := #[22, 23, 3] }, type := 4, pos := "ref.go:23", after := #[{ on := 2, ground := Ground.data }, { on := 5, ground := Ground.data }, { on := 6, ground := Ground.data }], guard := none }) rfl (fun K hK => ?_) AllReadyH.nil
    go_simp
    (go_at_call 19; refine (rDue_len ws may M em2 em3 A2 A3 c2 c3 t _ (h2.held hHeld.2.1 hHeld.2.2) (h3.held hHeld.2.1 hHeld.2.2) n2 n3 hw).mono ?_; rw [ED.out]; rintro e' w3 ⟨rfl, hb3⟩)
    go_wp2_with fail
    refine hK.out _ _ ?_ (fun hNew => ?_)
    · (first | exact ⟨(Below.refl _ _).drew, by simp, by simp⟩ | exact kept_step (by assumption) hb3)
    clear hK K hHeld
    have hHeld := hNew
    clear hNew
    try simp only [Act.put, List.setIfInBounds_toArray, List.set_cons_zero, List.set_cons_succ]
    refine wpAnyH_take (i := 8) (oi := { dst := some 26, op := Op.unOp UnOp.not 4 (Operand.tmp 25), type := 4, pos := "ref.go:23", after := #[{ on := 7, ground := Ground.data }], guard := none }) (v := ?_) rfl (by kernel_rfl) (by kernel_rfl) (by kernel_rfl) (fun _ _ _ h => h) (Or.inl ⟨by rfl, ?_⟩) (by assumption) ?_
    rotate_left
    · (intro wS hSw; (try dsimp only at hSw); go_simp; (try with_reducible rfl))
    try simp only [Act.put, List.setIfInBounds_toArray, List.set_cons_zero, List.set_cons_succ]
    refine wpAnyH_done (by kernel_rfl) ?_ _
    refine NoPanic.normal ?_
    go_wp2
    go_ret
    exact ⟨rfl, hHeld.1⟩

end Go.Proofs.Ytlabkkmpllccoaa
