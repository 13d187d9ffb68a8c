/- sameRows, Count with a capacity. -/
import Derived.Test.YtnbiioighjdkjaaDoorRaX
import Derived.Test.YtnbiioighjdkjaaDoorRaV
import Derived.Test.YtnbiioighjdkjaaDoorRaQ
import Derived.Test.YtnbiioighjdkjaaDoorRaN
namespace Go.Proofs.YtnbiioighjdkjaaDoor
open Go.ChangeShapes Go.WideShapes Go.ChangeAt Go.RowKit
set_option linter.unusedSimpArgs false
set_option linter.unusedVariables false

set_option maxRecDepth 100000 in
set_option maxHeartbeats 4000000 in
theorem samerows_c (f : Nat → Nat) (H g1 g2 c1 c2 : Nat) (w : World) (hH : H ≤ 64) (h1 : RowT w g1 29 (rowsV f H)) (h2 : RowT w g2 29 (rowsV f H)) : Calls Tryd.prog 9 #[.slice (some ⟨g1, 0, none⟩) H c1, .slice (some ⟨g2, 0, none⟩) H c2] w fun e' w' => e' = .returned (.bool true) ∧ Below w.heap.size w w' := by
  have H1 := Lib.hid h1
  have H2 := Lib.hid h2
  have l1 := h1.lt
  have l2 := h2.lt
  clear h1 h2
  go_enter Tryd.func9, Tryd.ntmps9
  go_wp2
  go_loopw [5] (fun s5 wr => ∃ k : Nat, k ≤ H ∧ s5 = .int .i64 (k : Int) ∧ Below w.heap.size w wr) (fun s5 _ => H - (intOf s5).toNat)
  case atStart => exact ⟨0, Nat.zero_le _, rfl, Below.refl _ _⟩
  case round =>
    obtain ⟨k, hk, rfl, hB⟩ := hrel
    by_cases hlt : k < H
    · have cx : wr.cell? ⟨g1, k, none⟩ = some (.int .u64 ((f k : Nat) : Int)) := (hB.cell (p := ⟨g1, k, none⟩) l1).trans (H1.out.cell_ (rowsV_at f H k hlt))
      have cy : wr.cell? ⟨g2, k, none⟩ = some (.int .u64 ((f k : Nat) : Int)) := (hB.cell (p := ⟨g2, k, none⟩) l2).trans (H2.out.cell_ (rowsV_at f H k hlt))
      have k0 : (0 : Int) ≤ (k : Int) := by omega
      have k1 : (k : Int) < (H : Int) := by omega
      go_upto_region 6 with fail
      refine wp_region_noPanic ?_
      refine wp_region_held_drew (S := (fun w' => w'.cell? ⟨g1, k, none⟩ = some (.int .u64 ((f k : Nat) : Int)) ∧ w'.cell? ⟨g2, k, none⟩ = some (.int .u64 ((f k : Nat) : Int)))) (by kernel_rfl) ?_ (fun hHeld => ?_)
      · (first | exact ⟨cx, cy⟩ | assumption)
      refine wpAnyH_take (i := 0) (oi := { dst := some 17, op := Op.move (Operand.tmp 0), type := 22, pos := "law.go:29", after := #[], guard := none }) (v := ?_) rfl (by kernel_rfl) (by kernel_rfl) (by kernel_rfl) (fun _ _ _ h => h) (Or.inl ⟨by rfl, ?_⟩) (by assumption) ?_
      rotate_left
      · (intro wS hSw; (try dsimp only at hSw); go_simp; (try with_reducible rfl))
      try simp only [Act.put, List.setIfInBounds_toArray, List.set_cons_zero, List.set_cons_succ]
      refine wpAnyH_take (i := 1) (oi := { dst := some 18, op := Op.move (Operand.tmp 5), type := 3, pos := "law.go:29", after := #[], guard := none }) (v := ?_) rfl (by kernel_rfl) (by kernel_rfl) (by kernel_rfl) (fun _ _ _ h => h) (Or.inl ⟨by rfl, ?_⟩) (by assumption) ?_
      rotate_left
      · (intro wS hSw; (try dsimp only at hSw); go_simp; (try with_reducible rfl))
      try simp only [Act.put, List.setIfInBounds_toArray, List.set_cons_zero, List.set_cons_succ]
      refine wpAnyH_take (i := 2) (oi := { dst := some 19, op := Op.indexAddr 22 (Operand.tmp 17) (Operand.tmp 18), type := 0, pos := "law.go:29", after := #[{ on := 0, ground := Ground.data }, { on := 1, ground := Ground.data }], guard := none }) (v := ?_) rfl (by kernel_rfl) (by kernel_rfl) (by kernel_rfl) (fun _ _ _ h => h) (Or.inl ⟨by rfl, ?_⟩) (by assumption) ?_
      rotate_left
      · (intro wS hSw; (try dsimp only at hSw); go_simp; (try with_reducible rfl))
      try simp only [Act.put, List.setIfInBounds_toArray, List.set_cons_zero, List.set_cons_succ]
      refine wpAnyH_take (i := 3) (oi := { dst := some 20, op := Op.load 29 (Operand.tmp 19), type := 29, pos := "law.go:29", after := #[{ on := 2, ground := Ground.data }], guard := none }) (v := ?_) rfl (by kernel_rfl) (by kernel_rfl) (by kernel_rfl) (fun _ _ _ h => h) (Or.inl ⟨by rfl, ?_⟩) (by assumption) ?_
      rotate_left
      · (intro wS hSw; (try dsimp only at hSw); go_simp; (try with_reducible rfl))
      try simp only [Act.put, List.setIfInBounds_toArray, List.set_cons_zero, List.set_cons_succ]
      refine wpAnyH_take (i := 4) (oi := { dst := some 21, op := Op.move (Operand.tmp 1), type := 22, pos := "law.go:29", after := #[], guard := none }) (v := ?_) rfl (by kernel_rfl) (by kernel_rfl) (by kernel_rfl) (fun _ _ _ h => h) (Or.inl ⟨by rfl, ?_⟩) (by assumption) ?_
      rotate_left
      · (intro wS hSw; (try dsimp only at hSw); go_simp; (try with_reducible rfl))
      try simp only [Act.put, List.setIfInBounds_toArray, List.set_cons_zero, List.set_cons_succ]
      refine wpAnyH_take (i := 5) (oi := { dst := some 22, op := Op.move (Operand.tmp 5), type := 3, pos := "law.go:29", after := #[], guard := none }) (v := ?_) rfl (by kernel_rfl) (by kernel_rfl) (by kernel_rfl) (fun _ _ _ h => h) (Or.inl ⟨by rfl, ?_⟩) (by assumption) ?_
      rotate_left
      · (intro wS hSw; (try dsimp only at hSw); go_simp; (try with_reducible rfl))
      try simp only [Act.put, List.setIfInBounds_toArray, List.set_cons_zero, List.set_cons_succ]
      refine wpAnyH_take (i := 6) (oi := { dst := some 23, op := Op.indexAddr 22 (Operand.tmp 21) (Operand.tmp 22), type := 0, pos := "law.go:29", after := #[{ on := 4, ground := Ground.data }, { on := 5, ground := Ground.data }], guard := none }) (v := ?_) rfl (by kernel_rfl) (by kernel_rfl) (by kernel_rfl) (fun _ _ _ h => h) (Or.inl ⟨by rfl, ?_⟩) (by assumption) ?_
      rotate_left
      · (intro wS hSw; (try dsimp only at hSw); go_simp; (try with_reducible rfl))
      try simp only [Act.put, List.setIfInBounds_toArray, List.set_cons_zero, List.set_cons_succ]
      refine wpAnyH_take (i := 7) (oi := { dst := some 24, op := Op.load 29 (Operand.tmp 23), type := 29, pos := "law.go:29", after := #[{ on := 6, ground := Ground.data }], guard := none }) (v := ?_) rfl (by kernel_rfl) (by kernel_rfl) (by kernel_rfl) (fun _ _ _ h => h) (Or.inl ⟨by rfl, ?_⟩) (by assumption) ?_
      rotate_left
      · (intro wS hSw; (try dsimp only at hSw); go_simp; (try with_reducible rfl))
      try simp only [Act.put, List.setIfInBounds_toArray, List.set_cons_zero, List.set_cons_succ]
      refine wpAnyH_take (i := 8) (oi := { dst := some 25, op := Op.binOp BinOp.neq 29 (Operand.tmp 20) (Operand.tmp 24) 29, type := 4, pos := "law.go:29", after := #[{ on := 3, ground := Ground.data }, { on := 7, ground := Ground.data }], guard := none }) (v := ?_) rfl (by kernel_rfl) (by kernel_rfl) (by kernel_rfl) (fun _ _ _ h => h) (Or.inl ⟨by rfl, ?_⟩) (by assumption) ?_
      rotate_left
      · (intro wS hSw; (try dsimp only at hSw); go_simp; (try with_reducible rfl))
      try simp only [Act.put, List.setIfInBounds_toArray, List.set_cons_zero, List.set_cons_succ]
      refine wpAnyH_done (by kernel_rfl) ?_ _
      refine NoPanic.normal ?_
      go_wp2_with fail
      go_roundw
      case rel => exact ⟨k + 1, by omega, by go_num, (by first | exact hB | exact hB.drew)⟩
      case measure => simp [intOf]; omega
    · obtain rfl : k = H := by omega
      go_wp2
      go_ret
      exact ⟨rfl, hB⟩
set_option maxRecDepth 100000 in
set_option maxHeartbeats 4000000 in
theorem count_c (f : Nat → Nat) (H gr cc : Nat) (S : Nat) (w : World) (hH : H ≤ 64) (hR : RowT w gr 29 (rowsV f H)) (hf : Hid (∀ y, f y < 18446744073709551616)) (hS : Hid (sumN (fun y => popN (f y)) H = S)) : Calls Tryd.prog 11 #[.slice (some ⟨gr, 0, none⟩) H cc] w fun e' w' => e' = .returned (.int .i64 (S : Int)) ∧ w = w' := by
  have HR := Lib.hid hR
  clear hR
  go_enter Tryd.func11, Tryd.ntmps11
  go_wp2
  go_loopw [3, 8] (fun s3 s8 wr => ∃ (i m : Nat), i ≤ H ∧ s8 = .int .i64 (i : Int) ∧ s3 = .int .i64 (m : Int) ∧ Hid (sumN (fun y => popN (f y)) i = m) ∧ wr = w) (fun _ s8 _ => H - (intOf s8).toNat)
  case atStart => exact ⟨0, 0, by omega, rfl, rfl, Lib.hid rfl, (by first | rfl | trivial)⟩
  case round =>
    obtain ⟨i, m, hi, rfl, rfl, hm, rfl⟩ := hrel
    by_cases hlt : i < H
    · have c0 : wr.cell? ⟨gr, i, none⟩ = some (.int .u64 ((f i : Nat) : Int)) := HR.out.cell_ (rowsV_at f H i hlt)
      have i0 : (0 : Int) ≤ (i : Int) := by omega
      have i1 : (i : Int) < (H : Int) := by omega
      obtain ⟨p, hp⟩ : ∃ p, popN (f i) = p := ⟨_, rfl⟩
      have hp64 : p ≤ 64 := by rw [← hp]; exact popN_le _
      have hm64 : m ≤ 4096 := by
        have := sumN_bd (fun y => popN (f y)) 64 i (fun y => popN_le _)
        rw [hm.out] at this
        omega
      have HM : Hid (sumN (fun y => popN (f y)) (i + 1) = m + p) := Lib.hid (by rw [← hm.out, ← hp]; rfl)
      have HP := Lib.hid hp
      clear hp hm
      go_wp2_with (go_at_call 23; refine (ones_any (f i) _ (hf.out i)).mono ?_; rw [HP.out]; rintro e' wN ⟨rfl, rfl⟩)
      go_roundw
      case rel => exact ⟨i + 1, m + p, by omega, by go_num, (by first | rfl | go_num | simp), HM, (by first | rfl | trivial)⟩
      case measure => simp [intOf]; omega
    · obtain rfl : i = H := by omega
      obtain rfl : m = S := by rw [← hm.out, ← hS.out]
      go_wp2
      go_ret
      exact ⟨rfl, rfl⟩

theorem dbTab_below {w w' : World} (h : DbTab w) (h0 : 0 < w.heap.size) (hb : Below w.heap.size w w') : DbTab w' := fun k z hk => (hb.cell (p := ⟨0, k, none⟩) h0).trans (h k z hk)
theorem first_ex (f : Nat → Nat) : ∀ n, orN f n ≠ 0 → ∃ y, First f n y
  | 0, h => absurd rfl h
  | n + 1, h => by
    by_cases q : orN f n = 0
    · have hn : f n ≠ 0 := fun e => h (by unfold orN; rw [q, e]; rfl)
      refine ⟨n, hn, by omega, fun j hj => ?_⟩
      cases Nat.eq_zero_or_pos (f j) with
      | inl e => exact e
      | inr e =>
        obtain ⟨b, hb⟩ := some_bit (by omega : f j ≠ 0)
        have := (orN_bit f b n).2 ⟨j, hj, hb⟩
        rw [q, Nat.zero_testBit] at this
        cases this
    · obtain ⟨y, h1, h2, h3⟩ := first_ex f n q
      exact ⟨y, h1, by omega, h3⟩
theorem last_ex (f : Nat → Nat) : ∀ n, orN f n ≠ 0 → ∃ y, Last f n y
  | 0, h => absurd rfl h
  | n + 1, h => by
    by_cases q : f n = 0
    · have hn : orN f n ≠ 0 := fun e => h (by unfold orN; rw [q, e]; rfl)
      obtain ⟨y, h1, h2, h3⟩ := last_ex f n hn
      refine ⟨y, h1, by omega, fun j a b => ?_⟩
      by_cases e : j = n
      · rw [e]; exact q
      · exact h3 j a (by omega)
    · exact ⟨n, q, by omega, fun j a b => by omega⟩
theorem box_ex (f : Nat → Nat) (n : Nat) (h : orN f n ≠ 0) : ∃ x0 y0 x1 y1, BoxIs f n x0 y0 x1 y1 := by
  obtain ⟨y0, a⟩ := first_ex f n h
  obtain ⟨y1, b⟩ := last_ex f n h
  obtain ⟨bb, hbb⟩ := some_bit h
  obtain ⟨x0, _, c⟩ := low_find (orN f n) (bb + 1) ⟨bb, by omega, hbb⟩
  exact ⟨x0, y0, (orN f n).log2, y1, a, b, c, high_log h⟩
end Go.Proofs.YtnbiioighjdkjaaDoor
