/- Chapter 8's own Read. -/
import Derived.Test.YtjmochkhdapmiaaTagRM
namespace Go.Proofs.Ytjmochkhdapmiaa
open Go.ChangeShapes Go.WideShapes Go.ChangeAt Go.RowKit
attribute [local go_sem ↓] Go.wp_at_zero Go.wp_at_succ
set_option linter.unusedSimpArgs false
set_option linter.unusedVariables false

theorem rlay_no_n (data : List Nat) (n : Nat) (hn : data.length = n) (A : Option Addr) (c : Nat) (k p s e : Int) (w : World) (hno : tagB k p s e = false) (n1 : data.length ≤ 1000000) :
    Calls Try.prog 12 #[.slice A n c, .agg #[.int .i64 k, .int .i64 p, .int .i64 s, .int .i64 e]] w fun e' w' => e' = .returned (.tuple #[.slice none 0 0, .int .i64 2]) ∧ Below w.heap.size w w' := by
  subst hn
  exact rlay_no data A c k p s e w (Or.inr hno) n1
theorem rlay_yes_n (data : List Nat) (n : Nat) (hn : data.length = n) (A : Option Addr) (c : Nat) (k p s e : Nat) (w : World) (h1 : Sl w w.heap.size A (data.map byteV)) (h : LayOk data k p s e) :
    Calls Try.prog 12 #[.slice A n c, .agg #[.int .i64 k, .int .i64 p, .int .i64 s, .int .i64 e]] w fun e' w' => ∃ A' c', e' = .returned (.tuple #[.slice A' (n + 16) c', .int .i64 0]) ∧ Sl w' w'.heap.size A' ((rawB data k p s e).map byteV) ∧ Below w.heap.size w w' := by
  subst hn
  refine (rlay_yes data A c k p s e w h1 h).mono fun e' w' ⟨sv, he, ho, hb⟩ => ?_
  obtain ⟨A', c', rfl, hl, -, -, -, hs⟩ := own_slice ho
  exact ⟨A', c', he, hs, hb⟩

theorem rread_len (bs : List Nat) (A : Option Addr) (c : Nat) (w : World) (hl : ¬ (40 ≤ bs.length ∧ bs.length ≤ 80)) (n1 : bs.length ≤ 1000000) :
    Calls Try.prog 20 #[.slice A bs.length c] w fun e' w' => e' = .returned (.tuple #[.slice none 0 0, .agg #[.int .i64 0, .int .i64 0, .int .i64 0, .int .i64 0], .int .i64 2]) ∧ Below w.heap.size w w' := by
  by_cases h1 : bs.length < 40
  · have q1 : (bs.length : Int) - 16 < 24 := by omega
    have q2 : (bs.length : Int) ≤ 1000000 := by omega
    clear hl h1 n1
    go_enter Try.func20, Try.ntmps20
    go_wp2
    exact bodyPost_ret (v := .tuple #[.slice none 0 0, .agg #[.int .i64 0, .int .i64 0, .int .i64 0, .int .i64 0], .int .i64 2]) (by simp [results, Try.results20, go_sem]) rfl ⟨rfl, (Below.refl _ _).alloc (Nat.le_refl _) _⟩
  · have q1 : ¬ (bs.length : Int) - 16 < 24 := by omega
    have q2 : (64 : Int) < (bs.length : Int) - 16 := by omega
    have q3 : (bs.length : Int) ≤ 1000000 := by omega
    clear hl h1 n1
    go_enter Try.func20, Try.ntmps20
    go_wp2
    exact bodyPost_ret (v := .tuple #[.slice none 0 0, .agg #[.int .i64 0, .int .i64 0, .int .i64 0, .int .i64 0], .int .i64 2]) (by simp [results, Try.results20, go_sem]) rfl ⟨rfl, (Below.refl _ _).alloc (Nat.le_refl _) _⟩

set_option maxRecDepth 100000 in
set_option maxHeartbeats 8000000 in
theorem rread_in (bs : List Nat) (n b o c : Nat) (w : World) (h1 : Sl w w.heap.size (some ⟨b, o, none⟩) (bs.map byteV)) (h8 : Bytes8 bs) (hl : bs.length = n + 16) (hn1 : 24 ≤ n) (hn2 : n ≤ 64) (hc : n + 16 ≤ c) (hc2 : c ≤ maxLen)
    (Ka Pa Sa Ea : Nat) (hK : tK (bs.drop n) = Ka) (hP : tP (bs.drop n) = Pa) (hS : tS (bs.drop n) = Sa) (hE : tE (bs.drop n) = Ea) (r : Bool) (hr : (tagB Ka Pa Sa Ea && decide (rawB (bs.take n) Ka Pa Sa Ea = bs)) = r) (st : Int) (hst : (if blankB bs = true then 0 else 2) = st) :
    Calls Try.prog 20 #[.slice (some ⟨b, o, none⟩) (n + 16) c] w fun e' w' =>
      (r = false → e' = .returned (.tuple #[.slice none 0 0, .agg #[.int .i64 0, .int .i64 0, .int .i64 0, .int .i64 0], .int .i64 st])) ∧
      (r = true → ∃ sv, e' = .returned (.tuple #[sv, .agg #[.int .i64 (Ka : Nat), .int .i64 (Pa : Nat), .int .i64 (Sa : Nat), .int .i64 (Ea : Nat)], .int .i64 1]) ∧ w'.ownsRow (w.heap.size + 1) 5 1 sv n ((bs.take n).map byteV)) ∧ Below w.heap.size w w' := by
  unfold maxLen at hc2
  obtain ⟨b', o', hA, lb, q⟩ := h1.at_ (by simp; omega)
  cases hA
  have htl : Sl w w.heap.size (some ⟨b, o + n, none⟩) ((bs.drop n).map byteV) := by have := sl_sub h1 n 16; rwa [← List.map_drop, List.take_of_length_le (by simp; omega)] at this
  have HL := Lib.hid hl
  have HTL : Hid ((bs.drop n).length = 16) := Lib.hid (by simp; omega)
  have h8t : Bytes8 (bs.drop n) := fun x hx => h8 x (List.mem_of_mem_drop hx)
  have HLT : Hid ((bs.take n).length = n) := Lib.hid (by simp; omega)
  have q0 : ¬ (n : Int) < 24 := by omega
  have q00 : ¬ (64 : Int) < (n : Int) := by omega
  have i0 : (0 : Int) ≤ (n : Int) := by omega
  have i2 : (n : Int) ≤ 64 := by omega
  have i3 : (n : Int) ≤ (c : Int) := by omega
  have i4 : ¬ c = n := by omega
  have hR := Lib.hid hr
  have HST := Lib.hid hst
  have HK := Lib.hid hK
  have HP := Lib.hid hP
  have HS := Lib.hid hS
  have HE := Lib.hid hE
  have HC2 := Lib.hid hc2
  obtain ⟨cx, hcx⟩ : ∃ x, c - n = x := ⟨_, rfl⟩
  have hcc : (16 : Int) ≤ (cx : Int) := by omega
  have HCX := Lib.hid hcx
  clear hst hl hr hK hP hS hE hc2 hcx
  go_enter Try.func20, Try.ntmps20
  go_upto_region 4 with fail
  go_cut [6] (fun s wx => s = .slice (some ⟨b, o + n, none⟩) 16 cx ∧ Blk wx w.heap.size 24 #[.int .i64 0, .int .i64 0, .int .i64 0, .int .i64 0] ∧ Below w.heap.size w wx ∧ wx.heap.size = w.heap.size + 1)
  case first =>
    go_wp2
    go_meet
    exact ⟨by rw [HCX.out], Blk.new_ _ _ _, (Below.refl _ _).alloc (Nat.le_refl _) _, by simp⟩
  case rest =>
  obtain ⟨rfl, HZ1, HB1, hz1⟩ := hcut
  obtain ⟨w1, rfl⟩ : ∃ W : World, W = wc := ⟨_, rfl⟩
  have H1 := h1.next HB1
  have TL1 := htl.next HB1
  have hzb : w.heap.size < w1.heap.size := by omega
  have HZZ := Lib.hid hz1
  clear hz1 h1 htl
  have lb1 : b < w1.heap.size := by omega
  have c1 : w1.cell? ⟨b, o + n + 1, none⟩ = some (.int .u8 (Ka : Nat)) := (HB1.cell (p := ⟨b, o + n + 1, none⟩) lb).trans (by
    have hl := HL.out
    rw [Nat.add_assoc]
    refine q (n + 1) _ ?_
    have := HK.out
    unfold tK at this
    rw [List.getElem?_map, List.getElem?_eq_getElem (by omega)]
    simp only [List.getD_eq_getElem?_getD, List.getElem?_drop] at this
    rw [List.getElem?_eq_getElem (by omega)] at this
    simp at this
    simp [byteV, this])
  have hk8 : Ka < 256 := by rw [← HK.out]; exact Bytes8.at_ h8t 1
  have k1 : ((Ka : Nat) : Int) < 256 := by omega
  have k0 : (0 : Int) ≤ ((Ka : Nat) : Int) := by omega
  have P1 : Sl w1 w1.heap.size (some ⟨b, o + n + 2, none⟩) ((part (bs.drop n) 2 2).map byteV) := by rw [part_map]; exact sl_sub TL1 2 2
  have P2 : Sl w1 w1.heap.size (some ⟨b, o + n + 4, none⟩) ((part (bs.drop n) 4 4).map byteV) := by rw [part_map]; exact sl_sub TL1 4 4
  have P3 : Sl w1 w1.heap.size (some ⟨b, o + n + 8, none⟩) ((part (bs.drop n) 8 3).map byteV) := by rw [part_map]; exact sl_sub TL1 8 3
  have L1 : Hid ((part (bs.drop n) 2 2).length = 2) := Lib.hid (part_len (by have := HTL.out; omega))
  have L2 : Hid ((part (bs.drop n) 4 4).length = 4) := Lib.hid (part_len (by have := HTL.out; omega))
  have L3 : Hid ((part (bs.drop n) 8 3).length = 3) := Lib.hid (part_len (by have := HTL.out; omega))
  have q4 : (4 : Int) ≤ (cx : Int) := by omega
  have q8 : (8 : Int) ≤ (cx : Int) := by omega
  have q11 : (11 : Int) ≤ (cx : Int) := by omega
  have n2 : ¬ cx = 2 := by omega
  have n4 : ¬ cx = 4 := by omega
  have n8 : ¬ cx = 8 := by omega
  have ww : IntKind.i64.wrap ((Ka : Nat) : Int) = ((Ka : Nat) : Int) := IntWalk.i64_in _ (by omega)
  clear q lb
  go_upto_region 5 with fail
  go_cut [7] (fun s wx => s = .pointer (some ⟨w1.heap.size, 0, none⟩) ∧ Blk wx w1.heap.size 24 #[.int .i64 (Ka : Nat), .int .i64 (Pa : Nat), .int .i64 (Sa : Nat), .int .i64 (Ea : Nat)] ∧ Below w1.heap.size w1 wx ∧ w1.heap.size < wx.heap.size)
  case first =>
    refine wp_region_noPanic ?_
    refine wp_region_held_drew (S := (fun w' => Below w1.heap.size w1 w' ∧ w1.heap.size ≤ w'.heap.size ∧ ∀ (k o : Nat), k < w1.heap.size → w'.cell? ⟨k, o, none⟩ = w1.cell? ⟨k, o, none⟩)) (by kernel_rfl) ?_ (fun hHeld => ?_)
    · (first | assumption | exact held_of (Below.refl _ _).drew | exact held_of (hHeld.1.alloc hHeld.2.1 _) | exact held_of ((Below.refl _ _).alloc (Nat.le_refl _) _).drew)
    refine wpAnyH_take (i := 0) (oi := { dst := some 24, op := Op.move (Operand.tmp 6), type := 22, pos := "ref.go:49", after := #[], guard := none }) (v := ?_) rfl (by kernel_rfl) (by kernel_rfl) (by kernel_rfl) (fun _ _ _ h => h) (Or.inl ⟨by rfl, ?_⟩) (by assumption) ?_
    rotate_left
    · (intro wS hSw; (try dsimp only at hSw); go_simp; (try with_reducible rfl))
    try simp only [Act.put, List.setIfInBounds_toArray, List.set_cons_zero, List.set_cons_succ]
    refine wpAnyH_take (i := 1) (oi := { dst := some 25, op := Op.indexAddr 22 (Operand.tmp 24) (Operand.const (Value.int IntKind.i64 1)), type := 0, pos := "ref.go:49", after := #[{ on := 0, ground := Ground.data }], guard := none }) (v := ?_) rfl (by kernel_rfl) (by kernel_rfl) (by kernel_rfl) (fun _ _ _ h => h) (Or.inl ⟨by rfl, ?_⟩) (by assumption) ?_
    rotate_left
    · (intro wS hSw; (try dsimp only at hSw); go_simp; (try with_reducible rfl))
    try simp only [Act.put, List.setIfInBounds_toArray, List.set_cons_zero, List.set_cons_succ]
    refine wpAnyH_take (i := 2) (oi := { dst := some 26, op := Op.load 5 (Operand.tmp 25), type := 5, pos := "ref.go:49", after := #[{ on := 1, ground := Ground.data }], guard := none }) (v := ?_) rfl (by kernel_rfl) (by kernel_rfl) (by kernel_rfl) (fun _ _ _ h => h) (Or.inl ⟨by rfl, ?_⟩) (by assumption) ?_
    rotate_left
    · (intro wS hSw; (try dsimp only at hSw); go_simp; (try with_reducible rfl))
    try simp only [Act.put, List.setIfInBounds_toArray, List.set_cons_zero, List.set_cons_succ]
    refine wpAnyH_take (i := 3) (oi := { dst := some 27, op := Op.convert 5 3 (Operand.tmp 26), type := 3, pos := "ref.go:49", after := #[{ on := 2, ground := Ground.data }], guard := none }) (v := ?_) rfl (by kernel_rfl) (by kernel_rfl) (by kernel_rfl) (fun _ _ _ h => h) (Or.inl ⟨by rfl, ?_⟩) (by assumption) ?_
    rotate_left
    · (intro wS hSw; (try dsimp only at hSw); go_simp; (try with_reducible rfl))
    try simp only [Act.put, List.setIfInBounds_toArray, List.set_cons_zero, List.set_cons_succ]
    refine wpAnyH_take (i := 4) (oi := { dst := some 28, op := Op.move (Operand.tmp 6), type := 22, pos := "ref.go:49", after := #[], guard := none }) (v := ?_) rfl (by kernel_rfl) (by kernel_rfl) (by kernel_rfl) (fun _ _ _ h => h) (Or.inl ⟨by rfl, ?_⟩) (by assumption) ?_
    rotate_left
    · (intro wS hSw; (try dsimp only at hSw); go_simp; (try with_reducible rfl))
    try simp only [Act.put, List.setIfInBounds_toArray, List.set_cons_zero, List.set_cons_succ]
    refine wpAnyH_take (i := 5) (oi := { dst := some 29, op := Op.slice 22 (Operand.tmp 28) (some (Operand.const (Value.int IntKind.i64 2))) (some (Operand.const (Value.int IntKind.i64 4))) none, type := 22, pos := "ref.go:49", after := #[{ on := 4, ground := Ground.data }], guard := none }) (v := ?_) rfl (by kernel_rfl) (by kernel_rfl) (by kernel_rfl) (fun _ _ _ h => h) (Or.inl ⟨by rfl, ?_⟩) (by assumption) ?_
    rotate_left
    · (intro wS hSw; (try dsimp only at hSw); go_simp; (try with_reducible rfl))
    try simp only [Act.put, List.setIfInBounds_toArray, List.set_cons_zero, List.set_cons_succ]
    refine wpAnyH_take (i := 7) (oi := { dst := some 31, op := Op.move (Operand.tmp 6), type := 22, pos := "ref.go:49", after := #[], guard := none }) (v := ?_) rfl (by kernel_rfl) (by kernel_rfl) (by kernel_rfl) (fun _ _ _ h => h) (Or.inl ⟨by rfl, ?_⟩) (by assumption) ?_
    rotate_left
    · (intro wS hSw; (try dsimp only at hSw); go_simp; (try with_reducible rfl))
    try simp only [Act.put, List.setIfInBounds_toArray, List.set_cons_zero, List.set_cons_succ]
    refine wpAnyH_take (i := 8) (oi := { dst := some 32, op := Op.slice 22 (Operand.tmp 31) (some (Operand.const (Value.int IntKind.i64 4))) (some (Operand.const (Value.int IntKind.i64 8))) none, type := 22, pos := "ref.go:49", after := #[{ on := 7, ground := Ground.data }], guard := none }) (v := ?_) rfl (by kernel_rfl) (by kernel_rfl) (by kernel_rfl) (fun _ _ _ h => h) (Or.inl ⟨by rfl, ?_⟩) (by assumption) ?_
    rotate_left
    · (intro wS hSw; (try dsimp only at hSw); go_simp; (try with_reducible rfl))
    try simp only [Act.put, List.setIfInBounds_toArray, List.set_cons_zero, List.set_cons_succ]
    refine wpAnyH_take (i := 10) (oi := { dst := some 34, op := Op.move (Operand.tmp 6), type := 22, pos := "ref.go:49", after := #[], guard := none }) (v := ?_) rfl (by kernel_rfl) (by kernel_rfl) (by kernel_rfl) (fun _ _ _ h => h) (Or.inl ⟨by rfl, ?_⟩) (by assumption) ?_
    rotate_left
    · (intro wS hSw; (try dsimp only at hSw); go_simp; (try with_reducible rfl))
    try simp only [Act.put, List.setIfInBounds_toArray, List.set_cons_zero, List.set_cons_succ]
    refine wpAnyH_take (i := 11) (oi := { dst := some 35, op := Op.slice 22 (Operand.tmp 34) (some (Operand.const (Value.int IntKind.i64 8))) (some (Operand.const (Value.int IntKind.i64 11))) none, type := 22, pos := "ref.go:49", after := #[{ on := 10, ground := Ground.data }], guard := none }) (v := ?_) rfl (by kernel_rfl) (by kernel_rfl) (by kernel_rfl) (fun _ _ _ h => h) (Or.inl ⟨by rfl, ?_⟩) (by assumption) ?_
    rotate_left
    · (intro wS hSw; (try dsimp only at hSw); go_simp; (try with_reducible rfl))
    try simp only [Act.put, List.setIfInBounds_toArray, List.set_cons_zero, List.set_cons_succ]
    refine wpAnyH_ready (rs := [6, 14]) (by kernel_rfl) (by simp) ?_
    refine (AllReadyH.cons (o := { dst := some 30, op := Op.call { callee := Callee.value (Operand.func 33), args := #[Operand.tmp 29], argTypes := #[22] }, type := 3, pos := "ref.go:49", after := #[{ on := 5, ground := Ground.data }], guard := none }) rfl (fun K hK => ?_) (AllReadyH.cons (o := { dst := some 7, op := Op.alloc 24, type := 0, pos := "ref.go:49", after := #[], guard := none }) rfl (fun K hK => ?_) AllReadyH.nil))
    · go_simp
      (first
            | (go_at_call 33; ((with_reducible refine (rget_n (part (bs.drop n) 2 2) 2 L1.out (some ⟨b, o + n + 2, none⟩) _ _ (P1.held hHeld.2.1 hHeld.2.2) (part_8 h8t _ _) (by omega)).mono ?_); rintro e' w3 ⟨rfl, rfl⟩))
            | (go_at_call 33; ((with_reducible refine (rget_n (part (bs.drop n) 4 4) 4 L2.out (some ⟨b, o + n + 4, none⟩) _ _ (P2.held hHeld.2.1 hHeld.2.2) (part_8 h8t _ _) (by omega)).mono ?_); rintro e' w3 ⟨rfl, rfl⟩))
            | (go_at_call 33; ((with_reducible refine (rget_n (part (bs.drop n) 8 3) 3 L3.out (some ⟨b, o + n + 8, none⟩) _ _ (P3.held hHeld.2.1 hHeld.2.2) (part_8 h8t _ _) (by omega)).mono ?_); rintro e' w3 ⟨rfl, rfl⟩)))
      go_wp2_with fail
      refine hK.out _ _ ?_ (fun hNew => ?_)
      · (first | assumption | exact held_of (Below.refl _ _).drew | exact held_of (hHeld.1.alloc hHeld.2.1 _) | exact held_of ((Below.refl _ _).alloc (Nat.le_refl _) _).drew)
      clear hK K hHeld
      have hHeld := hNew
      clear hNew
      try simp only [Act.put, List.setIfInBounds_toArray, List.set_cons_zero, List.set_cons_succ]
      refine wpAnyH_ready (rs := [9, 14]) (by kernel_rfl) (by simp) ?_
      refine (AllReadyH.cons (o := { dst := some 33, op := Op.call { callee := Callee.value (Operand.func 33), args := #[Operand.tmp 32], argTypes := #[22] }, type := 3, pos := "ref.go:49", after := #[{ on := 8, ground := Ground.data }, { on := 6, ground := Ground.chain }], guard := none }) rfl (fun K hK => ?_) (AllReadyH.cons (o := { dst := some 7, op := Op.alloc 24, type := 0, pos := "ref.go:49", after := #[], guard := none }) rfl (fun K hK => ?_) AllReadyH.nil))
      · go_simp
        (first
              | (go_at_call 33; ((with_reducible refine (rget_n (part (bs.drop n) 2 2) 2 L1.out (some ⟨b, o + n + 2, none⟩) _ _ (P1.held hHeld.2.1 hHeld.2.2) (part_8 h8t _ _) (by omega)).mono ?_); rintro e' w3 ⟨rfl, rfl⟩))
              | (go_at_call 33; ((with_reducible refine (rget_n (part (bs.drop n) 4 4) 4 L2.out (some ⟨b, o + n + 4, none⟩) _ _ (P2.held hHeld.2.1 hHeld.2.2) (part_8 h8t _ _) (by omega)).mono ?_); rintro e' w3 ⟨rfl, rfl⟩))
              | (go_at_call 33; ((with_reducible refine (rget_n (part (bs.drop n) 8 3) 3 L3.out (some ⟨b, o + n + 8, none⟩) _ _ (P3.held hHeld.2.1 hHeld.2.2) (part_8 h8t _ _) (by omega)).mono ?_); rintro e' w3 ⟨rfl, rfl⟩)))
        go_wp2_with fail
        refine hK.out _ _ ?_ (fun hNew => ?_)
        · (first | assumption | exact held_of (Below.refl _ _).drew | exact held_of (hHeld.1.alloc hHeld.2.1 _) | exact held_of ((Below.refl _ _).alloc (Nat.le_refl _) _).drew)
        clear hK K hHeld
        have hHeld := hNew
        clear hNew
        try simp only [Act.put, List.setIfInBounds_toArray, List.set_cons_zero, List.set_cons_succ]
        refine wpAnyH_ready (rs := [12, 14]) (by kernel_rfl) (by simp) ?_
        refine (AllReadyH.cons (o := { dst := some 36, op := Op.call { callee := Callee.value (Operand.func 33), args := #[Operand.tmp 35], argTypes := #[22] }, type := 3, pos := "ref.go:49", after := #[{ on := 11, ground := Ground.data }, { on := 9, ground := Ground.chain }], guard := none }) rfl (fun K hK => ?_) (AllReadyH.cons (o := { dst := some 7, op := Op.alloc 24, type := 0, pos := "ref.go:49", after := #[], guard := none }) rfl (fun K hK => ?_) AllReadyH.nil))
        · go_simp
          (first
                | (go_at_call 33; ((with_reducible refine (rget_n (part (bs.drop n) 2 2) 2 L1.out (some ⟨b, o + n + 2, none⟩) _ _ (P1.held hHeld.2.1 hHeld.2.2) (part_8 h8t _ _) (by omega)).mono ?_); rintro e' w3 ⟨rfl, rfl⟩))
                | (go_at_call 33; ((with_reducible refine (rget_n (part (bs.drop n) 4 4) 4 L2.out (some ⟨b, o + n + 4, none⟩) _ _ (P2.held hHeld.2.1 hHeld.2.2) (part_8 h8t _ _) (by omega)).mono ?_); rintro e' w3 ⟨rfl, rfl⟩))
                | (go_at_call 33; ((with_reducible refine (rget_n (part (bs.drop n) 8 3) 3 L3.out (some ⟨b, o + n + 8, none⟩) _ _ (P3.held hHeld.2.1 hHeld.2.2) (part_8 h8t _ _) (by omega)).mono ?_); rintro e' w3 ⟨rfl, rfl⟩)))
          go_wp2_with fail
          refine hK.out _ _ ?_ (fun hNew => ?_)
          · (first | assumption | exact held_of (Below.refl _ _).drew | exact held_of (hHeld.1.alloc hHeld.2.1 _) | exact held_of ((Below.refl _ _).alloc (Nat.le_refl _) _).drew)
          clear hK K hHeld
          have hHeld := hNew
          clear hNew
          try simp only [Act.put, List.setIfInBounds_toArray, List.set_cons_zero, List.set_cons_succ]
          refine wpAnyH_take (i := 13) (oi := { dst := some 37, op := Op.build 24 #[(0, Operand.tmp 27), (1, Operand.tmp 30), (2, Operand.tmp 33), (3, Operand.tmp 36)], type := 24, pos := "ref.go:49", after := #[{ on := 3, ground := Ground.data }, { on := 6, ground := Ground.data }, { on := 9, ground := Ground.data }, { on := 12, ground := Ground.data }], guard := none }) (v := ?_) rfl (by kernel_rfl) (by kernel_rfl) (by kernel_rfl) (fun _ _ _ h => h) (Or.inl ⟨by rfl, ?_⟩) (by assumption) ?_
          rotate_left
          · (intro wS hSw; (try dsimp only at hSw); go_simp; (try with_reducible rfl))
          try simp only [Act.put, List.setIfInBounds_toArray, List.set_cons_zero, List.set_cons_succ]
          refine wpAnyH_ready (rs := [14]) (by kernel_rfl) (by simp) ?_
          refine AllReadyH.cons (o := { dst := some 7, op := Op.alloc 24, type := 0, pos := "ref.go:49", after := #[], guard := none }) rfl (fun K hK => ?_) AllReadyH.nil
          go_simp
          refine hK.out _ _ ?_ (fun hNew => ?_)
          · (first | assumption | exact held_of (Below.refl _ _).drew | exact held_of (hHeld.1.alloc hHeld.2.1 _) | exact held_of ((Below.refl _ _).alloc (Nat.le_refl _) _).drew)
          clear hK K hHeld
          have hHeld := hNew
          clear hNew
          try simp only [Act.put, List.setIfInBounds_toArray, List.set_cons_zero, List.set_cons_succ]
          refine wpAnyH_ready (rs := [15]) (by kernel_rfl) (by simp) ?_
          refine AllReadyH.cons (o := { dst := none, op := Op.store 24 (Operand.tmp 7) (Operand.tmp 37), type := 0, pos := "ref.go:49", after := #[{ on := 14, ground := Ground.data }, { on := 13, ground := Ground.data }, { on := 12, ground := Ground.chain }, { on := 0, ground := Ground.phase }, { on := 1, ground := Ground.phase }, { on := 2, ground := Ground.phase }, { on := 3, ground := Ground.phase }, { on := 4, ground := Ground.phase }, { on := 5, ground := Ground.phase }, { on := 6, ground := Ground.phase }, { on := 7, ground := Ground.phase }, { on := 8, ground := Ground.phase }, { on := 9, ground := Ground.phase }, { on := 10, ground := Ground.phase }, { on := 11, ground := Ground.phase }, { on := 12, ground := Ground.phase }, { on := 13, ground := Ground.phase }, { on := 14, ground := Ground.phase }], guard := none }) rfl (fun K hK => ?_) AllReadyH.nil
          go_simp
          refine hK.out _ _ ?_ (fun hNew => ?_)
          · (first | assumption | exact held_of (Below.refl _ _).drew | exact held_of (hHeld.1.alloc hHeld.2.1 _) | exact held_of ((Below.refl _ _).alloc (Nat.le_refl _) _).drew)
          clear hK K hHeld
          have hHeld := hNew
          clear hNew
          try simp only [Act.put, List.setIfInBounds_toArray, List.set_cons_zero, List.set_cons_succ]
          refine wpAnyH_done (by kernel_rfl) ?_ _
          refine NoPanic.normal ?_
          go_wp2_with fail
          go_meet
          exact ⟨rfl, (by rw [← HP.out, ← HS.out, ← HE.out]; exact Blk.new_ w1 _ _), ((Below.refl _ _).alloc (Nat.le_refl _) _).drew, by simp⟩
        · go_simp
          refine hK.out _ _ ?_ (fun hNew => ?_)
          · (first | assumption | exact held_of (Below.refl _ _).drew | exact held_of (hHeld.1.alloc hHeld.2.1 _) | exact held_of ((Below.refl _ _).alloc (Nat.le_refl _) _).drew)
          clear hK K hHeld
          have hHeld := hNew
          clear hNew
          try simp only [Act.put, List.setIfInBounds_toArray, List.set_cons_zero, List.set_cons_succ]
          refine wpAnyH_ready (rs := [12]) (by kernel_rfl) (by simp) ?_
          refine AllReadyH.cons (o := { dst := some 36, op := Op.call { callee := Callee.value (Operand.func 33), args := #[Operand.tmp 35], argTypes := #[22] }, type := 3, pos := "ref.go:49", after := #[{ on := 11, ground := Ground.data }, { on := 9, ground := Ground.chain }], guard := none }) rfl (fun K hK => ?_) AllReadyH.nil
          go_simp
          (first
                | (go_at_call 33; ((with_reducible refine (rget_n (part (bs.drop n) 2 2) 2 L1.out (some ⟨b, o + n + 2, none⟩) _ _ (P1.held hHeld.2.1 hHeld.2.2) (part_8 h8t _ _) (by omega)).mono ?_); rintro e' w3 ⟨rfl, rfl⟩))
                | (go_at_call 33; ((with_reducible refine (rget_n (part (bs.drop n) 4 4) 4 L2.out (some ⟨b, o + n + 4, none⟩) _ _ (P2.held hHeld.2.1 hHeld.2.2) (part_8 h8t _ _) (by omega)).mono ?_); rintro e' w3 ⟨rfl, rfl⟩))
                | (go_at_call 33; ((with_reducible refine (rget_n (part (bs.drop n) 8 3) 3 L3.out (some ⟨b, o + n + 8, none⟩) _ _ (P3.held hHeld.2.1 hHeld.2.2) (part_8 h8t _ _) (by omega)).mono ?_); rintro e' w3 ⟨rfl, rfl⟩)))
          go_wp2_with fail
          refine hK.out _ _ ?_ (fun hNew => ?_)
          · (first | assumption | exact held_of (Below.refl _ _).drew | exact held_of (hHeld.1.alloc hHeld.2.1 _) | exact held_of ((Below.refl _ _).alloc (Nat.le_refl _) _).drew)
          clear hK K hHeld
          have hHeld := hNew
          clear hNew
          try simp only [Act.put, List.setIfInBounds_toArray, List.set_cons_zero, List.set_cons_succ]
          refine wpAnyH_take (i := 13) (oi := { dst := some 37, op := Op.build 24 #[(0, Operand.tmp 27), (1, Operand.tmp 30), (2, Operand.tmp 33), (3, Operand.tmp 36)], type := 24, pos := "ref.go:49", after := #[{ on := 3, ground := Ground.data }, { on := 6, ground := Ground.data }, { on := 9, ground := Ground.data }, { on := 12, ground := Ground.data }], guard := none }) (v := ?_) rfl (by kernel_rfl) (by kernel_rfl) (by kernel_rfl) (fun _ _ _ h => h) (Or.inl ⟨by rfl, ?_⟩) (by assumption) ?_
          rotate_left
          · (intro wS hSw; (try dsimp only at hSw); go_simp; (try with_reducible rfl))
          try simp only [Act.put, List.setIfInBounds_toArray, List.set_cons_zero, List.set_cons_succ]
          refine wpAnyH_ready (rs := [15]) (by kernel_rfl) (by simp) ?_
          refine AllReadyH.cons (o := { dst := none, op := Op.store 24 (Operand.tmp 7) (Operand.tmp 37), type := 0, pos := "ref.go:49", after := #[{ on := 14, ground := Ground.data }, { on := 13, ground := Ground.data }, { on := 12, ground := Ground.chain }, { on := 0, ground := Ground.phase }, { on := 1, ground := Ground.phase }, { on := 2, ground := Ground.phase }, { on := 3, ground := Ground.phase }, { on := 4, ground := Ground.phase }, { on := 5, ground := Ground.phase }, { on := 6, ground := Ground.phase }, { on := 7, ground := Ground.phase }, { on := 8, ground := Ground.phase }, { on := 9, ground := Ground.phase }, { on := 10, ground := Ground.phase }, { on := 11, ground := Ground.phase }, { on := 12, ground := Ground.phase }, { on := 13, ground := Ground.phase }, { on := 14, ground := Ground.phase }], guard := none }) rfl (fun K hK => ?_) AllReadyH.nil
          go_simp
          refine hK.out _ _ ?_ (fun hNew => ?_)
          · (first | assumption | exact held_of (Below.refl _ _).drew | exact held_of (hHeld.1.alloc hHeld.2.1 _) | exact held_of ((Below.refl _ _).alloc (Nat.le_refl _) _).drew)
          clear hK K hHeld
          have hHeld := hNew
          clear hNew
          try simp only [Act.put, List.setIfInBounds_toArray, List.set_cons_zero, List.set_cons_succ]
          refine wpAnyH_done (by kernel_rfl) ?_ _
          refine NoPanic.normal ?_
          go_wp2_with fail
          go_meet
          exact ⟨rfl, (by rw [← HP.out, ← HS.out, ← HE.out]; exact Blk.new_ w1 _ _), ((Below.refl _ _).alloc (Nat.le_refl _) _).drew, by simp⟩
      · go_simp
        refine hK.out _ _ ?_ (fun hNew => ?_)
        · (first | assumption | exact held_of (Below.refl _ _).drew | exact held_of (hHeld.1.alloc hHeld.2.1 _) | exact held_of ((Below.refl _ _).alloc (Nat.le_refl _) _).drew)
        clear hK K hHeld
        have hHeld := hNew
        clear hNew
        try simp only [Act.put, List.setIfInBounds_toArray, List.set_cons_zero, List.set_cons_succ]
        refine wpAnyH_ready (rs := [9]) (by kernel_rfl) (by simp) ?_
        refine AllReadyH.cons (o := { dst := some 33, op := Op.call { callee := Callee.value (Operand.func 33), args := #[Operand.tmp 32], argTypes := #[22] }, type := 3, pos := "ref.go:49", after := #[{ on := 8, ground := Ground.data }, { on := 6, ground := Ground.chain }], guard := none }) rfl (fun K hK => ?_) AllReadyH.nil
        go_simp
        (first
              | (go_at_call 33; ((with_reducible refine (rget_n (part (bs.drop n) 2 2) 2 L1.out (some ⟨b, o + n + 2, none⟩) _ _ (P1.held hHeld.2.1 hHeld.2.2) (part_8 h8t _ _) (by omega)).mono ?_); rintro e' w3 ⟨rfl, rfl⟩))
              | (go_at_call 33; ((with_reducible refine (rget_n (part (bs.drop n) 4 4) 4 L2.out (some ⟨b, o + n + 4, none⟩) _ _ (P2.held hHeld.2.1 hHeld.2.2) (part_8 h8t _ _) (by omega)).mono ?_); rintro e' w3 ⟨rfl, rfl⟩))
              | (go_at_call 33; ((with_reducible refine (rget_n (part (bs.drop n) 8 3) 3 L3.out (some ⟨b, o + n + 8, none⟩) _ _ (P3.held hHeld.2.1 hHeld.2.2) (part_8 h8t _ _) (by omega)).mono ?_); rintro e' w3 ⟨rfl, rfl⟩)))
        go_wp2_with fail
        refine hK.out _ _ ?_ (fun hNew => ?_)
        · (first | assumption | exact held_of (Below.refl _ _).drew | exact held_of (hHeld.1.alloc hHeld.2.1 _) | exact held_of ((Below.refl _ _).alloc (Nat.le_refl _) _).drew)
        clear hK K hHeld
        have hHeld := hNew
        clear hNew
        try simp only [Act.put, List.setIfInBounds_toArray, List.set_cons_zero, List.set_cons_succ]
        refine wpAnyH_ready (rs := [12]) (by kernel_rfl) (by simp) ?_
        refine AllReadyH.cons (o := { dst := some 36, op := Op.call { callee := Callee.value (Operand.func 33), args := #[Operand.tmp 35], argTypes := #[22] }, type := 3, pos := "ref.go:49", after := #[{ on := 11, ground := Ground.data }, { on := 9, ground := Ground.chain }], guard := none }) rfl (fun K hK => ?_) AllReadyH.nil
        go_simp
        (first
              | (go_at_call 33; ((with_reducible refine (rget_n (part (bs.drop n) 2 2) 2 L1.out (some ⟨b, o + n + 2, none⟩) _ _ (P1.held hHeld.2.1 hHeld.2.2) (part_8 h8t _ _) (by omega)).mono ?_); rintro e' w3 ⟨rfl, rfl⟩))
              | (go_at_call 33; ((with_reducible refine (rget_n (part (bs.drop n) 4 4) 4 L2.out (some ⟨b, o + n + 4, none⟩) _ _ (P2.held hHeld.2.1 hHeld.2.2) (part_8 h8t _ _) (by omega)).mono ?_); rintro e' w3 ⟨rfl, rfl⟩))
              | (go_at_call 33; ((with_reducible refine (rget_n (part (bs.drop n) 8 3) 3 L3.out (some ⟨b, o + n + 8, none⟩) _ _ (P3.held hHeld.2.1 hHeld.2.2) (part_8 h8t _ _) (by omega)).mono ?_); rintro e' w3 ⟨rfl, rfl⟩)))
        go_wp2_with fail
        refine hK.out _ _ ?_ (fun hNew => ?_)
        · (first | assumption | exact held_of (Below.refl _ _).drew | exact held_of (hHeld.1.alloc hHeld.2.1 _) | exact held_of ((Below.refl _ _).alloc (Nat.le_refl _) _).drew)
        clear hK K hHeld
        have hHeld := hNew
        clear hNew
        try simp only [Act.put, List.setIfInBounds_toArray, List.set_cons_zero, List.set_cons_succ]
        refine wpAnyH_take (i := 13) (oi := { dst := some 37, op := Op.build 24 #[(0, Operand.tmp 27), (1, Operand.tmp 30), (2, Operand.tmp 33), (3, Operand.tmp 36)], type := 24, pos := "ref.go:49", after := #[{ on := 3, ground := Ground.data }, { on := 6, ground := Ground.data }, { on := 9, ground := Ground.data }, { on := 12, ground := Ground.data }], guard := none }) (v := ?_) rfl (by kernel_rfl) (by kernel_rfl) (by kernel_rfl) (fun _ _ _ h => h) (Or.inl ⟨by rfl, ?_⟩) (by assumption) ?_
        rotate_left
        · (intro wS hSw; (try dsimp only at hSw); go_simp; (try with_reducible rfl))
        try simp only [Act.put, List.setIfInBounds_toArray, List.set_cons_zero, List.set_cons_succ]
        refine wpAnyH_ready (rs := [15]) (by kernel_rfl) (by simp) ?_
        refine AllReadyH.cons (o := { dst := none, op := Op.store 24 (Operand.tmp 7) (Operand.tmp 37), type := 0, pos := "ref.go:49", after := #[{ on := 14, ground := Ground.data }, { on := 13, ground := Ground.data }, { on := 12, ground := Ground.chain }, { on := 0, ground := Ground.phase }, { on := 1, ground := Ground.phase }, { on := 2, ground := Ground.phase }, { on := 3, ground := Ground.phase }, { on := 4, ground := Ground.phase }, { on := 5, ground := Ground.phase }, { on := 6, ground := Ground.phase }, { on := 7, ground := Ground.phase }, { on := 8, ground := Ground.phase }, { on := 9, ground := Ground.phase }, { on := 10, ground := Ground.phase }, { on := 11, ground := Ground.phase }, { on := 12, ground := Ground.phase }, { on := 13, ground := Ground.phase }, { on := 14, ground := Ground.phase }], guard := none }) rfl (fun K hK => ?_) AllReadyH.nil
        go_simp
        refine hK.out _ _ ?_ (fun hNew => ?_)
        · (first | assumption | exact held_of (Below.refl _ _).drew | exact held_of (hHeld.1.alloc hHeld.2.1 _) | exact held_of ((Below.refl _ _).alloc (Nat.le_refl _) _).drew)
        clear hK K hHeld
        have hHeld := hNew
        clear hNew
        try simp only [Act.put, List.setIfInBounds_toArray, List.set_cons_zero, List.set_cons_succ]
        refine wpAnyH_done (by kernel_rfl) ?_ _
        refine NoPanic.normal ?_
        go_wp2_with fail
        go_meet
        exact ⟨rfl, (by rw [← HP.out, ← HS.out, ← HE.out]; exact Blk.new_ w1 _ _), ((Below.refl _ _).alloc (Nat.le_refl _) _).drew, by simp⟩
    · go_simp
      refine hK.out _ _ ?_ (fun hNew => ?_)
      · (first | assumption | exact held_of (Below.refl _ _).drew | exact held_of (hHeld.1.alloc hHeld.2.1 _) | exact held_of ((Below.refl _ _).alloc (Nat.le_refl _) _).drew)
      clear hK K hHeld
      have hHeld := hNew
      clear hNew
      try simp only [Act.put, List.setIfInBounds_toArray, List.set_cons_zero, List.set_cons_succ]
      refine wpAnyH_ready (rs := [6]) (by kernel_rfl) (by simp) ?_
      refine AllReadyH.cons (o := { dst := some 30, op := Op.call { callee := Callee.value (Operand.func 33), args := #[Operand.tmp 29], argTypes := #[22] }, type := 3, pos := "ref.go:49", after := #[{ on := 5, ground := Ground.data }], guard := none }) rfl (fun K hK => ?_) AllReadyH.nil
      go_simp
      (first
            | (go_at_call 33; ((with_reducible refine (rget_n (part (bs.drop n) 2 2) 2 L1.out (some ⟨b, o + n + 2, none⟩) _ _ (P1.held hHeld.2.1 hHeld.2.2) (part_8 h8t _ _) (by omega)).mono ?_); rintro e' w3 ⟨rfl, rfl⟩))
            | (go_at_call 33; ((with_reducible refine (rget_n (part (bs.drop n) 4 4) 4 L2.out (some ⟨b, o + n + 4, none⟩) _ _ (P2.held hHeld.2.1 hHeld.2.2) (part_8 h8t _ _) (by omega)).mono ?_); rintro e' w3 ⟨rfl, rfl⟩))
            | (go_at_call 33; ((with_reducible refine (rget_n (part (bs.drop n) 8 3) 3 L3.out (some ⟨b, o + n + 8, none⟩) _ _ (P3.held hHeld.2.1 hHeld.2.2) (part_8 h8t _ _) (by omega)).mono ?_); rintro e' w3 ⟨rfl, rfl⟩)))
      go_wp2_with fail
      refine hK.out _ _ ?_ (fun hNew => ?_)
      · (first | assumption | exact held_of (Below.refl _ _).drew | exact held_of (hHeld.1.alloc hHeld.2.1 _) | exact held_of ((Below.refl _ _).alloc (Nat.le_refl _) _).drew)
      clear hK K hHeld
      have hHeld := hNew
      clear hNew
      try simp only [Act.put, List.setIfInBounds_toArray, List.set_cons_zero, List.set_cons_succ]
      refine wpAnyH_ready (rs := [9]) (by kernel_rfl) (by simp) ?_
      refine AllReadyH.cons (o := { dst := some 33, op := Op.call { callee := Callee.value (Operand.func 33), args := #[Operand.tmp 32], argTypes := #[22] }, type := 3, pos := "ref.go:49", after := #[{ on := 8, ground := Ground.data }, { on := 6, ground := Ground.chain }], guard := none }) rfl (fun K hK => ?_) AllReadyH.nil
      go_simp
      (first
            | (go_at_call 33; ((with_reducible refine (rget_n (part (bs.drop n) 2 2) 2 L1.out (some ⟨b, o + n + 2, none⟩) _ _ (P1.held hHeld.2.1 hHeld.2.2) (part_8 h8t _ _) (by omega)).mono ?_); rintro e' w3 ⟨rfl, rfl⟩))
            | (go_at_call 33; ((with_reducible refine (rget_n (part (bs.drop n) 4 4) 4 L2.out (some ⟨b, o + n + 4, none⟩) _ _ (P2.held hHeld.2.1 hHeld.2.2) (part_8 h8t _ _) (by omega)).mono ?_); rintro e' w3 ⟨rfl, rfl⟩))
            | (go_at_call 33; ((with_reducible refine (rget_n (part (bs.drop n) 8 3) 3 L3.out (some ⟨b, o + n + 8, none⟩) _ _ (P3.held hHeld.2.1 hHeld.2.2) (part_8 h8t _ _) (by omega)).mono ?_); rintro e' w3 ⟨rfl, rfl⟩)))
      go_wp2_with fail
      refine hK.out _ _ ?_ (fun hNew => ?_)
      · (first | assumption | exact held_of (Below.refl _ _).drew | exact held_of (hHeld.1.alloc hHeld.2.1 _) | exact held_of ((Below.refl _ _).alloc (Nat.le_refl _) _).drew)
      clear hK K hHeld
      have hHeld := hNew
      clear hNew
      try simp only [Act.put, List.setIfInBounds_toArray, List.set_cons_zero, List.set_cons_succ]
      refine wpAnyH_ready (rs := [12]) (by kernel_rfl) (by simp) ?_
      refine AllReadyH.cons (o := { dst := some 36, op := Op.call { callee := Callee.value (Operand.func 33), args := #[Operand.tmp 35], argTypes := #[22] }, type := 3, pos := "ref.go:49", after := #[{ on := 11, ground := Ground.data }, { on := 9, ground := Ground.chain }], guard := none }) rfl (fun K hK => ?_) AllReadyH.nil
      go_simp
      (first
            | (go_at_call 33; ((with_reducible refine (rget_n (part (bs.drop n) 2 2) 2 L1.out (some ⟨b, o + n + 2, none⟩) _ _ (P1.held hHeld.2.1 hHeld.2.2) (part_8 h8t _ _) (by omega)).mono ?_); rintro e' w3 ⟨rfl, rfl⟩))
            | (go_at_call 33; ((with_reducible refine (rget_n (part (bs.drop n) 4 4) 4 L2.out (some ⟨b, o + n + 4, none⟩) _ _ (P2.held hHeld.2.1 hHeld.2.2) (part_8 h8t _ _) (by omega)).mono ?_); rintro e' w3 ⟨rfl, rfl⟩))
            | (go_at_call 33; ((with_reducible refine (rget_n (part (bs.drop n) 8 3) 3 L3.out (some ⟨b, o + n + 8, none⟩) _ _ (P3.held hHeld.2.1 hHeld.2.2) (part_8 h8t _ _) (by omega)).mono ?_); rintro e' w3 ⟨rfl, rfl⟩)))
      go_wp2_with fail
      refine hK.out _ _ ?_ (fun hNew => ?_)
      · (first | assumption | exact held_of (Below.refl _ _).drew | exact held_of (hHeld.1.alloc hHeld.2.1 _) | exact held_of ((Below.refl _ _).alloc (Nat.le_refl _) _).drew)
      clear hK K hHeld
      have hHeld := hNew
      clear hNew
      try simp only [Act.put, List.setIfInBounds_toArray, List.set_cons_zero, List.set_cons_succ]
      refine wpAnyH_take (i := 13) (oi := { dst := some 37, op := Op.build 24 #[(0, Operand.tmp 27), (1, Operand.tmp 30), (2, Operand.tmp 33), (3, Operand.tmp 36)], type := 24, pos := "ref.go:49", after := #[{ on := 3, ground := Ground.data }, { on := 6, ground := Ground.data }, { on := 9, ground := Ground.data }, { on := 12, ground := Ground.data }], guard := none }) (v := ?_) rfl (by kernel_rfl) (by kernel_rfl) (by kernel_rfl) (fun _ _ _ h => h) (Or.inl ⟨by rfl, ?_⟩) (by assumption) ?_
      rotate_left
      · (intro wS hSw; (try dsimp only at hSw); go_simp; (try with_reducible rfl))
      try simp only [Act.put, List.setIfInBounds_toArray, List.set_cons_zero, List.set_cons_succ]
      refine wpAnyH_ready (rs := [15]) (by kernel_rfl) (by simp) ?_
      refine AllReadyH.cons (o := { dst := none, op := Op.store 24 (Operand.tmp 7) (Operand.tmp 37), type := 0, pos := "ref.go:49", after := #[{ on := 14, ground := Ground.data }, { on := 13, ground := Ground.data }, { on := 12, ground := Ground.chain }, { on := 0, ground := Ground.phase }, { on := 1, ground := Ground.phase }, { on := 2, ground := Ground.phase }, { on := 3, ground := Ground.phase }, { on := 4, ground := Ground.phase }, { on := 5, ground := Ground.phase }, { on := 6, ground := Ground.phase }, { on := 7, ground := Ground.phase }, { on := 8, ground := Ground.phase }, { on := 9, ground := Ground.phase }, { on := 10, ground := Ground.phase }, { on := 11, ground := Ground.phase }, { on := 12, ground := Ground.phase }, { on := 13, ground := Ground.phase }, { on := 14, ground := Ground.phase }], guard := none }) rfl (fun K hK => ?_) AllReadyH.nil
      go_simp
      refine hK.out _ _ ?_ (fun hNew => ?_)
      · (first | assumption | exact held_of (Below.refl _ _).drew | exact held_of (hHeld.1.alloc hHeld.2.1 _) | exact held_of ((Below.refl _ _).alloc (Nat.le_refl _) _).drew)
      clear hK K hHeld
      have hHeld := hNew
      clear hNew
      try simp only [Act.put, List.setIfInBounds_toArray, List.set_cons_zero, List.set_cons_succ]
      refine wpAnyH_done (by kernel_rfl) ?_ _
      refine NoPanic.normal ?_
      go_wp2_with fail
      go_meet
      exact ⟨rfl, (by rw [← HP.out, ← HS.out, ← HE.out]; exact Blk.new_ w1 _ _), ((Below.refl _ _).alloc (Nat.le_refl _) _).drew, by simp⟩
  case rest =>
  obtain ⟨rfl, HG2, HB2, hz2⟩ := hcut
  obtain ⟨w2, rfl⟩ : ∃ W : World, W = wc := ⟨_, rfl⟩
  have HZ2 := HZ1.below HB2 hzb
  have HBA := btr HB1 HB1.size HB2
  have H2 := H1.next HB2
  have hzc : w.heap.size < w2.heap.size := by omega
  have y0 := HG2.cell_ 0
  have y1 := HG2.cell_ 1
  have y2 := HG2.cell_ 2
  have y3 := HG2.cell_ 3
  simp at y0 y1 y2 y3
  have HD2 : Sl w2 w2.heap.size (some ⟨b, o, none⟩) ((bs.take n).map byteV) := by rw [List.map_take]; exact sl_take H2 n
  clear P1 P2 P3 L1 L2 L3 c1 q4 q8 q11 n2 n4 n8 ww k0 k1 hk8 TL1 hcc h8t HTL HCX HZ1 H1 lb1
  obtain ⟨tg, htg⟩ : ∃ x, tagB Ka Pa Sa Ea = x := ⟨_, rfl⟩
  have HT := Lib.hid htg
  clear htg
  go_upto_region 6 with fail
  go_cut [8, 9] (fun s8 s9 wx => Below w2.heap.size w2 wx ∧ ((tg = false ∧ s9 = .int .i64 2) ∨ (tg = true ∧ s9 = .int .i64 0 ∧ ∃ A' c', s8 = .slice A' (n + 16) c' ∧ Sl wx wx.heap.size A' ((rawB (bs.take n) Ka Pa Sa Ea).map byteV))))
  case first =>
    cases tg
    · have HT2 : Hid (tagB Ka Pa Sa Ea = false) := HT
      refine wp_region_noPanic ?_
      refine wp_region_held_drew (S := (fun w' => Below w2.heap.size w2 w' ∧ w'.cell? ⟨w1.heap.size, 0, none⟩ = some (.int .i64 (Ka : Nat)) ∧ w'.cell? ⟨w1.heap.size, 1, none⟩ = some (.int .i64 (Pa : Nat)) ∧ w'.cell? ⟨w1.heap.size, 2, none⟩ = some (.int .i64 (Sa : Nat)) ∧ w'.cell? ⟨w1.heap.size, 3, none⟩ = some (.int .i64 (Ea : Nat)))) (by kernel_rfl) ?_ (fun hHeld => ?_)
      · (first | exact ⟨(Below.refl _ _).drew, y0, y1, y2, y3⟩ | assumption | exact ⟨hbL, (hbL.cell (p := ⟨w1.heap.size, 0, none⟩) hz2).trans y0, (hbL.cell (p := ⟨w1.heap.size, 1, none⟩) hz2).trans y1, (hbL.cell (p := ⟨w1.heap.size, 2, none⟩) hz2).trans y2, (hbL.cell (p := ⟨w1.heap.size, 3, none⟩) hz2).trans y3⟩)
      refine wpAnyH_take (i := 0) (oi := { dst := some 39, op := Op.move (Operand.tmp 0), type := 22, pos := "ref.go:50", after := #[], guard := none }) (v := ?_) rfl (by kernel_rfl) (by kernel_rfl) (by kernel_rfl) (fun _ _ _ h => h) (Or.inl ⟨by rfl, ?_⟩) (by assumption) ?_
      rotate_left
      · (intro wS hSw; (try dsimp only at hSw); go_simp; (try with_reducible rfl))
      try simp only [Act.put, List.setIfInBounds_toArray, List.set_cons_zero, List.set_cons_succ]
      refine wpAnyH_take (i := 1) (oi := { dst := some 40, op := Op.move (Operand.tmp 5), type := 3, pos := "ref.go:50", after := #[], guard := none }) (v := ?_) rfl (by kernel_rfl) (by kernel_rfl) (by kernel_rfl) (fun _ _ _ h => h) (Or.inl ⟨by rfl, ?_⟩) (by assumption) ?_
      rotate_left
      · (intro wS hSw; (try dsimp only at hSw); go_simp; (try with_reducible rfl))
      try simp only [Act.put, List.setIfInBounds_toArray, List.set_cons_zero, List.set_cons_succ]
      refine wpAnyH_take (i := 2) (oi := { dst := some 41, op := Op.slice 22 (Operand.tmp 39) none (some (Operand.tmp 40)) none, type := 22, pos := "ref.go:50", after := #[{ on := 0, ground := Ground.data }, { on := 1, ground := Ground.data }], guard := none }) (v := ?_) rfl (by kernel_rfl) (by kernel_rfl) (by kernel_rfl) (fun _ _ _ h => h) (Or.inl ⟨by rfl, ?_⟩) (by assumption) ?_
      rotate_left
      · (intro wS hSw; (try dsimp only at hSw); go_simp; (try with_reducible rfl))
      try simp only [Act.put, List.setIfInBounds_toArray, List.set_cons_zero, List.set_cons_succ]
      refine wpAnyH_take (i := 3) (oi := { dst := some 42, op := Op.load 24 (Operand.tmp 7), type := 24, pos := "ref.go:50", after := #[], guard := none }) (v := ?_) rfl (by kernel_rfl) (by kernel_rfl) (by kernel_rfl) (fun _ _ _ h => h) (Or.inl ⟨by rfl, ?_⟩) (by assumption) ?_
      rotate_left
      · (intro wS hSw; (try dsimp only at hSw); go_simp; (try with_reducible rfl))
      try simp only [Act.put, List.setIfInBounds_toArray, List.set_cons_zero, List.set_cons_succ]
      refine wpAnyH_ready (rs := [4]) (by kernel_rfl) (by simp) ?_
      refine AllReadyH.cons (o := { dst := some 43, op := Op.call { callee := Callee.value (Operand.func 12), args := #[Operand.tmp 41, Operand.tmp 42], argTypes := #[22, 24] }, type := 30, pos := "ref.go:50", after := #[{ on := 2, ground := Ground.data }, { on := 3, ground := Ground.data }], guard := none }) rfl (fun K hK => ?_) AllReadyH.nil
      go_simp
      (go_at_call 12; ((with_reducible refine (rlay_no_n (bs.take n) n HLT.out _ _ _ _ _ _ _ HT2.out (by have := HLT.out; omega)).mono ?_); rintro e' wL ⟨rfl, hb⟩; have hbL := btr hHeld.1 hHeld.1.size hb))
      go_wp2_with fail
      refine hK.out _ _ ?_ (fun hNew => ?_)
      · (first | exact ⟨(Below.refl _ _).drew, y0, y1, y2, y3⟩ | assumption | exact ⟨hbL, (hbL.cell (p := ⟨w1.heap.size, 0, none⟩) hz2).trans y0, (hbL.cell (p := ⟨w1.heap.size, 1, none⟩) hz2).trans y1, (hbL.cell (p := ⟨w1.heap.size, 2, none⟩) hz2).trans y2, (hbL.cell (p := ⟨w1.heap.size, 3, none⟩) hz2).trans y3⟩)
      clear hK K hHeld
      have hHeld := hNew
      clear hNew
      try simp only [Act.put, List.setIfInBounds_toArray, List.set_cons_zero, List.set_cons_succ]
      refine wpAnyH_take (i := 5) (oi := { dst := some 38, op := Op.move (Operand.tmp 43), type := 30, pos := "ref.go:50", after := #[{ on := 4, ground := Ground.data }], guard := none }) (v := ?_) rfl (by kernel_rfl) (by kernel_rfl) (by kernel_rfl) (fun _ _ _ h => h) (Or.inl ⟨by rfl, ?_⟩) (by assumption) ?_
      rotate_left
      · (intro wS hSw; (try dsimp only at hSw); go_simp; (try with_reducible rfl))
      try simp only [Act.put, List.setIfInBounds_toArray, List.set_cons_zero, List.set_cons_succ]
      refine wpAnyH_take (i := 6) (oi := { dst := some 44, op := Op.extract (Operand.tmp 38) 0, type := 22, pos := "ref.go:50", after := #[{ on := 5, ground := Ground.data }], guard := none }) (v := ?_) rfl (by kernel_rfl) (by kernel_rfl) (by kernel_rfl) (fun _ _ _ h => h) (Or.inl ⟨by rfl, ?_⟩) (by assumption) ?_
      rotate_left
      · (intro wS hSw; (try dsimp only at hSw); go_simp; (try with_reducible rfl))
      try simp only [Act.put, List.setIfInBounds_toArray, List.set_cons_zero, List.set_cons_succ]
      refine wpAnyH_take (i := 7) (oi := { dst := some 45, op := Op.extract (Operand.tmp 38) 1, type := 3, pos := "ref.go:50", after := #[{ on := 5, ground := Ground.data }, { on := 8, ground := Ground.gcOnly Departure.lateStores }], guard := none }) (v := ?_) rfl (by kernel_rfl) (by kernel_rfl) (by kernel_rfl) (fun _ _ _ h => h) (Or.inl ⟨by rfl, ?_⟩) (by assumption) ?_
      rotate_left
      · (intro wS hSw; (try dsimp only at hSw); go_simp; (try with_reducible rfl))
      try simp only [Act.put, List.setIfInBounds_toArray, List.set_cons_zero, List.set_cons_succ]
      refine wpAnyH_take (i := 8) (oi := { dst := some 8, op := Op.assign (Operand.tmp 44), type := 22, pos := "ref.go:50", after := #[{ on := 6, ground := Ground.data }, { on := 4, ground := Ground.chain }, { on := 0, ground := Ground.phase }, { on := 1, ground := Ground.phase }, { on := 2, ground := Ground.phase }, { on := 3, ground := Ground.phase }, { on := 4, ground := Ground.phase }, { on := 5, ground := Ground.phase }, { on := 6, ground := Ground.phase }, { on := 7, ground := Ground.textOnly Departure.lateStores }], guard := none }) (v := ?_) rfl (by kernel_rfl) (by kernel_rfl) (by kernel_rfl) (fun _ _ _ h => h) (Or.inl ⟨by rfl, ?_⟩) (by assumption) ?_
      rotate_left
      · (intro wS hSw; (try dsimp only at hSw); go_simp; (try with_reducible rfl))
      try simp only [Act.put, List.setIfInBounds_toArray, List.set_cons_zero, List.set_cons_succ]
      refine wpAnyH_take (i := 9) (oi := { dst := some 9, op := Op.assign (Operand.tmp 45), type := 3, pos := "ref.go:50", after := #[{ on := 7, ground := Ground.data }, { on := 8, ground := Ground.chain }, { on := 0, ground := Ground.phase }, { on := 1, ground := Ground.phase }, { on := 2, ground := Ground.phase }, { on := 3, ground := Ground.phase }, { on := 4, ground := Ground.phase }, { on := 5, ground := Ground.phase }, { on := 6, ground := Ground.phase }, { on := 7, ground := Ground.phase }, { on := 8, ground := Ground.phase }], guard := none }) (v := ?_) rfl (by kernel_rfl) (by kernel_rfl) (by kernel_rfl) (fun _ _ _ h => h) (Or.inl ⟨by rfl, ?_⟩) (by assumption) ?_
      rotate_left
      · (intro wS hSw; (try dsimp only at hSw); go_simp; (try with_reducible rfl))
      try simp only [Act.put, List.setIfInBounds_toArray, List.set_cons_zero, List.set_cons_succ]
      refine wpAnyH_done (by kernel_rfl) ?_ _
      refine NoPanic.normal ?_
      go_wp2_with fail
      go_meet
      exact ⟨hHeld.1, Or.inl ⟨trivial, rfl⟩⟩
    · have hok : LayOk (bs.take n) Ka Pa Sa Ea := by
        have := lay_of_tag HL.out hn1 hn2 h8 (by rw [HK.out, HP.out, HS.out, HE.out]; exact HT.out)
        rwa [HK.out, HP.out, HS.out, HE.out] at this
      have HOK := Lib.hid hok
      clear hok
      refine wp_region_noPanic ?_
      refine wp_region_held_drew (S := (fun w' => Below w2.heap.size w2 w' ∧ w'.cell? ⟨w1.heap.size, 0, none⟩ = some (.int .i64 (Ka : Nat)) ∧ w'.cell? ⟨w1.heap.size, 1, none⟩ = some (.int .i64 (Pa : Nat)) ∧ w'.cell? ⟨w1.heap.size, 2, none⟩ = some (.int .i64 (Sa : Nat)) ∧ w'.cell? ⟨w1.heap.size, 3, none⟩ = some (.int .i64 (Ea : Nat)))) (by kernel_rfl) ?_ (fun hHeld => ?_)
      · (first | exact ⟨(Below.refl _ _).drew, y0, y1, y2, y3⟩ | assumption | exact ⟨hbL, (hbL.cell (p := ⟨w1.heap.size, 0, none⟩) hz2).trans y0, (hbL.cell (p := ⟨w1.heap.size, 1, none⟩) hz2).trans y1, (hbL.cell (p := ⟨w1.heap.size, 2, none⟩) hz2).trans y2, (hbL.cell (p := ⟨w1.heap.size, 3, none⟩) hz2).trans y3⟩)
      refine wpAnyH_take (i := 0) (oi := { dst := some 39, op := Op.move (Operand.tmp 0), type := 22, pos := "ref.go:50", after := #[], guard := none }) (v := ?_) rfl (by kernel_rfl) (by kernel_rfl) (by kernel_rfl) (fun _ _ _ h => h) (Or.inl ⟨by rfl, ?_⟩) (by assumption) ?_
      rotate_left
      · (intro wS hSw; (try dsimp only at hSw); go_simp; (try with_reducible rfl))
      try simp only [Act.put, List.setIfInBounds_toArray, List.set_cons_zero, List.set_cons_succ]
      refine wpAnyH_take (i := 1) (oi := { dst := some 40, op := Op.move (Operand.tmp 5), type := 3, pos := "ref.go:50", after := #[], guard := none }) (v := ?_) rfl (by kernel_rfl) (by kernel_rfl) (by kernel_rfl) (fun _ _ _ h => h) (Or.inl ⟨by rfl, ?_⟩) (by assumption) ?_
      rotate_left
      · (intro wS hSw; (try dsimp only at hSw); go_simp; (try with_reducible rfl))
      try simp only [Act.put, List.setIfInBounds_toArray, List.set_cons_zero, List.set_cons_succ]
      refine wpAnyH_take (i := 2) (oi := { dst := some 41, op := Op.slice 22 (Operand.tmp 39) none (some (Operand.tmp 40)) none, type := 22, pos := "ref.go:50", after := #[{ on := 0, ground := Ground.data }, { on := 1, ground := Ground.data }], guard := none }) (v := ?_) rfl (by kernel_rfl) (by kernel_rfl) (by kernel_rfl) (fun _ _ _ h => h) (Or.inl ⟨by rfl, ?_⟩) (by assumption) ?_
      rotate_left
      · (intro wS hSw; (try dsimp only at hSw); go_simp; (try with_reducible rfl))
      try simp only [Act.put, List.setIfInBounds_toArray, List.set_cons_zero, List.set_cons_succ]
      refine wpAnyH_take (i := 3) (oi := { dst := some 42, op := Op.load 24 (Operand.tmp 7), type := 24, pos := "ref.go:50", after := #[], guard := none }) (v := ?_) rfl (by kernel_rfl) (by kernel_rfl) (by kernel_rfl) (fun _ _ _ h => h) (Or.inl ⟨by rfl, ?_⟩) (by assumption) ?_
      rotate_left
      · (intro wS hSw; (try dsimp only at hSw); go_simp; (try with_reducible rfl))
      try simp only [Act.put, List.setIfInBounds_toArray, List.set_cons_zero, List.set_cons_succ]
      refine wpAnyH_ready (rs := [4]) (by kernel_rfl) (by simp) ?_
      refine AllReadyH.cons (o := { dst := some 43, op := Op.call { callee := Callee.value (Operand.func 12), args := #[Operand.tmp 41, Operand.tmp 42], argTypes := #[22, 24] }, type := 30, pos := "ref.go:50", after := #[{ on := 2, ground := Ground.data }, { on := 3, ground := Ground.data }], guard := none }) rfl (fun K hK => ?_) AllReadyH.nil
      go_simp
      (go_at_call 12; ((with_reducible refine (rlay_yes_n (bs.take n) n HLT.out (some ⟨b, o, none⟩) _ _ _ _ _ _ (HD2.next hHeld.1) HOK.out).mono ?_); rintro e' wL ⟨A', c', rfl, SLA', hb⟩; have hbL := btr hHeld.1 hHeld.1.size hb))
      go_wp2_with fail
      refine hK.out _ _ ?_ (fun hNew => ?_)
      · (first | exact ⟨(Below.refl _ _).drew, y0, y1, y2, y3⟩ | assumption | exact ⟨hbL, (hbL.cell (p := ⟨w1.heap.size, 0, none⟩) hz2).trans y0, (hbL.cell (p := ⟨w1.heap.size, 1, none⟩) hz2).trans y1, (hbL.cell (p := ⟨w1.heap.size, 2, none⟩) hz2).trans y2, (hbL.cell (p := ⟨w1.heap.size, 3, none⟩) hz2).trans y3⟩)
      clear hK K hHeld
      have hHeld := hNew
      clear hNew
      try simp only [Act.put, List.setIfInBounds_toArray, List.set_cons_zero, List.set_cons_succ]
      refine wpAnyH_take (i := 5) (oi := { dst := some 38, op := Op.move (Operand.tmp 43), type := 30, pos := "ref.go:50", after := #[{ on := 4, ground := Ground.data }], guard := none }) (v := ?_) rfl (by kernel_rfl) (by kernel_rfl) (by kernel_rfl) (fun _ _ _ h => h) (Or.inl ⟨by rfl, ?_⟩) (by assumption) ?_
      rotate_left
      · (intro wS hSw; (try dsimp only at hSw); go_simp; (try with_reducible rfl))
      try simp only [Act.put, List.setIfInBounds_toArray, List.set_cons_zero, List.set_cons_succ]
      refine wpAnyH_take (i := 6) (oi := { dst := some 44, op := Op.extract (Operand.tmp 38) 0, type := 22, pos := "ref.go:50", after := #[{ on := 5, ground := Ground.data }], guard := none }) (v := ?_) rfl (by kernel_rfl) (by kernel_rfl) (by kernel_rfl) (fun _ _ _ h => h) (Or.inl ⟨by rfl, ?_⟩) (by assumption) ?_
      rotate_left
      · (intro wS hSw; (try dsimp only at hSw); go_simp; (try with_reducible rfl))
      try simp only [Act.put, List.setIfInBounds_toArray, List.set_cons_zero, List.set_cons_succ]
      refine wpAnyH_take (i := 7) (oi := { dst := some 45, op := Op.extract (Operand.tmp 38) 1, type := 3, pos := "ref.go:50", after := #[{ on := 5, ground := Ground.data }, { on := 8, ground := Ground.gcOnly Departure.lateStores }], guard := none }) (v := ?_) rfl (by kernel_rfl) (by kernel_rfl) (by kernel_rfl) (fun _ _ _ h => h) (Or.inl ⟨by rfl, ?_⟩) (by assumption) ?_
      rotate_left
      · (intro wS hSw; (try dsimp only at hSw); go_simp; (try with_reducible rfl))
      try simp only [Act.put, List.setIfInBounds_toArray, List.set_cons_zero, List.set_cons_succ]
      refine wpAnyH_take (i := 8) (oi := { dst := some 8, op := Op.assign (Operand.tmp 44), type := 22, pos := "ref.go:50", after := #[{ on := 6, ground := Ground.data }, { on := 4, ground := Ground.chain }, { on := 0, ground := Ground.phase }, { on := 1, ground := Ground.phase }, { on := 2, ground := Ground.phase }, { on := 3, ground := Ground.phase }, { on := 4, ground := Ground.phase }, { on := 5, ground := Ground.phase }, { on := 6, ground := Ground.phase }, { on := 7, ground := Ground.textOnly Departure.lateStores }], guard := none }) (v := ?_) rfl (by kernel_rfl) (by kernel_rfl) (by kernel_rfl) (fun _ _ _ h => h) (Or.inl ⟨by rfl, ?_⟩) (by assumption) ?_
      rotate_left
      · (intro wS hSw; (try dsimp only at hSw); go_simp; (try with_reducible rfl))
      try simp only [Act.put, List.setIfInBounds_toArray, List.set_cons_zero, List.set_cons_succ]
      refine wpAnyH_take (i := 9) (oi := { dst := some 9, op := Op.assign (Operand.tmp 45), type := 3, pos := "ref.go:50", after := #[{ on := 7, ground := Ground.data }, { on := 8, ground := Ground.chain }, { on := 0, ground := Ground.phase }, { on := 1, ground := Ground.phase }, { on := 2, ground := Ground.phase }, { on := 3, ground := Ground.phase }, { on := 4, ground := Ground.phase }, { on := 5, ground := Ground.phase }, { on := 6, ground := Ground.phase }, { on := 7, ground := Ground.phase }, { on := 8, ground := Ground.phase }], guard := none }) (v := ?_) rfl (by kernel_rfl) (by kernel_rfl) (by kernel_rfl) (fun _ _ _ h => h) (Or.inl ⟨by rfl, ?_⟩) (by assumption) ?_
      rotate_left
      · (intro wS hSw; (try dsimp only at hSw); go_simp; (try with_reducible rfl))
      try simp only [Act.put, List.setIfInBounds_toArray, List.set_cons_zero, List.set_cons_succ]
      refine wpAnyH_done (by kernel_rfl) ?_ _
      refine NoPanic.normal ?_
      go_wp2_with fail
      go_meet
      exact ⟨hHeld.1, Or.inr ⟨trivial, rfl, A', c', rfl, SLA'⟩⟩
  case rest =>
  obtain ⟨HB3, hcase⟩ := hcut
  have HCS := Lib.hid hcase
  clear hcase HD2
  obtain ⟨w3, rfl⟩ : ∃ W : World, W = wc := ⟨_, rfl⟩
  have H3 := H2.next HB3
  have HG3 := HG2.below HB3 hz2
  have HZ3 := HZ2.below HB3 hzc
  have HBB := btr HBA HBA.size HB3
  have hz3 : w1.heap.size < w3.heap.size := by have := HB3.size; omega
  have hzd : w.heap.size < w3.heap.size := by omega
  clear y0 y1 y2 y3 HG2 HZ2 HBA H2 HB3 HB2 hz2 hzc
  go_upto_region 7 with fail
  go_cut [54] (fun v wx => v = .bool r ∧ wx = w3)
  case first =>
    rcases HCS.out with ⟨htg, rfl⟩ | ⟨htg, rfl, A', c', rfl, SR⟩
    · have hrf : r = false := by rw [← hR.out, HT.out, htg]; rfl
      subst hrf
      clear htg
      go_wp2
      go_meet
      exact ⟨rfl, rfl⟩
    · have hrt : r = decide (rawB (bs.take n) Ka Pa Sa Ea = bs) := by rw [← hR.out, HT.out, htg, Bool.true_and]
      have hrl := rawB_len (bs.take n) Ka Pa Sa Ea
      rw [HLT.out] at hrl
      have hok : LayOk (bs.take n) Ka Pa Sa Ea := by
        have := lay_of_tag HL.out hn1 hn2 h8 (by rw [HK.out, HP.out, HS.out, HE.out, HT.out, htg])
        rwa [HK.out, HP.out, HS.out, HE.out] at this
      have hr8 : Bytes8 (rawB (bs.take n) Ka Pa Sa Ea) := by
        obtain ⟨_, _, _, _, _, _, _, _, h9⟩ := hok
        exact rawB_8 h9 (by omega)
      obtain ⟨RAW, hRAW⟩ : ∃ R, rawB (bs.take n) Ka Pa Sa Ea = R := ⟨_, rfl⟩
      rw [hRAW] at hrt SR hrl hr8
      obtain ⟨bA, oA, rfl, -, -⟩ := SR.at_ (by rw [List.length_map]; omega)
      have v1 := conv_run RAW _ bA oA (n + 16) c' w3 SR hrl
      have v2 := conv_run bs _ b o (n + 16) c w3 H3 HL.out
      have hrs := hrt.trans (strB_eq hr8 h8).symm
      have HRS := Lib.hid hrs
      clear hrt hrl hok hr8 hRAW htg hrs HT hR
      go_wp2
      go_meet
      exact ⟨congrArg Value.bool HRS.out.symm, rfl⟩
  case rest =>
  clear HCS HT
  obtain ⟨rfl, rfl⟩ := hcut
  have HZF := HZ3.free
  have z0 := HZ3.cell_ 0
  have z1 := HZ3.cell_ 1
  have z2 := HZ3.cell_ 2
  have z3 := HZ3.cell_ 3
  simp at z0 z1 z2 z3
  cases r
  · clear HG3 hR HLT HK HP HS HE
    have HZW := st4_blk HZ3 (.int .i64 0) (.int .i64 0) (.int .i64 0) (.int .i64 0)
    have HBW := st4_below HBB (Nat.le_refl _) (.int .i64 0) (.int .i64 0) (.int .i64 0) (.int .i64 0)
    have FIN : ∀ (wz : World), wz = st4 wc w.heap.size (.int .i64 0) (.int .i64 0) (.int .i64 0) (.int .i64 0) → Below w.heap.size w wz ∧ wz.cell? ⟨w.heap.size, 0, none⟩ = some (.int .i64 0) ∧ wz.cell? ⟨w.heap.size, 1, none⟩ = some (.int .i64 0) ∧ wz.cell? ⟨w.heap.size, 2, none⟩ = some (.int .i64 0) ∧ wz.cell? ⟨w.heap.size, 3, none⟩ = some (.int .i64 0) := fun wz hw => by
      rw [hw]
      exact ⟨HBW, HZW.cell_ 0, HZW.cell_ 1, HZW.cell_ 2, HZW.cell_ 3⟩
    clear HZW HBW HBB
    go_wp2_with fail
    go_loop [10] (fun i => ∃ k : Nat, k ≤ n + 16 ∧ i = .int .i64 k ∧ Hid ((bs.take k).all (fun b => b == 255) = true)) (fun i => n + 16 - (intOf i).toNat)
    case atStart => exact ⟨0, Nat.zero_le _, rfl, Lib.hid (by simp)⟩
    case round =>
      obtain ⟨k, hk, rfl, H0⟩ := hrel
      by_cases hlt : k < n + 16
      · obtain ⟨b1, o1, hA1, l1, q1⟩ := H3.at_ (by rw [List.length_map]; have := HL.out; omega)
        cases hA1
        have hkl : k < bs.length := by have := HL.out; omega
        have hr := all_take (p := fun b => b == 255) hkl
        have hm := List.getElem_mem hkl
        obtain ⟨x, hx⟩ : ∃ x, bs[k] = x := ⟨_, rfl⟩
        rw [hx] at hr hm
        have x1 : wc.cell? ⟨b, o + k, none⟩ = some (.int .u8 (x : Int)) := by rw [← hx]; exact q1 k _ (by simp [hkl, byteV])
        have HR := Lib.hid (hr.trans (by rw [H0.out, Bool.true_and]))
        have j0 : (0 : Int) ≤ (k : Int) := by omega
        have j1 : (k : Int) < (n : Int) + 16 := by omega
        clear q1 hx hr hkl
        by_cases he : x = 255
        · have t1 : ((x : Int) != 255) = false := by simp; omega
          have hn : (bs.take (k + 1)).all (fun b => b == 255) = true := HR.out.trans (by simpa using he)
          have HN := Lib.hid hn
          clear hn he hm
          go_wp2
          go_round
          case rel => exact ⟨k + 1, by omega, by go_num, HN⟩
          case measure => simp [intOf]; omega
        · have t1 : ((x : Int) != 255) = true := by simp; omega
          have hf : blankB bs = false := by
            unfold blankB
            rw [List.all_eq_false]
            exact ⟨x, hm, by simpa using he⟩
          have hs2 : st = 2 := by rw [← HST.out, hf]; rfl
          subst hs2
          clear hf he hm
          go_wp2
          obtain ⟨HBW, r0, r1, r2, r3⟩ := FIN _ rfl
          change bodyPost _ _ _ _ _ (st4 wc w.heap.size (.int .i64 0) (.int .i64 0) (.int .i64 0) (.int .i64 0))
          generalize st4 wc w.heap.size (.int .i64 0) (.int .i64 0) (.int .i64 0) (.int .i64 0) = wz at HBW r0 r1 r2 r3 ⊢
          exact bodyPost_ret (v := .tuple #[.slice none 0 0, .agg #[.int .i64 0, .int .i64 0, .int .i64 0, .int .i64 0], .int .i64 2]) (by simp [results, Try.results20, go_sem, r0, r1, r2, r3]) rfl ⟨rfl, HBW⟩
      · have j1 : ¬ (k : Int) < (n : Int) + 16 := by omega
        have hkk : k = n + 16 := by omega
        have hf : blankB bs = true := by
          have := H0.out
          rwa [hkk, ← HL.out, List.take_length] at this
        have hs2 : st = 0 := by rw [← HST.out, hf]; rfl
        subst hs2
        clear hf hkk
        go_wp2
        obtain ⟨HBW, r0, r1, r2, r3⟩ := FIN _ rfl
        change bodyPost _ _ _ _ _ (st4 wc w.heap.size (.int .i64 0) (.int .i64 0) (.int .i64 0) (.int .i64 0))
        generalize st4 wc w.heap.size (.int .i64 0) (.int .i64 0) (.int .i64 0) (.int .i64 0) = wz at HBW r0 r1 r2 r3 ⊢
        exact bodyPost_ret (v := .tuple #[.slice none 0 0, .agg #[.int .i64 0, .int .i64 0, .int .i64 0, .int .i64 0], .int .i64 0]) (by simp [results, Try.results20, go_sem, r0, r1, r2, r3]) rfl ⟨rfl, HBW⟩
  · have y0 := HG3.cell_ 0
    have y1 := HG3.cell_ 1
    have y2 := HG3.cell_ 2
    have y3 := HG3.cell_ 3
    simp at y0 y1 y2 y3
    have SD3 : Sl wc wc.heap.size (some ⟨b, o, none⟩) ((bs.take n).map byteV) := by rw [List.map_take]; exact sl_take H3 n
    obtain ⟨w3, rfl⟩ : ∃ W : World, W = wc := ⟨_, rfl⟩
    have HC := HC2.out
    clear hR HK HP HS HE H3
    go_upto_region 8 with fail
    refine wp_region_noPanic ?_
    refine wp_region_held_drew (S := (fun w' => Below w.heap.size w w' ∧ w'.cell? ⟨w1.heap.size, 0, none⟩ = some (.int .i64 (Ka : Nat)) ∧ w'.cell? ⟨w1.heap.size, 1, none⟩ = some (.int .i64 (Pa : Nat)) ∧ w'.cell? ⟨w1.heap.size, 2, none⟩ = some (.int .i64 (Sa : Nat)) ∧ w'.cell? ⟨w1.heap.size, 3, none⟩ = some (.int .i64 (Ea : Nat)))) (by kernel_rfl) ?_ (fun hHeld => ?_)
    · (first | assumption | exact ⟨HBB.drew, y0, y1, y2, y3⟩)
    refine wpAnyH_take (i := 0) (oi := { dst := some 55, op := Op.move (Operand.tmp 0), type := 22, pos := "ref.go:52", after := #[], guard := none }) (v := ?_) rfl (by kernel_rfl) (by kernel_rfl) (by kernel_rfl) (fun _ _ _ h => h) (Or.inl ⟨by rfl, ?_⟩) (by assumption) ?_
    rotate_left
    · (intro wS hSw; (try dsimp only at hSw); go_simp; (try with_reducible rfl))
    try simp only [Act.put, List.setIfInBounds_toArray, List.set_cons_zero, List.set_cons_succ]
    refine wpAnyH_take (i := 1) (oi := { dst := some 56, op := Op.move (Operand.tmp 5), type := 3, pos := "ref.go:52", after := #[], guard := none }) (v := ?_) rfl (by kernel_rfl) (by kernel_rfl) (by kernel_rfl) (fun _ _ _ h => h) (Or.inl ⟨by rfl, ?_⟩) (by assumption) ?_
    rotate_left
    · (intro wS hSw; (try dsimp only at hSw); go_simp; (try with_reducible rfl))
    try simp only [Act.put, List.setIfInBounds_toArray, List.set_cons_zero, List.set_cons_succ]
    refine wpAnyH_take (i := 2) (oi := { dst := some 57, op := Op.slice 22 (Operand.tmp 55) none (some (Operand.tmp 56)) none, type := 22, pos := "ref.go:52", after := #[{ on := 0, ground := Ground.data }, { on := 1, ground := Ground.data }], guard := none }) (v := ?_) rfl (by kernel_rfl) (by kernel_rfl) (by kernel_rfl) (fun _ _ _ h => h) (Or.inl ⟨by rfl, ?_⟩) (by assumption) ?_
    rotate_left
    · (intro wS hSw; (try dsimp only at hSw); go_simp; (try with_reducible rfl))
    try simp only [Act.put, List.setIfInBounds_toArray, List.set_cons_zero, List.set_cons_succ]
    refine wpAnyH_take (i := 4) (oi := { dst := some 59, op := Op.load 24 (Operand.tmp 7), type := 24, pos := "ref.go:52", after := #[{ on := 5, ground := Ground.gcOnly Departure.lateStores }], guard := none }) (v := ?_) rfl (by kernel_rfl) (by kernel_rfl) (by kernel_rfl) (fun _ _ _ h => h) (Or.inl ⟨by rfl, ?_⟩) (by assumption) ?_
    rotate_left
    · (intro wS hSw; (try dsimp only at hSw); go_simp; (try with_reducible rfl))
    try simp only [Act.put, List.setIfInBounds_toArray, List.set_cons_zero, List.set_cons_succ]
    refine wpAnyH_ready (rs := [3]) (by kernel_rfl) (by simp) ?_
    refine AllReadyH.cons (o := { dst := some 58, op := Op.call { callee := Callee.builtin Builtin.append, args := #[Operand.const (Value.slice none 0 0), Operand.tmp 57], argTypes := #[22, 22] }, type := 22, pos := "ref.go:52", after := #[{ on := 2, ground := Ground.data }], guard := none }) rfl (fun K hK => ?_) AllReadyH.nil
    obtain ⟨ti0, hi, hz0, hz1, hz2⟩ := info_parts infoByte
    refine step_app _ rfl (.const (.slice none 0 0)) (.tmp 57) _ rfl w3.heap.size 5 ti0 _ 1 1 Try.underlying22 hi hz0 hz1 hz2 rfl (by decide) (.slice none 0 0) 0 [] rfl (World.ownsRow_nil _ _ _ _) (some ⟨b, o, none⟩) n _ ((bs.take n).map byteV) rfl (Rd.of_sl (SD3.below ((Below.refl w3.heap.size w3).drew)) (by rw [List.length_map]; exact HLT.out)) (oneB _) (by unfold maxLen; omega) (by omega) (Nat.le_refl _) ?_
    intro s5 w5 ho5 hg5 _
    clear hi hz0 hz1 hz2
    have HX := ((Below.refl w3.heap.size w3).drew).trans (below_app (Nat.le_refl _) (Nat.le_refl _) (World.ownsRow_nil _ w3.heap.size 5 1) hg5)
    replace ho5 := own_len (Nat.zero_add n) ho5
    rw [List.nil_append] at ho5
    have HZ5 := HZ3.below HX hzd
    have HG5 := HG3.below HX hz3
    clear z0 z1 z2 z3 HZF
    have HZF := HZ5.free
    have z0 := HZ5.cell_ 0
    have z1 := HZ5.cell_ 1
    have z2 := HZ5.cell_ 2
    have z3 := HZ5.cell_ 3
    simp at z0 z1 z2 z3
    have HK5 := (show Below w.heap.size w w5 ∧ w5.cell? ⟨w1.heap.size, 0, none⟩ = some (.int .i64 (Ka : Nat)) ∧ w5.cell? ⟨w1.heap.size, 1, none⟩ = some (.int .i64 (Pa : Nat)) ∧ w5.cell? ⟨w1.heap.size, 2, none⟩ = some (.int .i64 (Sa : Nat)) ∧ w5.cell? ⟨w1.heap.size, 3, none⟩ = some (.int .i64 (Ea : Nat)) from ⟨btr HBB HBB.size HX, (HX.cell (p := ⟨w1.heap.size, 0, none⟩) hz3).trans y0, (HX.cell (p := ⟨w1.heap.size, 1, none⟩) hz3).trans y1, (HX.cell (p := ⟨w1.heap.size, 2, none⟩) hz3).trans y2, (HX.cell (p := ⟨w1.heap.size, 3, none⟩) hz3).trans y3⟩)
    refine hK.out _ _ ?_ (fun hNew => ?_)
    · (first | assumption | exact ⟨HBB.drew, y0, y1, y2, y3⟩)
    clear hK K hHeld
    have hHeld := hNew
    clear hNew
    try simp only [Act.put, List.setIfInBounds_toArray, List.set_cons_zero, List.set_cons_succ]
    refine wpAnyH_take (i := 5) (oi := { dst := some 2, op := Op.assign (Operand.tmp 58), type := 22, pos := "ref.go:52", after := #[{ on := 3, ground := Ground.data }, { on := 3, ground := Ground.chain }, { on := 0, ground := Ground.phase }, { on := 1, ground := Ground.phase }, { on := 2, ground := Ground.phase }, { on := 3, ground := Ground.phase }, { on := 4, ground := Ground.textOnly Departure.lateStores }], guard := none }) (v := ?_) rfl (by kernel_rfl) (by kernel_rfl) (by kernel_rfl) (fun _ _ _ h => h) (Or.inl ⟨by rfl, ?_⟩) (by assumption) ?_
    rotate_left
    · (intro wS hSw; (try dsimp only at hSw); go_simp; (try with_reducible rfl))
    try simp only [Act.put, List.setIfInBounds_toArray, List.set_cons_zero, List.set_cons_succ]
    refine wpAnyH_ready (rs := [6]) (by kernel_rfl) (by simp) ?_
    refine AllReadyH.cons (o := { dst := none, op := Op.store 24 (Operand.tmp 3) (Operand.tmp 59), type := 0, pos := "ref.go:52", after := #[{ on := 4, ground := Ground.data }, { on := 5, ground := Ground.chain }, { on := 0, ground := Ground.phase }, { on := 1, ground := Ground.phase }, { on := 2, ground := Ground.phase }, { on := 3, ground := Ground.phase }, { on := 4, ground := Ground.phase }, { on := 5, ground := Ground.phase }], guard := none }) rfl (fun K hK => ?_) AllReadyH.nil
    go_simp
    have HW := st4_blk HZ5 (.int .i64 (Ka : Nat)) (.int .i64 (Pa : Nat)) (.int .i64 (Sa : Nat)) (.int .i64 (Ea : Nat))
    have HBW := st4_below (btr HBB HBB.size HX) (Nat.le_refl _) (.int .i64 (Ka : Nat)) (.int .i64 (Pa : Nat)) (.int .i64 (Sa : Nat)) (.int .i64 (Ea : Nat))
    have HOW := st4_own (g := w.heap.size) (own_mono ho5 (base' := w.heap.size + 1) (by omega)) (by omega) (.int .i64 (Ka : Nat)) (.int .i64 (Pa : Nat)) (.int .i64 (Sa : Nat)) (.int .i64 (Ea : Nat))
    have HQ := st4_far HG5 (show w1.heap.size ≠ w.heap.size by omega) (.int .i64 (Ka : Nat)) (.int .i64 (Pa : Nat)) (.int .i64 (Sa : Nat)) (.int .i64 (Ea : Nat))
    change K _ (st4 w5 w.heap.size (.int .i64 (Ka : Nat)) (.int .i64 (Pa : Nat)) (.int .i64 (Sa : Nat)) (.int .i64 (Ea : Nat)))
    generalize st4 w5 w.heap.size (.int .i64 (Ka : Nat)) (.int .i64 (Pa : Nat)) (.int .i64 (Sa : Nat)) (.int .i64 (Ea : Nat)) = w6 at HW HBW HOW HQ ⊢
    have HK6 := (show Below w.heap.size w w6 ∧ w6.cell? ⟨w1.heap.size, 0, none⟩ = some (.int .i64 (Ka : Nat)) ∧ w6.cell? ⟨w1.heap.size, 1, none⟩ = some (.int .i64 (Pa : Nat)) ∧ w6.cell? ⟨w1.heap.size, 2, none⟩ = some (.int .i64 (Sa : Nat)) ∧ w6.cell? ⟨w1.heap.size, 3, none⟩ = some (.int .i64 (Ea : Nat)) from ⟨HBW, HQ.cell_ 0, HQ.cell_ 1, HQ.cell_ 2, HQ.cell_ 3⟩)
    refine hK.out _ _ ?_ (fun hNew => ?_)
    · (first | assumption | exact ⟨HBB.drew, y0, y1, y2, y3⟩)
    clear hK K hHeld
    have hHeld := hNew
    clear hNew
    try simp only [Act.put, List.setIfInBounds_toArray, List.set_cons_zero, List.set_cons_succ]
    refine wpAnyH_take (i := 7) (oi := { dst := some 4, op := Op.assign (Operand.const (Value.int IntKind.i64 1)), type := 3, pos := "ref.go:52", after := #[{ on := 6, ground := Ground.chain }, { on := 0, ground := Ground.phase }, { on := 1, ground := Ground.phase }, { on := 2, ground := Ground.phase }, { on := 3, ground := Ground.phase }, { on := 4, ground := Ground.phase }, { on := 5, ground := Ground.phase }, { on := 6, ground := Ground.phase }], guard := none }) (v := ?_) rfl (by kernel_rfl) (by kernel_rfl) (by kernel_rfl) (fun _ _ _ h => h) (Or.inl ⟨by rfl, ?_⟩) (by assumption) ?_
    rotate_left
    · (intro wS hSw; (try dsimp only at hSw); go_simp; (try with_reducible rfl))
    try simp only [Act.put, List.setIfInBounds_toArray, List.set_cons_zero, List.set_cons_succ]
    refine wpAnyH_done (by kernel_rfl) ?_ _
    refine NoPanic.normal ?_
    go_wp2
    have r0 := HW.cell_ 0
    have r1 := HW.cell_ 1
    have r2 := HW.cell_ 2
    have r3 := HW.cell_ 3
    simp at r0 r1 r2 r3
    exact bodyPost_ret (v := .tuple #[s5, .agg #[.int .i64 (Ka : Nat), .int .i64 (Pa : Nat), .int .i64 (Sa : Nat), .int .i64 (Ea : Nat)], .int .i64 1]) (by simp [results, Try.results20, go_sem, r0, r1, r2, r3]) rfl ⟨⟨s5, rfl, (by first | exact HOW | (rw [List.map_take] at HOW; exact HOW) | simpa using HOW)⟩, HBW⟩
