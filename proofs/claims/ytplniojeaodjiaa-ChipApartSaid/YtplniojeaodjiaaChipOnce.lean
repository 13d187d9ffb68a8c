/- ChipOnce: the walk. -/
import Derived.Test.YtplniojeaodjiaaChU
namespace Go.Proofs.Ytplniojeaodjiaa
open Go.ChangeShapes Go.WideShapes Go.ChangeAt Go.RowKit
set_option linter.unusedSimpArgs false
set_option linter.unusedVariables false

theorem sameB_row (bs : List Nat) (RW g9 c9 gA : Nat) (w : World) (h1 : RowT w g9 5 (bs.map byteV)) (h2 : RowT w gA 5 (bs.map byteV)) (hl : bs.length = RW) (hr : RW ≤ 200) :
    Calls Try.prog 20 #[.slice (some ⟨g9, 0, none⟩) RW c9, .slice (some ⟨gA, 0, none⟩) RW RW] w fun e w' => e = .returned (.bool true) ∧ Below w.heap.size w w' := by
  have hs : ∀ g, RowT w g 5 (bs.map byteV) → Sl w w.heap.size (some ⟨g, 0, none⟩) (bs.map byteV) := fun g h => Or.inr ⟨g, 0, rfl, h.lt, fun k u hu => by simpa using h.cell_ hu⟩
  subst hl
  refine (sameB_any bs bs _ _ c9 bs.length w (hs _ h1) (hs _ h2) (by omega) (by omega)).mono ?_
  rintro e w' ⟨rfl, hb⟩
  exact ⟨by simp, hb⟩
theorem rows_at {w : World} {g RW i : Nat} {bs : List Nat} {v : Nat} (h : RowT w g 5 (bs.map byteV)) (hb : bs = List.replicate RW v) (hi : i < RW) : w.cell? ⟨g, i, none⟩ = some (.int .u8 (v : Int)) :=
  h.cell_ (by rw [hb, List.getElem?_map, List.getElem?_replicate, if_pos hi]; rfl)
/-- What stands on a block's pages while it is being filled. -/
def Filled (s : ChS) (b c : Int) (n k i : Nat) : Prop :=
  s.k (k : Int) 0 = (i : Int) ∧ s.k (k : Int) 1 = 0 ∧ ∀ l RW N : Nat, (RW : Int) = c + 16 → (l : Int) < b → (N : Int) = (k : Int) * b + (l : Int) → s.pageOf N RW = if l < i then bytesL ((n + l) % 256) RW else List.replicate RW 255
theorem Filled.next {s : ChS} {b c : Int} {n k i : Nat} (h : Filled s b c n k i) : s.k (k : Int) 0 = (i : Int) := h.1
theorem Filled.worn {s : ChS} {b c : Int} {n k i : Nat} (h : Filled s b c n k i) : s.k (k : Int) 1 = 0 := h.2.1
theorem Filled.pages {s : ChS} {b c : Int} {n k i : Nat} (h : Filled s b c n k i) : ∀ l RW N : Nat, (RW : Int) = c + 16 → (l : Int) < b → (N : Int) = (k : Int) * b + (l : Int) → s.pageOf N RW = if l < i then bytesL ((n + l) % 256) RW else List.replicate RW 255 := h.2.2
theorem Filled.of {s S : ChS} {b c : Int} {n k i : Nat} (h : Filled s b c n k i) (hk : ∀ B j, S.k B j = s.k B j) (hX : S.X = s.X) : Filled S b c n k i := by
  refine ⟨(hk _ _).trans h.1, (hk _ _).trans h.2.1, fun l RW N h1 h2 h3 => ?_⟩
  have := h.2.2 l RW N h1 h2 h3
  unfold ChS.pageOf at this ⊢
  rw [hX]
  exact this
theorem Filled.more {s S : ChS} {b c : Int} {n k i N0 RW0 : Nat} (h : Filled s b c n k i) (hr : (RW0 : Int) = c + 16) (hN : (N0 : Int) = (k : Int) * b + (i : Int)) (h0 : S.k (k : Int) 0 = (i : Int) + 1) (h1 : S.k (k : Int) 1 = s.k (k : Int) 1) (hp : S.pageOf N0 RW0 = bytesL ((n + i) % 256) RW0) (ho : ∀ N', N0 ≠ N' → S.pageOf N' RW0 = s.pageOf N' RW0) : Filled S b c n k (i + 1) := by
  refine ⟨by rw [h0]; omega, h1.trans h.2.1, fun l RW N q1 q2 q3 => ?_⟩
  obtain rfl : RW = RW0 := by omega
  by_cases hl : l = i
  · subst hl
    obtain rfl : N = N0 := by omega
    rw [hp, if_pos (by omega)]
  · rw [ho N (by omega), h.2.2 l RW N q1 q2 q3]
    by_cases h2 : l < i
    · rw [if_pos h2, if_pos (by omega)]
    · rw [if_neg h2, if_neg (by omega)]
theorem cells2 {w : World} {g : Nat} {t : TypeId} {u0 u1 : Value} (h : Blk w g t #[u0, u1]) : w.cell? ⟨g, 0, none⟩ = some u0 ∧ w.cell? ⟨g, 1, none⟩ = some u1 := ⟨h.cell_ 0, h.cell_ 1⟩
set_option maxRecDepth 100000 in
set_option maxHeartbeats 8000000 in
theorem conce_walk (a b c d e block many : Int) (n : Nat) (w : World) (_ : i64in a ∧ i64in b ∧ i64in c ∧ i64in d ∧ i64in e) (_ : i64in block) (_ : i64in many) (hf : n < 256) :
    Calls Try.prog 4 #[.agg #[.int .i64 a, .int .i64 b, .int .i64 c, .int .i64 d, .int .i64 e], .int .i64 block, .int .i64 many, .int .u8 (n : Int)] w fun e' w' => e' = .returned (.bool true) ∧ Below w.heap.size w w' := by
  have HB0 : Below w.heap.size w (w.alloc (.cells #[.int .i64 a, .int .i64 b, .int .i64 c, .int .i64 d, .int .i64 e] 23)) := (Below.refl _ _).alloc (Nat.le_refl _) _
  have G1 : Blk (w.alloc (.cells #[.int .i64 a, .int .i64 b, .int .i64 c, .int .i64 d, .int .i64 e] 23)) w.heap.size 23 #[.int .i64 a, .int .i64 b, .int .i64 c, .int .i64 d, .int .i64 e] := Blk.new_ _ _ _
  have HY := cells5 G1
  rcases (by cases hq : mayB a b c d e <;> simp : mayB a b c d e = false ∨ mayB a b c d e = true) with hmm | hmm
  · have HM := Lib.hid hmm
    clear G1 HY hmm
    go_enter Try.func4, Try.ntmps4
    go_wp2_with (first
      | (go_at_call 11; ((with_reducible refine (new0_no _ _ _ _ _ _ HM).mono ?_); rintro e' wN ⟨rfl, hb⟩; replace HB0 := btr HB0 HB0.size hb))
      | (go_at_call 10; ((with_reducible refine (awake_any _).mono ?_); rintro e' wN ⟨rfl, hb⟩; replace HB0 := btr HB0 HB0.size hb)))
    go_ret
    exact ⟨rfl, HB0⟩
  have HM := Lib.hid hmm
  clear hmm
  obtain ⟨q1, q2, q3, q4, q5, q6, -⟩ := may_bd HM.out
  obtain ⟨k, hkk⟩ : ∃ k : Nat, lowI block a = (k : Int) := ⟨(lowI block a).toNat, by have := lowI_bd block a (by omega); omega⟩
  have hk : (k : Int) < a := by have := lowI_bd block a (by omega); omega
  obtain ⟨mm, hmm⟩ : ∃ k : Nat, lowI many (b + 1) = (k : Int) := ⟨(lowI many (b + 1)).toNat, by have := lowI_bd many (b + 1) (by omega); omega⟩
  have hmb : (mm : Int) ≤ b := by have := lowI_bd many (b + 1) (by omega); omega
  obtain ⟨RW, hRW⟩ : ∃ RW : Nat, (RW : Int) = c + 16 := ⟨(c + 16).toNat, by omega⟩
  have HRW := Lib.hid hRW
  have hrw' : c + 16 = (RW : Int) := hRW.symm
  have hwb : IntKind.i64.wrap (b + 1) = b + 1 := wrapS _ (by omega) (by omega)
  have r1 : 40 ≤ RW := by omega
  have r2 : RW ≤ 80 := by omega
  clear hRW
  go_enter Try.func4, Try.ntmps4
  go_upto_region 4 with (first
    | (go_at_call 11; ((with_reducible refine (new_go _ _ _ _ _ _ HM).mono ?_); rintro e' wN ⟨⟨m, gx, gb, S0, rfl, hC, hSt, hK0, hX0, -, -, hm, hgx, hgb⟩, hb⟩; have hl0 := hC.lt; replace HB0 := btr HB0 HB0.size hb; replace G1 := G1.below hb G1.lt; (try clear HY); have HY := cells5 G1))
    | (go_at_call 15; ((with_reducible refine (rmay_b _ _ _ _ _ _ _ HM).mono ?_); rintro e' wN ⟨rfl, hb⟩; replace hC := hC.below hb; replace HB0 := btr HB0 HB0.size hb; replace G1 := G1.below hb G1.lt; (try clear HY); have HY := cells5 G1)))
  have hl1 : w.heap.size < m ∧ w.heap.size < gx ∧ w.heap.size < gb := by simp at hm hgx hgb; omega
  refine wp_region_noPanic ?_
  refine wp_region_held_drew (S := (fun w' => w'.cell? ⟨w.heap.size, 0, none⟩ = some (.int .i64 a) ∧ w'.cell? ⟨w.heap.size, 1, none⟩ = some (.int .i64 b))) (by kernel_rfl) ?_ (fun hHeld => ?_)
  · (first | exact ⟨HY.1, HY.2.1⟩ | assumption)
  refine wpAnyH_take (i := 0) (oi := { dst := some 30, op := Op.move (Operand.tmp 1), type := 3, pos := "law.go:135", after := #[], guard := none }) (v := ?_) rfl (by kernel_rfl) (by kernel_rfl) (by kernel_rfl) (fun _ _ _ h => h) (Or.inl ⟨by rfl, ?_⟩) (by assumption) ?_
  rotate_left
  · (intro wS hSw; (try dsimp only at hSw); go_simp; (try with_reducible rfl))
  try simp only [Act.put, List.setIfInBounds_toArray, List.set_cons_zero, List.set_cons_succ]
  refine wpAnyH_take (i := 1) (oi := { dst := some 31, op := Op.fieldAddr 23 (Operand.tmp 4) 0, type := 0, pos := "law.go:135", after := #[], guard := none }) (v := ?_) rfl (by kernel_rfl) (by kernel_rfl) (by kernel_rfl) (fun _ _ _ h => h) (Or.inl ⟨by rfl, ?_⟩) (by assumption) ?_
  rotate_left
  · (intro wS hSw; (try dsimp only at hSw); go_simp; (try with_reducible rfl))
  try simp only [Act.put, List.setIfInBounds_toArray, List.set_cons_zero, List.set_cons_succ]
  refine wpAnyH_take (i := 2) (oi := { dst := some 32, op := Op.load 3 (Operand.tmp 31), type := 3, pos := "law.go:135", after := #[{ on := 1, ground := Ground.data }], guard := none }) (v := ?_) rfl (by kernel_rfl) (by kernel_rfl) (by kernel_rfl) (fun _ _ _ h => h) (Or.inl ⟨by rfl, ?_⟩) (by assumption) ?_
  rotate_left
  · (intro wS hSw; (try dsimp only at hSw); go_simp; (try with_reducible rfl))
  try simp only [Act.put, List.setIfInBounds_toArray, List.set_cons_zero, List.set_cons_succ]
  refine wpAnyH_take (i := 4) (oi := { dst := some 34, op := Op.move (Operand.tmp 2), type := 3, pos := "law.go:135", after := #[], guard := none }) (v := ?_) rfl (by kernel_rfl) (by kernel_rfl) (by kernel_rfl) (fun _ _ _ h => h) (Or.inl ⟨by rfl, ?_⟩) (by assumption) ?_
  rotate_left
  · (intro wS hSw; (try dsimp only at hSw); go_simp; (try with_reducible rfl))
  try simp only [Act.put, List.setIfInBounds_toArray, List.set_cons_zero, List.set_cons_succ]
  refine wpAnyH_take (i := 5) (oi := { dst := some 35, op := Op.fieldAddr 23 (Operand.tmp 4) 1, type := 0, pos := "law.go:135", after := #[], guard := none }) (v := ?_) rfl (by kernel_rfl) (by kernel_rfl) (by kernel_rfl) (fun _ _ _ h => h) (Or.inl ⟨by rfl, ?_⟩) (by assumption) ?_
  rotate_left
  · (intro wS hSw; (try dsimp only at hSw); go_simp; (try with_reducible rfl))
  try simp only [Act.put, List.setIfInBounds_toArray, List.set_cons_zero, List.set_cons_succ]
  refine wpAnyH_take (i := 6) (oi := { dst := some 36, op := Op.load 3 (Operand.tmp 35), type := 3, pos := "law.go:135", after := #[{ on := 5, ground := Ground.data }], guard := none }) (v := ?_) rfl (by kernel_rfl) (by kernel_rfl) (by kernel_rfl) (fun _ _ _ h => h) (Or.inl ⟨by rfl, ?_⟩) (by assumption) ?_
  rotate_left
  · (intro wS hSw; (try dsimp only at hSw); go_simp; (try with_reducible rfl))
  try simp only [Act.put, List.setIfInBounds_toArray, List.set_cons_zero, List.set_cons_succ]
  refine wpAnyH_take (i := 7) (oi := { dst := some 37, op := Op.binOp BinOp.add 3 (Operand.tmp 36) (Operand.const (Value.int IntKind.i64 1)) 3, type := 3, pos := "law.go:135", after := #[{ on := 6, ground := Ground.data }], guard := none }) (v := ?_) rfl (by kernel_rfl) (by kernel_rfl) (by kernel_rfl) (fun _ _ _ h => h) (Or.inl ⟨by rfl, ?_⟩) (by assumption) ?_
  rotate_left
  · (intro wS hSw; (try dsimp only at hSw); go_simp; (try with_reducible rfl))
  try simp only [Act.put, List.setIfInBounds_toArray, List.set_cons_zero, List.set_cons_succ]
  refine wpAnyH_ready (rs := [3]) (by kernel_rfl) (by simp) ?_
  refine AllReadyH.cons (o := { dst := some 33, op := Op.call { callee := Callee.value (Operand.func 16), args := #[Operand.tmp 30, Operand.tmp 32], argTypes := #[3, 3] }, type := 3, pos := "law.go:135", after := #[{ on := 0, ground := Ground.data }, { on := 2, ground := Ground.data }], guard := none }) rfl (fun K hK => ?_) AllReadyH.nil
  go_simp
  (go_at_call 16; ((with_reducible refine (low_any _ _ _ (by omega) (by omega)).mono ?_); rintro e' wN ⟨rfl, rfl⟩; skip))
  go_wp2_with fail
  refine hK.out _ _ ?_ (fun hNew => ?_)
  · (first | exact ⟨HY.1, HY.2.1⟩ | assumption)
  clear hK K hHeld
  have hHeld := hNew
  clear hNew
  try simp only [Act.put, List.setIfInBounds_toArray, List.set_cons_zero, List.set_cons_succ]
  refine wpAnyH_ready (rs := [8]) (by kernel_rfl) (by simp) ?_
  refine AllReadyH.cons (o := { dst := some 38, op := Op.call { callee := Callee.value (Operand.func 16), args := #[Operand.tmp 34, Operand.tmp 37], argTypes := #[3, 3] }, type := 3, pos := "law.go:135", after := #[{ on := 4, ground := Ground.data }, { on := 7, ground := Ground.data }, { on := 3, ground := Ground.chain }], guard := none }) rfl (fun K hK => ?_) AllReadyH.nil
  go_simp
  (go_at_call 16; ((with_reducible refine (low_any _ _ _ (by omega) (by omega)).mono ?_); rintro e' wN ⟨rfl, rfl⟩; skip))
  go_wp2_with fail
  refine hK.out _ _ ?_ (fun hNew => ?_)
  · (first | exact ⟨HY.1, HY.2.1⟩ | assumption)
  clear hK K hHeld
  have hHeld := hNew
  clear hNew
  try simp only [Act.put, List.setIfInBounds_toArray, List.set_cons_zero, List.set_cons_succ]
  refine wpAnyH_take (i := 9) (oi := { dst := some 1, op := Op.assign (Operand.tmp 33), type := 3, pos := "law.go:135", after := #[{ on := 3, ground := Ground.data }, { on := 8, ground := Ground.chain }, { on := 0, ground := Ground.phase }, { on := 1, ground := Ground.phase }, { on := 2, ground := Ground.phase }, { on := 3, ground := Ground.phase }, { on := 4, ground := Ground.textOnly Departure.lateStores }, { on := 5, ground := Ground.textOnly Departure.lateStores }, { on := 6, ground := Ground.textOnly Departure.lateStores }, { on := 7, ground := Ground.textOnly Departure.lateStores }, { on := 8, ground := Ground.textOnly Departure.lateStoresUnsure }], guard := none }) (v := ?_) rfl (by kernel_rfl) (by kernel_rfl) (by kernel_rfl) (fun _ _ _ h => h) (Or.inl ⟨by rfl, ?_⟩) (by assumption) ?_
  rotate_left
  · (intro wS hSw; (try dsimp only at hSw); go_simp; (try with_reducible rfl))
  try simp only [Act.put, List.setIfInBounds_toArray, List.set_cons_zero, List.set_cons_succ]
  refine wpAnyH_take (i := 10) (oi := { dst := some 2, op := Op.assign (Operand.tmp 38), type := 3, pos := "law.go:135", after := #[{ on := 8, ground := Ground.data }, { on := 9, ground := Ground.chain }, { on := 0, ground := Ground.phase }, { on := 1, ground := Ground.phase }, { on := 2, ground := Ground.phase }, { on := 3, ground := Ground.phase }, { on := 4, ground := Ground.phase }, { on := 5, ground := Ground.phase }, { on := 6, ground := Ground.phase }, { on := 7, ground := Ground.phase }, { on := 8, ground := Ground.phase }, { on := 9, ground := Ground.phase }], guard := none }) (v := ?_) rfl (by kernel_rfl) (by kernel_rfl) (by kernel_rfl) (fun _ _ _ h => h) (Or.inl ⟨by rfl, ?_⟩) (by assumption) ?_
  rotate_left
  · (intro wS hSw; (try dsimp only at hSw); go_simp; (try with_reducible rfl))
  try simp only [Act.put, List.setIfInBounds_toArray, List.set_cons_zero, List.set_cons_succ]
  refine wpAnyH_done (by kernel_rfl) ?_ _
  refine NoPanic.normal ?_
  go_wp2_with fail
  obtain ⟨w1, hw1⟩ : ∃ V : World, V = wN := ⟨_, rfl⟩
  clear HY hb hm hgx hgb
  rw [← hw1] at HB0 hC G1 ⊢
  have hz1 : w.heap.size < w1.heap.size := G1.lt
  clear hw1 hwb hrw'
  have hnb : ¬ chB m gx gb w.heap.size := by unfold chB; omega
  have HF0 : Hid (Filled S0 b c n k 0) := Lib.hid ⟨hK0 _ _, hK0 _ _, fun l RW' N h1 h2 h3 => by
    obtain ⟨N', RW2, hnum, hrw, hfit, z1, z2, hN2, hNN⟩ := page_ok hC hk h2
    obtain rfl : RW2 = RW' := by omega
    obtain rfl : N' = N := by omega
    rw [if_neg (by omega)]
    exact page_new hX0 hfit⟩
  clear hX0 hK0
  go_loopw [11] (fun s11 wr => ∃ (i : Nat) (S : ChS), i ≤ mm ∧ s11 = .int .i64 (i : Int) ∧ ChipW wr m gx gb none 0 0 a b c d e [] S ∧ Stand S (5 * (i : Int)) ∧ Hid (Filled S b c n k i) ∧ Tch (chB m gx gb) w1 wr) (fun s11 _ => mm - (intOf s11).toNat)
  case atStart => exact ⟨0, S0, Nat.zero_le _, rfl, (by first | exact hC | exact hC.drew), hSt, HF0, (by first | exact Tch.refl _ | exact (Tch.refl _).like)⟩
  case round =>
    clear hC hSt HF0
    obtain ⟨i, S, hi, rfl, hC, hSt, HK, HT⟩ := hrel
    by_cases hlt : i < mm
    · have i0 : (i : Int) < (mm : Int) := by omega
      have hib : (i : Int) < b := by omega
      obtain ⟨N, hN⟩ : ∃ N : Nat, (N : Int) = (k : Int) * b + (i : Int) := ⟨((k : Int) * b + (i : Int)).toNat, by have := Int.mul_nonneg (a := (k : Int)) (b := b) (by omega) (by omega); omega⟩
      have HN := Lib.hid hN
      clear hN
      go_upto_region 10 with fail
      have hnp : ¬ chB m gx gb wr.heap.size := by have := hC.lt; unfold chB; omega
      have GP : Blk (wr.alloc (.cells #[.int .i64 (k : Int), .int .i64 (i : Int)] 33)).drew wr.heap.size 33 #[.int .i64 (k : Int), .int .i64 (i : Int)] := Blk.new_ _ _ _
      have HBA : Below wr.heap.size wr (wr.alloc (.cells #[.int .i64 (k : Int), .int .i64 (i : Int)] 33)) := (Below.refl _ _).alloc (Nat.le_refl _) _
      replace hC := (hC.below HBA).drew
      replace HT : Tch (chB m gx gb) w1 (wr.alloc (.cells #[.int .i64 (k : Int), .int .i64 (i : Int)] 33)).drew := (HT.then HBA).like
      clear HBA
      have HP := cells2 GP
      have hi0 : (0 : Int) ≤ (i : Int) := by omega
      have hwi : IntKind.i64.wrap ((i : Int) + 1) = (i : Int) + 1 := wrapS _ (by omega) (by omega)
      have hn0 : (0 : Int) ≤ (n : Int) := by omega
      refine wp_region_noPanic ?_
      refine wp_region_held_drew (S := (fun w' => w'.cell? ⟨wr.heap.size, 0, none⟩ = some (.int .i64 (k : Int)) ∧ w'.cell? ⟨wr.heap.size, 1, none⟩ = some (.int .i64 (i : Int)))) (by kernel_rfl) ?_ (fun hHeld => ?_)
      · (first | exact ⟨HP.1, HP.2⟩ | assumption)
      refine wpAnyH_take (i := 0) (oi := { dst := some 50, op := Op.move (Operand.tmp 9), type := 27, pos := "law.go:139", after := #[], guard := none }) (v := ?_) rfl (by kernel_rfl) (by kernel_rfl) (by kernel_rfl) (fun _ _ _ h => h) (Or.inl ⟨by rfl, ?_⟩) (by assumption) ?_
      rotate_left
      · (intro wS hSw; (try dsimp only at hSw); go_simp; (try with_reducible rfl))
      try simp only [Act.put, List.setIfInBounds_toArray, List.set_cons_zero, List.set_cons_succ]
      refine wpAnyH_take (i := 1) (oi := { dst := some 51, op := Op.move (Operand.tmp 1), type := 3, pos := "law.go:139", after := #[], guard := none }) (v := ?_) rfl (by kernel_rfl) (by kernel_rfl) (by kernel_rfl) (fun _ _ _ h => h) (Or.inl ⟨by rfl, ?_⟩) (by assumption) ?_
      rotate_left
      · (intro wS hSw; (try dsimp only at hSw); go_simp; (try with_reducible rfl))
      try simp only [Act.put, List.setIfInBounds_toArray, List.set_cons_zero, List.set_cons_succ]
      refine wpAnyH_take (i := 2) (oi := { dst := some 52, op := Op.move (Operand.tmp 11), type := 3, pos := "law.go:139", after := #[], guard := none }) (v := ?_) rfl (by kernel_rfl) (by kernel_rfl) (by kernel_rfl) (fun _ _ _ h => h) (Or.inl ⟨by rfl, ?_⟩) (by assumption) ?_
      rotate_left
      · (intro wS hSw; (try dsimp only at hSw); go_simp; (try with_reducible rfl))
      try simp only [Act.put, List.setIfInBounds_toArray, List.set_cons_zero, List.set_cons_succ]
      refine wpAnyH_take (i := 3) (oi := { dst := some 53, op := Op.binOp BinOp.add 3 (Operand.tmp 52) (Operand.const (Value.int IntKind.i64 1)) 3, type := 3, pos := "law.go:139", after := #[{ on := 2, ground := Ground.data }], guard := none }) (v := ?_) rfl (by kernel_rfl) (by kernel_rfl) (by kernel_rfl) (fun _ _ _ h => h) (Or.inl ⟨by rfl, ?_⟩) (by assumption) ?_
      rotate_left
      · (intro wS hSw; (try dsimp only at hSw); go_simp; (try with_reducible rfl))
      try simp only [Act.put, List.setIfInBounds_toArray, List.set_cons_zero, List.set_cons_succ]
      refine wpAnyH_take (i := 4) (oi := { dst := some 54, op := Op.build 33 #[(0, Operand.tmp 51), (1, Operand.tmp 53)], type := 33, pos := "law.go:139", after := #[{ on := 1, ground := Ground.data }, { on := 3, ground := Ground.data }], guard := none }) (v := ?_) rfl (by kernel_rfl) (by kernel_rfl) (by kernel_rfl) (fun _ _ _ h => h) (Or.inl ⟨by rfl, ?_⟩) (by assumption) ?_
      rotate_left
      · (intro wS hSw; (try dsimp only at hSw); go_simp; (try with_reducible rfl))
      try simp only [Act.put, List.setIfInBounds_toArray, List.set_cons_zero, List.set_cons_succ]
      refine wpAnyH_take (i := 5) (oi := { dst := some 55, op := Op.move (Operand.tmp 3), type := 5, pos := "law.go:139", after := #[], guard := none }) (v := ?_) rfl (by kernel_rfl) (by kernel_rfl) (by kernel_rfl) (fun _ _ _ h => h) (Or.inl ⟨by rfl, ?_⟩) (by assumption) ?_
      rotate_left
      · (intro wS hSw; (try dsimp only at hSw); go_simp; (try with_reducible rfl))
      try simp only [Act.put, List.setIfInBounds_toArray, List.set_cons_zero, List.set_cons_succ]
      refine wpAnyH_take (i := 6) (oi := { dst := some 56, op := Op.move (Operand.tmp 10), type := 3, pos := "law.go:139", after := #[], guard := none }) (v := ?_) rfl (by kernel_rfl) (by kernel_rfl) (by kernel_rfl) (fun _ _ _ h => h) (Or.inl ⟨by rfl, ?_⟩) (by assumption) ?_
      rotate_left
      · (intro wS hSw; (try dsimp only at hSw); go_simp; (try with_reducible rfl))
      try simp only [Act.put, List.setIfInBounds_toArray, List.set_cons_zero, List.set_cons_succ]
      refine wpAnyH_ready (rs := [7]) (by kernel_rfl) (by simp) ?_
      refine AllReadyH.cons (o := { dst := some 57, op := Op.call { callee := Callee.value (Operand.func 18), args := #[Operand.tmp 55, Operand.tmp 56], argTypes := #[5, 3] }, type := 48, pos := "law.go:139", after := #[{ on := 5, ground := Ground.data }, { on := 6, ground := Ground.data }], guard := none }) rfl (fun K hK => ?_) AllReadyH.nil
      go_simp
      (go_at_call 18; ((with_reducible refine (bytesZ _ (n) RW _ (by (try rw [IntKind.wrap_u8, IntKind.wrap_u8]); omega) (by omega) (by omega) (by omega)).mono ?_); rintro e' wN ⟨⟨gA, rfl, hRgA, hggA⟩, hb⟩; have hngA : ¬ chB m gx gb gA := (by have := hC.lt; unfold chB; omega); replace hC := hC.below hb; replace HT := HT.then hb; replace GP := GP.below hb GP.lt; (try clear HP); have HP := cells2 GP; clear hb hggA))
      go_wp2_with fail
      refine hK.out _ _ ?_ (fun hNew => ?_)
      · (first | exact ⟨HP.1, HP.2⟩ | assumption)
      clear hK K hHeld
      have hHeld := hNew
      clear hNew
      try simp only [Act.put, List.setIfInBounds_toArray, List.set_cons_zero, List.set_cons_succ]
      refine wpAnyH_ready (rs := [8]) (by kernel_rfl) (by simp) ?_
      refine AllReadyH.cons (o := { dst := some 58, op := Op.call { callee := Callee.value (Operand.func 17), args := #[Operand.tmp 50, Operand.tmp 54, Operand.tmp 57], argTypes := #[27, 33, 48] }, type := 46, pos := "law.go:139", after := #[{ on := 0, ground := Ground.data }, { on := 4, ground := Ground.data }, { on := 7, ground := Ground.data }, { on := 7, ground := Ground.chain }], guard := none }) rfl (fun K hK => ?_) AllReadyH.nil
      go_simp
      (go_at_call 17; ((with_reducible refine (prog_next_go _ _ _ _ _ _ _ _ k i RW gA (bytesL n RW) _ _ S hC hSt (by omega) hk hib HRW HK.out.next hRgA hngA (bytesL_len n RW)).mono ?_); rintro e' wN ⟨⟨z1, rfl, hz1⟩, ⟨S2, hC2, hSt2, hk2, hX2⟩, hT⟩; have hzb : (z1 == 0) = false := (by have := hz1.out; simpa using this); clear hC hSt; have hC := hC2; have hSt := hSt2; clear hC2 hSt2; have HK2 := Lib.hid (HK.out.of hk2 hX2); clear hk2 hX2 HK hRgA hngA; replace HT := HT.trans hT; replace GP := hT.blk GP hnp; (try clear HP); have HP := cells2 GP; clear hT))
      go_wp2_with fail
      refine hK.out _ _ ?_ (fun hNew => ?_)
      · (first | exact ⟨HP.1, HP.2⟩ | assumption)
      clear hK K hHeld
      have hHeld := hNew
      clear hNew
      try simp only [Act.put, List.setIfInBounds_toArray, List.set_cons_zero, List.set_cons_succ]
      refine wpAnyH_take (i := 9) (oi := { dst := some 59, op := Op.binOp BinOp.eql 46 (Operand.tmp 58) (Operand.const (Value.int IntKind.i64 0)) 46, type := 4, pos := "law.go:139", after := #[{ on := 8, ground := Ground.data }], guard := none }) (v := ?_) rfl (by kernel_rfl) (by kernel_rfl) (by kernel_rfl) (fun _ _ _ h => h) (Or.inl ⟨by rfl, ?_⟩) (by assumption) ?_
      rotate_left
      · (intro wS hSw; (try dsimp only at hSw); go_simp; (try with_reducible rfl))
      try simp only [Act.put, List.setIfInBounds_toArray, List.set_cons_zero, List.set_cons_succ]
      refine wpAnyH_take (i := 10) (oi := { dst := some 60, op := Op.move (Operand.tmp 59), type := 4, pos := "law.go:139", after := #[{ on := 9, ground := Ground.data }, { on := 8, ground := Ground.chain }], guard := none }) (v := ?_) rfl (by kernel_rfl) (by kernel_rfl) (by kernel_rfl) (fun _ _ _ h => h) (Or.inl ⟨by rfl, ?_⟩) (by assumption) ?_
      rotate_left
      · (intro wS hSw; (try dsimp only at hSw); go_simp; (try with_reducible rfl))
      try simp only [Act.put, List.setIfInBounds_toArray, List.set_cons_zero, List.set_cons_succ]
      refine wpAnyH_take (i := 11) (oi := { dst := some 61, op := Op.move (Operand.tmp 9), type := 27, pos := "law.go:139", after := #[{ on := 10, ground := Ground.guard }], guard := some (10, false) }) (v := ?_) rfl (by kernel_rfl) (by kernel_rfl) (by kernel_rfl) (fun _ _ _ h => h) (Or.inl ⟨by rfl, ?_⟩) (by assumption) ?_
      rotate_left
      · (intro wS hSw; (try dsimp only at hSw); go_simp; (try with_reducible rfl))
      try simp only [Act.put, List.setIfInBounds_toArray, List.set_cons_zero, List.set_cons_succ]
      refine wpAnyH_take (i := 12) (oi := { dst := some 62, op := Op.load 33 (Operand.tmp 12), type := 33, pos := "law.go:139", after := #[{ on := 10, ground := Ground.guard }], guard := some (10, false) }) (v := ?_) rfl (by kernel_rfl) (by kernel_rfl) (by kernel_rfl) (fun _ _ _ h => h) (Or.inl ⟨by rfl, ?_⟩) (by assumption) ?_
      rotate_left
      · (intro wS hSw; (try dsimp only at hSw); go_simp; (try with_reducible rfl))
      try simp only [Act.put, List.setIfInBounds_toArray, List.set_cons_zero, List.set_cons_succ]
      refine wpAnyH_take (i := 13) (oi := { dst := some 63, op := Op.move (Operand.tmp 3), type := 5, pos := "law.go:139", after := #[{ on := 10, ground := Ground.guard }], guard := some (10, false) }) (v := ?_) rfl (by kernel_rfl) (by kernel_rfl) (by kernel_rfl) (fun _ _ _ h => h) (Or.inl ⟨by rfl, ?_⟩) (by assumption) ?_
      rotate_left
      · (intro wS hSw; (try dsimp only at hSw); go_simp; (try with_reducible rfl))
      try simp only [Act.put, List.setIfInBounds_toArray, List.set_cons_zero, List.set_cons_succ]
      refine wpAnyH_take (i := 14) (oi := { dst := some 64, op := Op.move (Operand.tmp 11), type := 3, pos := "law.go:139", after := #[{ on := 10, ground := Ground.guard }], guard := some (10, false) }) (v := ?_) rfl (by kernel_rfl) (by kernel_rfl) (by kernel_rfl) (fun _ _ _ h => h) (Or.inl ⟨by rfl, ?_⟩) (by assumption) ?_
      rotate_left
      · (intro wS hSw; (try dsimp only at hSw); go_simp; (try with_reducible rfl))
      try simp only [Act.put, List.setIfInBounds_toArray, List.set_cons_zero, List.set_cons_succ]
      refine wpAnyH_take (i := 15) (oi := { dst := some 65, op := Op.convert 3 5 (Operand.tmp 64), type := 5, pos := "law.go:139", after := #[{ on := 14, ground := Ground.data }, { on := 10, ground := Ground.guard }], guard := some (10, false) }) (v := ?_) rfl (by kernel_rfl) (by kernel_rfl) (by kernel_rfl) (fun _ _ _ h => h) (Or.inl ⟨by rfl, ?_⟩) (by assumption) ?_
      rotate_left
      · (intro wS hSw; (try dsimp only at hSw); go_simp; (try with_reducible rfl))
      try simp only [Act.put, List.setIfInBounds_toArray, List.set_cons_zero, List.set_cons_succ]
      refine wpAnyH_take (i := 16) (oi := { dst := some 66, op := Op.binOp BinOp.add 5 (Operand.tmp 63) (Operand.tmp 65) 5, type := 5, pos := "law.go:139", after := #[{ on := 13, ground := Ground.data }, { on := 15, ground := Ground.data }, { on := 10, ground := Ground.guard }], guard := some (10, false) }) (v := ?_) rfl (by kernel_rfl) (by kernel_rfl) (by kernel_rfl) (fun _ _ _ h => h) (Or.inl ⟨by rfl, ?_⟩) (by assumption) ?_
      rotate_left
      · (intro wS hSw; (try dsimp only at hSw); go_simp; (try with_reducible rfl))
      try simp only [Act.put, List.setIfInBounds_toArray, List.set_cons_zero, List.set_cons_succ]
      refine wpAnyH_take (i := 17) (oi := { dst := some 67, op := Op.move (Operand.tmp 10), type := 3, pos := "law.go:139", after := #[{ on := 10, ground := Ground.guard }], guard := some (10, false) }) (v := ?_) rfl (by kernel_rfl) (by kernel_rfl) (by kernel_rfl) (fun _ _ _ h => h) (Or.inl ⟨by rfl, ?_⟩) (by assumption) ?_
      rotate_left
      · (intro wS hSw; (try dsimp only at hSw); go_simp; (try with_reducible rfl))
      try simp only [Act.put, List.setIfInBounds_toArray, List.set_cons_zero, List.set_cons_succ]
      refine wpAnyH_ready (rs := [18]) (by kernel_rfl) (by simp) ?_
      refine AllReadyH.cons (o := { dst := some 68, op := Op.call { callee := Callee.value (Operand.func 18), args := #[Operand.tmp 66, Operand.tmp 67], argTypes := #[5, 3] }, type := 48, pos := "law.go:139", after := #[{ on := 16, ground := Ground.data }, { on := 17, ground := Ground.data }, { on := 10, ground := Ground.chain }, { on := 10, ground := Ground.guard }], guard := some (10, false) }) rfl (fun K hK => ?_) AllReadyH.nil
      go_simp
      (go_at_call 18; ((with_reducible refine (bytesZ _ ((n + i) % 256) RW _ (by (try rw [IntKind.wrap_u8, IntKind.wrap_u8]); omega) (by omega) (by omega) (by omega)).mono ?_); rintro e' wN ⟨⟨gB, rfl, hRgB, hggB⟩, hb⟩; have hngB : ¬ chB m gx gb gB := (by have := hC.lt; unfold chB; omega); replace hC := hC.below hb; replace HT := HT.then hb; replace GP := GP.below hb GP.lt; (try clear HP); have HP := cells2 GP; clear hb hggB))
      go_wp2_with fail
      refine hK.out _ _ ?_ (fun hNew => ?_)
      · (first | exact ⟨HP.1, HP.2⟩ | assumption)
      clear hK K hHeld
      have hHeld := hNew
      clear hNew
      try simp only [Act.put, List.setIfInBounds_toArray, List.set_cons_zero, List.set_cons_succ]
      refine wpAnyH_ready (rs := [19]) (by kernel_rfl) (by simp) ?_
      refine AllReadyH.cons (o := { dst := some 69, op := Op.call { callee := Callee.value (Operand.func 17), args := #[Operand.tmp 61, Operand.tmp 62, Operand.tmp 68], argTypes := #[27, 33, 48] }, type := 46, pos := "law.go:139", after := #[{ on := 11, ground := Ground.data }, { on := 12, ground := Ground.data }, { on := 18, ground := Ground.data }, { on := 18, ground := Ground.chain }, { on := 10, ground := Ground.guard }], guard := some (10, false) }) rfl (fun K hK => ?_) AllReadyH.nil
      go_simp
      (go_at_call 17; ((with_reducible refine (prog_goX _ _ _ _ _ _ _ _ k i N RW gB _ (bytesL ((n + i) % 256) RW) _ S2 hC hSt (by omega) hk hib HRW HN.out HK2.out.next hRgB hngB (bytesL_len _ RW)).mono ?_); rintro e' wN ⟨rfl, ⟨S3, hC2, hSt2, h30, h31, -, -, -, h3p, h3o⟩, hT⟩; clear hC hSt; have hC := hC2; have hSt := hSt2; clear hC2 hSt2; have HK3 := Lib.hid (HK2.out.more HRW.out HN.out h30 h31 h3p h3o); clear h30 h31 h3p h3o HK2 hRgB hngB; replace HT := HT.trans hT; replace GP := hT.blk GP hnp; (try clear HP); have HP := cells2 GP; clear hT))
      go_wp2_with fail
      refine hK.out _ _ ?_ (fun hNew => ?_)
      · (first | exact ⟨HP.1, HP.2⟩ | assumption)
      clear hK K hHeld
      have hHeld := hNew
      clear hNew
      try simp only [Act.put, List.setIfInBounds_toArray, List.set_cons_zero, List.set_cons_succ]
      refine wpAnyH_take (i := 20) (oi := { dst := some 70, op := Op.binOp BinOp.neq 46 (Operand.tmp 69) (Operand.const (Value.int IntKind.i64 0)) 46, type := 4, pos := "law.go:139", after := #[{ on := 19, ground := Ground.data }, { on := 10, ground := Ground.guard }], guard := some (10, false) }) (v := ?_) rfl (by kernel_rfl) (by kernel_rfl) (by kernel_rfl) (fun _ _ _ h => h) (Or.inl ⟨by rfl, ?_⟩) (by assumption) ?_
      rotate_left
      · (intro wS hSw; (try dsimp only at hSw); go_simp; (try with_reducible rfl))
      try simp only [Act.put, List.setIfInBounds_toArray, List.set_cons_zero, List.set_cons_succ]
      refine wpAnyH_take (i := 21) (oi := { dst := some 71, op := Op.pick (Operand.tmp 60) (Operand.const (Value.bool true)) (Operand.tmp 70), type := 4, pos := "law.go:139", after := #[{ on := 10, ground := Ground.data }, { on := 20, ground := Ground.data }], guard := none }) (v := ?_) rfl (by kernel_rfl) (by kernel_rfl) (by kernel_rfl) (fun _ _ _ h => h) (Or.inl ⟨by rfl, ?_⟩) (by assumption) ?_
      rotate_left
      · (intro wS hSw; (try dsimp only at hSw); go_simp; (try with_reducible rfl))
      try simp only [Act.put, List.setIfInBounds_toArray, List.set_cons_zero, List.set_cons_succ]
      refine wpAnyH_take (i := 22) (oi := { dst := some 72, op := Op.move (Operand.tmp 71), type := 4, pos := "law.go:139", after := #[{ on := 21, ground := Ground.data }, { on := 19, ground := Ground.chain }], guard := none }) (v := ?_) rfl (by kernel_rfl) (by kernel_rfl) (by kernel_rfl) (fun _ _ _ h => h) (Or.inl ⟨by rfl, ?_⟩) (by assumption) ?_
      rotate_left
      · (intro wS hSw; (try dsimp only at hSw); go_simp; (try with_reducible rfl))
      try simp only [Act.put, List.setIfInBounds_toArray, List.set_cons_zero, List.set_cons_succ]
      refine wpAnyH_take (i := 23) (oi := { dst := some 73, op := Op.move (Operand.tmp 9), type := 27, pos := "law.go:139", after := #[{ on := 22, ground := Ground.guard }], guard := some (22, false) }) (v := ?_) rfl (by kernel_rfl) (by kernel_rfl) (by kernel_rfl) (fun _ _ _ h => h) (Or.inl ⟨by rfl, ?_⟩) (by assumption) ?_
      rotate_left
      · (intro wS hSw; (try dsimp only at hSw); go_simp; (try with_reducible rfl))
      try simp only [Act.put, List.setIfInBounds_toArray, List.set_cons_zero, List.set_cons_succ]
      refine wpAnyH_take (i := 24) (oi := { dst := some 74, op := Op.load 33 (Operand.tmp 12), type := 33, pos := "law.go:139", after := #[{ on := 22, ground := Ground.guard }], guard := some (22, false) }) (v := ?_) rfl (by kernel_rfl) (by kernel_rfl) (by kernel_rfl) (fun _ _ _ h => h) (Or.inl ⟨by rfl, ?_⟩) (by assumption) ?_
      rotate_left
      · (intro wS hSw; (try dsimp only at hSw); go_simp; (try with_reducible rfl))
      try simp only [Act.put, List.setIfInBounds_toArray, List.set_cons_zero, List.set_cons_succ]
      refine wpAnyH_take (i := 25) (oi := { dst := some 75, op := Op.move (Operand.tmp 3), type := 5, pos := "law.go:139", after := #[{ on := 22, ground := Ground.guard }], guard := some (22, false) }) (v := ?_) rfl (by kernel_rfl) (by kernel_rfl) (by kernel_rfl) (fun _ _ _ h => h) (Or.inl ⟨by rfl, ?_⟩) (by assumption) ?_
      rotate_left
      · (intro wS hSw; (try dsimp only at hSw); go_simp; (try with_reducible rfl))
      try simp only [Act.put, List.setIfInBounds_toArray, List.set_cons_zero, List.set_cons_succ]
      refine wpAnyH_take (i := 26) (oi := { dst := some 76, op := Op.move (Operand.tmp 10), type := 3, pos := "law.go:139", after := #[{ on := 22, ground := Ground.guard }], guard := some (22, false) }) (v := ?_) rfl (by kernel_rfl) (by kernel_rfl) (by kernel_rfl) (fun _ _ _ h => h) (Or.inl ⟨by rfl, ?_⟩) (by assumption) ?_
      rotate_left
      · (intro wS hSw; (try dsimp only at hSw); go_simp; (try with_reducible rfl))
      try simp only [Act.put, List.setIfInBounds_toArray, List.set_cons_zero, List.set_cons_succ]
      refine wpAnyH_ready (rs := [27]) (by kernel_rfl) (by simp) ?_
      refine AllReadyH.cons (o := { dst := some 77, op := Op.call { callee := Callee.value (Operand.func 18), args := #[Operand.tmp 75, Operand.tmp 76], argTypes := #[5, 3] }, type := 48, pos := "law.go:139", after := #[{ on := 25, ground := Ground.data }, { on := 26, ground := Ground.data }, { on := 22, ground := Ground.chain }, { on := 22, ground := Ground.guard }], guard := some (22, false) }) rfl (fun K hK => ?_) AllReadyH.nil
      go_simp
      (go_at_call 18; ((with_reducible refine (bytesZ _ (n) RW _ (by (try rw [IntKind.wrap_u8, IntKind.wrap_u8]); omega) (by omega) (by omega) (by omega)).mono ?_); rintro e' wN ⟨⟨gC, rfl, hRgC, hggC⟩, hb⟩; have hngC : ¬ chB m gx gb gC := (by have := hC.lt; unfold chB; omega); replace hC := hC.below hb; replace HT := HT.then hb; replace GP := GP.below hb GP.lt; (try clear HP); have HP := cells2 GP; clear hb hggC))
      go_wp2_with fail
      refine hK.out _ _ ?_ (fun hNew => ?_)
      · (first | exact ⟨HP.1, HP.2⟩ | assumption)
      clear hK K hHeld
      have hHeld := hNew
      clear hNew
      try simp only [Act.put, List.setIfInBounds_toArray, List.set_cons_zero, List.set_cons_succ]
      refine wpAnyH_ready (rs := [28]) (by kernel_rfl) (by simp) ?_
      refine AllReadyH.cons (o := { dst := some 78, op := Op.call { callee := Callee.value (Operand.func 17), args := #[Operand.tmp 73, Operand.tmp 74, Operand.tmp 77], argTypes := #[27, 33, 48] }, type := 46, pos := "law.go:139", after := #[{ on := 23, ground := Ground.data }, { on := 24, ground := Ground.data }, { on := 27, ground := Ground.data }, { on := 27, ground := Ground.chain }, { on := 22, ground := Ground.guard }], guard := some (22, false) }) rfl (fun K hK => ?_) AllReadyH.nil
      go_simp
      (go_at_call 17; ((with_reducible refine (prog_order_go _ _ _ _ _ _ _ _ k i RW gC _ (bytesL n RW) _ S3 hC hSt (by omega) hk hib HRW (by rw [HK3.out.next]; omega) hRgC hngC (bytesL_len n RW)).mono ?_); rintro e' wN ⟨rfl, hC2, hSt2, hT⟩; clear hC hSt; have hC := hC2; have hSt := hSt2; clear hC2 hSt2 hRgC hngC; have HK4 := Lib.hid (HK3.out.of (S := { S3 with ops := S3.ops + 1 }) (fun _ _ => rfl) rfl); clear HK3; replace HT := HT.trans hT; replace GP := hT.blk GP hnp; (try clear HP); have HP := cells2 GP; clear hT))
      go_wp2_with fail
      refine hK.out _ _ ?_ (fun hNew => ?_)
      · (first | exact ⟨HP.1, HP.2⟩ | assumption)
      clear hK K hHeld
      have hHeld := hNew
      clear hNew
      try simp only [Act.put, List.setIfInBounds_toArray, List.set_cons_zero, List.set_cons_succ]
      refine wpAnyH_take (i := 29) (oi := { dst := some 79, op := Op.binOp BinOp.eql 46 (Operand.tmp 78) (Operand.const (Value.int IntKind.i64 0)) 46, type := 4, pos := "law.go:139", after := #[{ on := 28, ground := Ground.data }, { on := 22, ground := Ground.guard }], guard := some (22, false) }) (v := ?_) rfl (by kernel_rfl) (by kernel_rfl) (by kernel_rfl) (fun _ _ _ h => h) (Or.inl ⟨by rfl, ?_⟩) (by assumption) ?_
      rotate_left
      · (intro wS hSw; (try dsimp only at hSw); go_simp; (try with_reducible rfl))
      try simp only [Act.put, List.setIfInBounds_toArray, List.set_cons_zero, List.set_cons_succ]
      refine wpAnyH_take (i := 30) (oi := { dst := some 80, op := Op.pick (Operand.tmp 72) (Operand.const (Value.bool true)) (Operand.tmp 79), type := 4, pos := "law.go:139", after := #[{ on := 22, ground := Ground.data }, { on := 29, ground := Ground.data }], guard := none }) (v := ?_) rfl (by kernel_rfl) (by kernel_rfl) (by kernel_rfl) (fun _ _ _ h => h) (Or.inl ⟨by rfl, ?_⟩) (by assumption) ?_
      rotate_left
      · (intro wS hSw; (try dsimp only at hSw); go_simp; (try with_reducible rfl))
      try simp only [Act.put, List.setIfInBounds_toArray, List.set_cons_zero, List.set_cons_succ]
      refine wpAnyH_done (by kernel_rfl) ?_ _
      refine NoPanic.normal ?_
      go_wp2_with fail
      go_roundw
      case rel => exact ⟨i + 1, _, by omega, by go_num, hC, (by rw [show 5 * ((i + 1 : Nat) : Int) = 5 * (i : Int) + 5 by omega]; exact ⟨hSt.on, hSt.armed, bnd_mono hSt.bnd (by omega)⟩), HK4, HT⟩
      case measure => simp [intOf]; omega
    · have i0 : ¬ (i : Int) < (mm : Int) := by omega
      obtain rfl : i = mm := by omega
      have hSt : Stand S 100 := ⟨hSt.on, hSt.armed, bnd_mono hSt.bnd (by omega)⟩
      go_wp2_with fail
      go_loopw [13] (fun s13 wr => ∃ (l : Nat) (S : ChS), (l : Int) ≤ b ∧ s13 = .int .i64 (l : Int) ∧ ChipW wr m gx gb none 0 0 a b c d e [] S ∧ Stand S (100 + (l : Int)) ∧ Hid (Filled S b c n k i) ∧ Tch (chB m gx gb) w1 wr) (fun s13 _ => b.toNat - (intOf s13).toNat)
      case atStart => exact ⟨0, S, by omega, rfl, (by first | exact hC | exact hC.drew), ⟨hSt.on, hSt.armed, bnd_mono hSt.bnd (by omega)⟩, HK, (by first | exact HT | exact HT.like)⟩
      case round =>
        clear hC hSt HK HT
        obtain ⟨l, S9, hl, rfl, hC, hSt, HK, HT⟩ := hrel
        have GR := HT.blk G1 hnb
        have HY := cells5 GR
        by_cases hlb : (l : Int) < b
        · obtain ⟨N, hN⟩ : ∃ N : Nat, (N : Int) = (k : Int) * b + (l : Int) := ⟨((k : Int) * b + (l : Int)).toNat, by have := Int.mul_nonneg (a := (k : Int)) (b := b) (by omega) (by omega); omega⟩
          have hpg := HK.out.pages l RW N HRW.out hlb hN
          have HN := Lib.hid hN
          clear hN
          have hl0 : (0 : Int) ≤ (l : Int) := by omega
          by_cases hli : l < i
          · rw [if_pos hli] at hpg
            have HPG := Lib.hid hpg
            have hli' : (l : Int) < (i : Int) := by omega
            clear hpg
            go_wp2_with (first
              | (go_at_call 19; ((with_reducible refine (read_go _ _ _ _ _ _ _ _ k l N RW _ _ S9 hC hSt (by omega) hk hlb HRW HN.out).mono ?_); rintro e' wN ⟨⟨g9, c9, rfl, hR9, -⟩, hC2, hSt2, hT⟩; clear hC hSt; have hC := hC2; have hSt := hSt2; clear hC2 hSt2; replace HT := HT.trans hT; clear hT; rw [HPG.out] at hR9; clear GR; have GR := HT.blk G1 hnb; clear HY; have HY := cells5 GR))
              | (go_at_call 18; ((with_reducible refine (bytesZ _ ((n + l) % 256) RW _ (by omega) (by omega) (by omega) (by omega)).mono ?_); rintro e' wN ⟨⟨gA, rfl, hRA, -⟩, hb⟩; replace hC := hC.below hb; replace HT := HT.then hb; replace hR9 := hR9.below hb; clear hb))
              | (go_at_call 20; ((with_reducible refine (sameB_row (bytesL ((n + l) % 256) RW) RW g9 _ gA _ hR9 hRA (bytesL_len _ RW) (by omega)).mono ?_); rintro e' wN ⟨rfl, hb⟩; replace hC := hC.below hb; replace HT := HT.then hb; clear hb)))
            go_roundw
            case rel => exact ⟨l + 1, _, by omega, by go_num, hC, ⟨hSt.on, hSt.armed, bnd_mono hSt.bnd (by omega)⟩, Lib.hid (HK.out.of (fun _ _ => rfl) rfl), HT⟩
            case measure => simp [intOf]; omega
          · rw [if_neg hli] at hpg
            have HPG := Lib.hid hpg
            have hli' : ¬ (l : Int) < (i : Int) := by omega
            clear hpg
            go_wp2_with (first
              | (go_at_call 19; ((with_reducible refine (read_go _ _ _ _ _ _ _ _ k l N RW _ _ S9 hC hSt (by omega) hk hlb HRW HN.out).mono ?_); rintro e' wN ⟨⟨g9, c9, rfl, hR9, -⟩, hC2, hSt2, hT⟩; clear hC hSt; have hC := hC2; have hSt := hSt2; clear hC2 hSt2; replace HT := HT.trans hT; clear hT; have cc0 := rows_at (i := 0) hR9 HPG.out (by omega); have cc1 := rows_at (i := RW - 1) hR9 HPG.out (by omega); have hrm : ((RW : Int) - 1) = ((RW - 1 : Nat) : Int) := (by omega); clear GR; have GR := HT.blk G1 hnb; clear HY; have HY := cells5 GR)))
            go_roundw
            case rel => exact ⟨l + 1, _, by omega, by go_num, hC, ⟨hSt.on, hSt.armed, bnd_mono hSt.bnd (by omega)⟩, Lib.hid (HK.out.of (fun _ _ => rfl) rfl), HT⟩
            case measure => simp [intOf]; omega
        · have hU9 : Hid (S9.k (k : Int) 0 = (i : Int)) := Lib.hid HK.out.next
          have hW9 : Hid (S9.k (k : Int) 1 = 0) := Lib.hid HK.out.worn
          have hSt : Stand S9 200 := ⟨hSt.on, hSt.armed, bnd_mono hSt.bnd (by omega)⟩
          obtain ⟨N, hN⟩ : ∃ N : Nat, (N : Int) = (k : Int) * b := ⟨((k : Int) * b).toNat, by have := Int.mul_nonneg (a := (k : Int)) (b := b) (by omega) (by omega); omega⟩
          have HN := Lib.hid hN
          clear hN HK
          have hb0 : (0 : Int) < b := by omega
          go_wp2_with (first
            | (go_at_call 21; ((with_reducible refine (used_go _ _ _ _ _ _ _ _ k _ _ S9 hC hk hU9.out).mono ?_); rintro e' wN ⟨rfl, rfl⟩; skip))
            | (go_at_call 22; ((with_reducible refine (erase_goX _ _ _ _ _ _ _ _ k 200 _ S9 hC hSt (by omega) (by omega) hk).mono ?_); rintro e' wN ⟨rfl, ⟨SE, hCE, hStE, hE0, hE1, -, -, -, hEp, -⟩, hT⟩; clear hC hSt; have hCX := hCE; have hStX := hStE; clear hCE hStE; replace HT := HT.trans hT; clear hT; have HE0 := Lib.hid hE0; have HE1 : Hid (SE.k (k : Int) 1 = 1) := Lib.hid (by rw [hE1, hW9.out]; rfl); have HEP := Lib.hid (hEp 0 RW N HRW.out (by omega) (by rw [HN.out]; simp)); clear hE0 hE1 hEp))
            | (go_at_call 19; ((with_reducible refine (read_at0 _ _ _ _ _ _ _ _ k N RW _ _ SE hCX hStX (by omega) hk hb0 HRW HN.out).mono ?_); rintro e' wN ⟨⟨g9, c9, rfl, hR9, -⟩, hC2, hSt2, hT⟩; have hCY := hC2; have hStY := hSt2; clear hC2 hSt2 hCX hStX; replace HT := HT.trans hT; clear hT; have cc0 := rows_at (i := 0) hR9 HEP.out (by omega); clear hR9; have HG0 : Hid (({ SE with ops := SE.ops + 1 } : ChS).k (k : Int) 0 = 0) := Lib.hid HE0.out; have HG1 : Hid (({ SE with ops := SE.ops + 1 } : ChS).k (k : Int) 1 = 1) := Lib.hid HE1.out; clear HE0 HE1))
            | (go_at_call 21; ((with_reducible refine (used_go _ _ _ _ _ _ _ _ k 0 _ _ hCY hk HG0.out).mono ?_); rintro e' wN ⟨rfl, rfl⟩; skip))
            | (go_at_call 23; ((with_reducible refine (wear_go _ _ _ _ _ _ _ _ k 1 _ _ hCY hk HG1.out).mono ?_); rintro e' wN ⟨rfl, rfl⟩; skip))
            | (go_at_call 18; ((with_reducible refine (bytesZ _ n RW _ rfl hf (by omega) (by omega)).mono ?_); rintro e' wN ⟨⟨gA, rfl, hRA, hgA⟩, hb⟩; have hnA : ¬ chB m gx gb gA := (by have := hCY.lt; unfold chB; omega); replace hCY := hCY.below hb; replace HT := HT.then hb; clear hb hgA))
            | (go_at_call 17; ((with_reducible refine (prog_at0 _ _ _ _ _ _ _ _ k RW gA (bytesL n RW) _ _ _ hCY hStY (by omega) hk hb0 HRW HG0.out hRA hnA (bytesL_len n RW)).mono ?_); rintro e' wN ⟨rfl, -, hT⟩; clear hCY; replace HT := HT.trans hT; clear hT))
            | (go_at_call 10; ((with_reducible refine (awake_any _).mono ?_); rintro e' wN ⟨rfl, hb⟩; replace HT := HT.then hb)))
          go_ret
          exact ⟨rfl, HB0.trans (HT.below HB0.size (fun g hg => by unfold chB at hg; omega))⟩
end Go.Proofs.Ytplniojeaodjiaa
