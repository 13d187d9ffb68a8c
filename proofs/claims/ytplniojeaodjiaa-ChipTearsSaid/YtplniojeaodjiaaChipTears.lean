/- ChipTears: the walk. -/
import Derived.Test.YtplniojeaodjiaaChQ
import Derived.Test.YtplniojeaodjiaaGeomR6
namespace Go.Proofs.Ytplniojeaodjiaa
open Go.ChangeShapes Go.WideShapes Go.ChangeAt Go.RowKit
set_option linter.unusedSimpArgs false
set_option linter.unusedVariables false

structure Arm1 (s : ChS) (n : Int) (f : Nat) : Prop where
  on : s.on = true
  cut : s.cutB = true
  bnd : s.Bnd n
  fill : s.fill = f
structure Down (s : ChS) (n : Int) : Prop where
  on : s.on = false
  bnd : s.Bnd n
theorem arm_go (m gx gb : Nat) (a b c d e : Int) (f : Nat) (n : Int) (w : World) (s : ChS) (hC : ChipW w m gx gb none 0 0 a b c d e [] s) (hs : Stand s n) (hn : n ≤ 900000000) :
    Calls Try.prog 24 #[.pointer (some ⟨m, 0, none⟩), .agg #[.int .i64 1, .int .i64 0, .int .u8 (f : Nat)]] w fun e' w' => e' = .returned (.int .i64 0) ∧ (∃ S, ChipW w' m gx gb none 0 0 a b c d e [] S ∧ Arm1 S n f ∧ (∀ B j, S.k B j = s.k B j) ∧ S.X = s.X) ∧ Tch (chB m gx gb) w w' := by
  refine (arm_yes m gx gb none 0 0 a b c d e [] 1 0 f n w s hC hs.bnd (by omega) hs.on (by omega) (by omega) (by omega) (by omega)).mono ?_
  rintro e' w' ⟨rfl, hC', hT⟩
  obtain ⟨o0, o1, c0, c1, k0, k1⟩ := hs.bnd
  exact ⟨rfl, ⟨_, hC', ⟨hs.on, by simp [ChS.cutB], ⟨o0, o1, c0, c1, k0, k1⟩, rfl⟩, fun B j => rfl, rfl⟩, hT⟩
theorem tear_go (m gx gb : Nat) (a b c d e : Int) (k f : Nat) (n : Int) (w : World) (s : ChS) (hC : ChipW w m gx gb none 0 0 a b c d e [] s) (hs : Arm1 s n f) (hf : f < 256) (hn : n ≤ 900000000) (hn0 : 20 ≤ n) (hk : (k : Int) < a) :
    Calls Try.prog 22 #[.pointer (some ⟨m, 0, none⟩), .int .i64 (k : Int)] w fun e' w' => e' = .returned (.int .i64 9) ∧ (∃ S, ChipW w' m gx gb none 0 0 a b c d e [] S ∧ Down S (n + 3) ∧ S.k (k : Int) 0 = (if f = 255 then 0 else b) ∧ S.k (k : Int) 1 = s.k (k : Int) 1 + 1 ∧ ∀ l RW N : Nat, (RW : Int) = c + 16 → (l : Int) < b → (N : Int) = (k : Int) * b + (l : Int) → S.pageOf N RW = List.replicate RW f) ∧ Tch (chB m gx gb) w w' := by
  obtain ⟨SZ, RW, hrw, hsz, hfit, z1, z2⟩ := blk_ok hC hk
  refine (erase_cut m gx gb none 0 0 a b c d e [] k SZ RW n w s hC hs.bnd (by omega) (by omega) hs.on hk (Lib.hid hs.cut) (failed_none _ _ _) (by rw [hs.fill]; exact hf) (Lib.hid hrw) hsz hfit z1 z2).mono ?_
  rintro e' w' ⟨rfl, hC', hT⟩
  have ht := tick_cut hs.cut
  obtain ⟨g1, g2, g3, g4, -⟩ := may_bd (planMay_bd hC.may).1
  have hkl : k * 3 + 3 ≤ s.tick.K.length := by rw [tick_K]; exact klen hC hk
  rw [hs.fill] at hC'
  refine ⟨rfl, ⟨_, hC', ⟨?_, bnd_mono (wipe_bnd (tick_bnd hs.bnd) (by omega) (by omega) k SZ f) (by omega)⟩, wipe_k0 hkl, ?_, ?_⟩, hT⟩
  · show s.tick.on = false
    rw [ht]
  · rw [wipe_k1 hkl]
    unfold ChS.k
    rw [tick_K]
  · intro l RW' N h1 h2 h3
    obtain rfl : RW' = RW := by omega
    have hb' : (l : Int) * (RW' : Int) + (RW' : Int) ≤ (SZ : Int) := by
      have h4 : ((l : Int) + 1) * (RW' : Int) ≤ b * (RW' : Int) := Int.mul_le_mul_of_nonneg_right (by omega) (by omega)
      rw [Int.add_mul, Int.one_mul] at h4
      rw [hsz, ← hrw]
      exact h4
    have h5 : (N : Int) * (RW' : Int) = (k : Int) * (SZ : Int) + (l : Int) * (RW' : Int) := by
      rw [h3, Int.add_mul, hsz, ← hrw, Int.mul_assoc]
    refine wipe_page (by rw [tick_X]; exact hfit) ?_ ?_ (l := l)
    · have e1 : ((N * RW' : Nat) : Int) = ((k * SZ + l * RW' : Nat) : Int) := by push_cast; exact h5
      omega
    · have e1 : ((l * RW' + RW' : Nat) : Int) ≤ (SZ : Int) := by push_cast; exact hb'
      omega
theorem boot_go (m gx gb : Nat) (a b c d e : Int) (n : Int) (w : World) (s : ChS) (hC : ChipW w m gx gb none 0 0 a b c d e [] s) (hs : Down s n) :
    Calls Try.prog 27 #[.pointer (some ⟨m, 0, none⟩)] w fun e' w' => e' = .returned (.int .i64 0) ∧ (∃ S, ChipW w' m gx gb none 0 0 a b c d e [] S ∧ Stand S n ∧ (∀ B j, S.k B j = s.k B j) ∧ S.X = s.X) ∧ Tch (chB m gx gb) w w' := by
  refine (boot_any m gx gb none 0 0 a b c d e [] w s hC).mono ?_
  rintro e' w' ⟨rfl, hC', hT⟩
  have h1 : s.bootC = 0 := by simp [ChS.bootC, hs.on]
  have h2 : s.boot = { s with on := true, armed := false } := by simp [ChS.boot, hs.on]
  rw [h2] at hC'
  rw [h1]
  obtain ⟨o0, o1, c0, c1, k0, k1⟩ := hs.bnd
  exact ⟨rfl, ⟨_, hC', ⟨rfl, rfl, ⟨o0, o1, c0, c1, k0, k1⟩⟩, fun B j => rfl, rfl⟩, hT⟩
theorem used_go (m gx gb : Nat) (a b c d e : Int) (k : Nat) (z : Int) (w : World) (s : ChS) (hC : ChipW w m gx gb none 0 0 a b c d e [] s) (hk : (k : Int) < a) (hz : s.k (k : Int) 0 = z) : Calls Try.prog 21 #[.pointer (some ⟨m, 0, none⟩), .int .i64 (k : Int)] w fun e' w' => e' = .returned (.int .i64 z) ∧ w = w' := by
  have := used_any m gx gb none 0 0 a b c d e [] (k : Int) w s hC
  rwa [show s.ask a (k : Int) 0 = z by unfold ChS.ask; rw [inB_yes (by omega) hk]; exact hz] at this
theorem wear_go (m gx gb : Nat) (a b c d e : Int) (k : Nat) (z : Int) (w : World) (s : ChS) (hC : ChipW w m gx gb none 0 0 a b c d e [] s) (hk : (k : Int) < a) (hz : s.k (k : Int) 1 = z) : Calls Try.prog 23 #[.pointer (some ⟨m, 0, none⟩), .int .i64 (k : Int)] w fun e' w' => e' = .returned (.int .i64 z) ∧ w = w' := by
  have := wear_any m gx gb none 0 0 a b c d e [] (k : Int) w s hC
  rwa [show s.ask a (k : Int) 1 = z by unfold ChS.ask; rw [inB_yes (by omega) hk]; exact hz] at this
theorem rmay_b (a b c d e : Int) (M : Bool) (w : World) (hm : Hid (mayB a b c d e = M)) :
    Calls Try.prog 15 #[.agg #[.int .i64 a, .int .i64 b, .int .i64 c, .int .i64 d, .int .i64 e]] w fun e' w' => e' = .returned (.bool M) ∧ Below w.heap.size w w' := by
  have q := rmay_any a b c d e w
  rwa [hm.out] at q
set_option maxRecDepth 100000 in
set_option maxHeartbeats 8000000 in
theorem ctears_walk (a b c d e block many : Int) (f : Nat) (w : World) (_ : i64in a ∧ i64in b ∧ i64in c ∧ i64in d ∧ i64in e) (_ : i64in block) (_ : i64in many) (hf : f < 256) :
    Calls Try.prog 8 #[.agg #[.int .i64 a, .int .i64 b, .int .i64 c, .int .i64 d, .int .i64 e], .int .i64 block, .int .i64 many, .int .u8 (f : Int)] w fun e' w' => e' = .returned (.bool true) ∧ Below w.heap.size w w' := by
  have HB0 : Below w.heap.size w (w.alloc (.cells #[.int .i64 a, .int .i64 b, .int .i64 c, .int .i64 d, .int .i64 e] 23)) := (Below.refl _ _).alloc (Nat.le_refl _) _
  have G1 : Blk (w.alloc (.cells #[.int .i64 a, .int .i64 b, .int .i64 c, .int .i64 d, .int .i64 e] 23)) w.heap.size 23 #[.int .i64 a, .int .i64 b, .int .i64 c, .int .i64 d, .int .i64 e] := Blk.new_ _ _ _
  have HY := cells5 G1
  rcases (by cases hq : mayB a b c d e <;> simp : mayB a b c d e = false ∨ mayB a b c d e = true) with hmm | hmm
  · have HM := Lib.hid hmm
    clear G1 HY hmm
    go_enter Try.func8, Try.ntmps8
    go_wp2_with (first
      | (go_at_call 11; ((with_reducible refine (new0_no _ _ _ _ _ _ HM).mono ?_); rintro e' wN ⟨rfl, hb⟩; replace HB0 := btr HB0 HB0.size hb))
      | (go_at_call 10; ((with_reducible refine (awake_any _).mono ?_); rintro e' wN ⟨rfl, hb⟩; replace HB0 := btr HB0 HB0.size hb)))
    go_ret
    exact ⟨rfl, HB0⟩
  have HM := Lib.hid hmm
  clear hmm
  obtain ⟨q1, q2, q3, q4, q5, q6, -⟩ := may_bd HM.out
  obtain ⟨k, hkk⟩ : ∃ k : Nat, lowI block a = (k : Int) := ⟨(lowI block a).toNat, by have := lowI_bd block a (by omega); omega⟩
  have hk : (k : Int) < a := by have := lowI_bd block a (by omega); omega
  obtain ⟨mm, hmm⟩ : ∃ k : Nat, lowI many (b + 1) = (k : Int) := ⟨(lowI many (b + 1)).toNat, by have := lowI_bd many (b + 1) (by omega); omega⟩
  have hmb : (mm : Int) ≤ b := by have := lowI_bd many (b + 1) (by omega); omega
  obtain ⟨RW, hRW⟩ : ∃ RW : Nat, (RW : Int) = c + 16 := ⟨(c + 16).toNat, by omega⟩
  have HRW := Lib.hid hRW
  have hrw' : c + 16 = (RW : Int) := hRW.symm
  have hwb : IntKind.i64.wrap (b + 1) = b + 1 := wrapS _ (by omega) (by omega)
  have r1 : 40 ≤ RW := by omega
  have r2 : RW ≤ 80 := by omega
  clear hRW
  go_enter Try.func8, Try.ntmps8
  go_upto_region 4 with (first
    | (go_at_call 11; ((with_reducible refine (new_go _ _ _ _ _ _ HM).mono ?_); rintro e' wN ⟨⟨m, gx, gb, S0, rfl, hC, hSt, hK0, -, -, -, hm, hgx, hgb⟩, hb⟩; have hl0 := hC.lt; replace HB0 := btr HB0 HB0.size hb; replace G1 := G1.below hb G1.lt; (try clear HY); have HY := cells5 G1))
    | (go_at_call 15; ((with_reducible refine (rmay_b _ _ _ _ _ _ _ HM).mono ?_); rintro e' wN ⟨rfl, hb⟩; replace hC := hC.below hb; replace HB0 := btr HB0 HB0.size hb; replace G1 := G1.below hb G1.lt; (try clear HY); have HY := cells5 G1)))
  have hl1 : w.heap.size < m ∧ w.heap.size < gx ∧ w.heap.size < gb := by simp at hm hgx hgb; omega
  refine wp_region_noPanic ?_
  refine wp_region_held_drew (S := (fun w' => w'.cell? ⟨w.heap.size, 0, none⟩ = some (.int .i64 a) ∧ w'.cell? ⟨w.heap.size, 1, none⟩ = some (.int .i64 b))) (by kernel_rfl) ?_ (fun hHeld => ?_)
  · (first | exact ⟨HY.1, HY.2.1⟩ | assumption)
  refine wpAnyH_take (i := 0) (oi := { dst := some 27, op := Op.move (Operand.tmp 1), type := 3, pos := "law.go:251", after := #[], guard := none }) (v := ?_) rfl (by kernel_rfl) (by kernel_rfl) (by kernel_rfl) (fun _ _ _ h => h) (Or.inl ⟨by rfl, ?_⟩) (by assumption) ?_
  rotate_left
  · (intro wS hSw; (try dsimp only at hSw); go_simp; (try with_reducible rfl))
  try simp only [Act.put, List.setIfInBounds_toArray, List.set_cons_zero, List.set_cons_succ]
  refine wpAnyH_take (i := 1) (oi := { dst := some 28, op := Op.fieldAddr 23 (Operand.tmp 4) 0, type := 0, pos := "law.go:251", after := #[], guard := none }) (v := ?_) rfl (by kernel_rfl) (by kernel_rfl) (by kernel_rfl) (fun _ _ _ h => h) (Or.inl ⟨by rfl, ?_⟩) (by assumption) ?_
  rotate_left
  · (intro wS hSw; (try dsimp only at hSw); go_simp; (try with_reducible rfl))
  try simp only [Act.put, List.setIfInBounds_toArray, List.set_cons_zero, List.set_cons_succ]
  refine wpAnyH_take (i := 2) (oi := { dst := some 29, op := Op.load 3 (Operand.tmp 28), type := 3, pos := "law.go:251", after := #[{ on := 1, ground := Ground.data }], guard := none }) (v := ?_) rfl (by kernel_rfl) (by kernel_rfl) (by kernel_rfl) (fun _ _ _ h => h) (Or.inl ⟨by rfl, ?_⟩) (by assumption) ?_
  rotate_left
  · (intro wS hSw; (try dsimp only at hSw); go_simp; (try with_reducible rfl))
  try simp only [Act.put, List.setIfInBounds_toArray, List.set_cons_zero, List.set_cons_succ]
  refine wpAnyH_take (i := 4) (oi := { dst := some 31, op := Op.move (Operand.tmp 2), type := 3, pos := "law.go:251", after := #[], guard := none }) (v := ?_) rfl (by kernel_rfl) (by kernel_rfl) (by kernel_rfl) (fun _ _ _ h => h) (Or.inl ⟨by rfl, ?_⟩) (by assumption) ?_
  rotate_left
  · (intro wS hSw; (try dsimp only at hSw); go_simp; (try with_reducible rfl))
  try simp only [Act.put, List.setIfInBounds_toArray, List.set_cons_zero, List.set_cons_succ]
  refine wpAnyH_take (i := 5) (oi := { dst := some 32, op := Op.fieldAddr 23 (Operand.tmp 4) 1, type := 0, pos := "law.go:251", after := #[], guard := none }) (v := ?_) rfl (by kernel_rfl) (by kernel_rfl) (by kernel_rfl) (fun _ _ _ h => h) (Or.inl ⟨by rfl, ?_⟩) (by assumption) ?_
  rotate_left
  · (intro wS hSw; (try dsimp only at hSw); go_simp; (try with_reducible rfl))
  try simp only [Act.put, List.setIfInBounds_toArray, List.set_cons_zero, List.set_cons_succ]
  refine wpAnyH_take (i := 6) (oi := { dst := some 33, op := Op.load 3 (Operand.tmp 32), type := 3, pos := "law.go:251", after := #[{ on := 5, ground := Ground.data }], guard := none }) (v := ?_) rfl (by kernel_rfl) (by kernel_rfl) (by kernel_rfl) (fun _ _ _ h => h) (Or.inl ⟨by rfl, ?_⟩) (by assumption) ?_
  rotate_left
  · (intro wS hSw; (try dsimp only at hSw); go_simp; (try with_reducible rfl))
  try simp only [Act.put, List.setIfInBounds_toArray, List.set_cons_zero, List.set_cons_succ]
  refine wpAnyH_take (i := 7) (oi := { dst := some 34, op := Op.binOp BinOp.add 3 (Operand.tmp 33) (Operand.const (Value.int IntKind.i64 1)) 3, type := 3, pos := "law.go:251", after := #[{ on := 6, ground := Ground.data }], guard := none }) (v := ?_) rfl (by kernel_rfl) (by kernel_rfl) (by kernel_rfl) (fun _ _ _ h => h) (Or.inl ⟨by rfl, ?_⟩) (by assumption) ?_
  rotate_left
  · (intro wS hSw; (try dsimp only at hSw); go_simp; (try with_reducible rfl))
  try simp only [Act.put, List.setIfInBounds_toArray, List.set_cons_zero, List.set_cons_succ]
  refine wpAnyH_ready (rs := [3]) (by kernel_rfl) (by simp) ?_
  refine AllReadyH.cons (o := { dst := some 30, op := Op.call { callee := Callee.value (Operand.func 16), args := #[Operand.tmp 27, Operand.tmp 29], argTypes := #[3, 3] }, type := 3, pos := "law.go:251", after := #[{ on := 0, ground := Ground.data }, { on := 2, ground := Ground.data }], guard := none }) rfl (fun K hK => ?_) AllReadyH.nil
  go_simp
  (go_at_call 16; ((with_reducible refine (low_any _ _ _ (by omega) (by omega)).mono ?_); rintro e' wN ⟨rfl, rfl⟩; skip))
  go_wp2_with fail
  refine hK.out _ _ ?_ (fun hNew => ?_)
  · (first | exact ⟨HY.1, HY.2.1⟩ | assumption)
  clear hK K hHeld
  have hHeld := hNew
  clear hNew
  try simp only [Act.put, List.setIfInBounds_toArray, List.set_cons_zero, List.set_cons_succ]
  refine wpAnyH_ready (rs := [8]) (by kernel_rfl) (by simp) ?_
  refine AllReadyH.cons (o := { dst := some 35, op := Op.call { callee := Callee.value (Operand.func 16), args := #[Operand.tmp 31, Operand.tmp 34], argTypes := #[3, 3] }, type := 3, pos := "law.go:251", after := #[{ on := 4, ground := Ground.data }, { on := 7, ground := Ground.data }, { on := 3, ground := Ground.chain }], guard := none }) rfl (fun K hK => ?_) AllReadyH.nil
  go_simp
  (go_at_call 16; ((with_reducible refine (low_any _ _ _ (by omega) (by omega)).mono ?_); rintro e' wN ⟨rfl, rfl⟩; skip))
  go_wp2_with fail
  refine hK.out _ _ ?_ (fun hNew => ?_)
  · (first | exact ⟨HY.1, HY.2.1⟩ | assumption)
  clear hK K hHeld
  have hHeld := hNew
  clear hNew
  try simp only [Act.put, List.setIfInBounds_toArray, List.set_cons_zero, List.set_cons_succ]
  refine wpAnyH_take (i := 9) (oi := { dst := some 1, op := Op.assign (Operand.tmp 30), type := 3, pos := "law.go:251", after := #[{ on := 3, ground := Ground.data }, { on := 8, ground := Ground.chain }, { on := 0, ground := Ground.phase }, { on := 1, ground := Ground.phase }, { on := 2, ground := Ground.phase }, { on := 3, ground := Ground.phase }, { on := 4, ground := Ground.textOnly Departure.lateStores }, { on := 5, ground := Ground.textOnly Departure.lateStores }, { on := 6, ground := Ground.textOnly Departure.lateStores }, { on := 7, ground := Ground.textOnly Departure.lateStores }, { on := 8, ground := Ground.textOnly Departure.lateStoresUnsure }], guard := none }) (v := ?_) rfl (by kernel_rfl) (by kernel_rfl) (by kernel_rfl) (fun _ _ _ h => h) (Or.inl ⟨by rfl, ?_⟩) (by assumption) ?_
  rotate_left
  · (intro wS hSw; (try dsimp only at hSw); go_simp; (try with_reducible rfl))
  try simp only [Act.put, List.setIfInBounds_toArray, List.set_cons_zero, List.set_cons_succ]
  refine wpAnyH_take (i := 10) (oi := { dst := some 2, op := Op.assign (Operand.tmp 35), type := 3, pos := "law.go:251", after := #[{ on := 8, ground := Ground.data }, { on := 9, ground := Ground.chain }, { on := 0, ground := Ground.phase }, { on := 1, ground := Ground.phase }, { on := 2, ground := Ground.phase }, { on := 3, ground := Ground.phase }, { on := 4, ground := Ground.phase }, { on := 5, ground := Ground.phase }, { on := 6, ground := Ground.phase }, { on := 7, ground := Ground.phase }, { on := 8, ground := Ground.phase }, { on := 9, ground := Ground.phase }], guard := none }) (v := ?_) rfl (by kernel_rfl) (by kernel_rfl) (by kernel_rfl) (fun _ _ _ h => h) (Or.inl ⟨by rfl, ?_⟩) (by assumption) ?_
  rotate_left
  · (intro wS hSw; (try dsimp only at hSw); go_simp; (try with_reducible rfl))
  try simp only [Act.put, List.setIfInBounds_toArray, List.set_cons_zero, List.set_cons_succ]
  refine wpAnyH_done (by kernel_rfl) ?_ _
  refine NoPanic.normal ?_
  go_wp2_with fail
  obtain ⟨w1, hw1⟩ : ∃ V : World, V = wN := ⟨_, rfl⟩
  clear HY hb hm hgx hgb
  rw [← hw1] at HB0 hC G1 ⊢
  have hz1 : w.heap.size < w1.heap.size := G1.lt
  clear hw1 hwb hrw'
  have hnb : ¬ chB m gx gb w.heap.size := by unfold chB; omega
  go_loopw [11] (fun s11 wr => ∃ (i : Nat) (S : ChS), i ≤ mm ∧ s11 = .int .i64 (i : Int) ∧ ChipW wr m gx gb none 0 0 a b c d e [] S ∧ Stand S (3 * (i : Int)) ∧ Hid (S.k (k : Int) 0 = (i : Int) ∧ S.k (k : Int) 1 = 0) ∧ Tch (chB m gx gb) w1 wr) (fun s11 _ => mm - (intOf s11).toNat)
  case atStart => exact ⟨0, S0, Nat.zero_le _, rfl, (by first | exact hC | exact hC.drew), hSt, Lib.hid ⟨hK0 _ _, hK0 _ _⟩, (by first | exact Tch.refl _ | exact (Tch.refl _).like)⟩
  case round =>
    clear hC hSt hK0
    obtain ⟨i, S, hi, rfl, hC, hSt, HK, HT⟩ := hrel
    by_cases hlt : i < mm
    · have i0 : (i : Int) < (mm : Int) := by omega
      go_wp2_with (first
        | (go_at_call 18; ((with_reducible refine (bytes9 RW _ (by omega) (by omega)).mono ?_); rintro e' wN ⟨⟨gA, rfl, hRA, hgA⟩, hb⟩; have hnA : ¬ chB m gx gb gA := (by have := hC.lt; unfold chB; omega); replace hC := hC.below hb; replace HT := HT.then hb; clear hb))
        | (go_at_call 17; ((with_reducible refine (prog_go _ _ _ _ _ _ _ _ k i RW gA _ (bytesL 9 RW) _ S hC hSt (by omega) hk (by omega) HRW HK.out.1 hRA hnA (bytesL_len 9 RW)).mono ?_); rintro e' wN ⟨rfl, ⟨S2, hC2, hSt2, h20, h21⟩, hT⟩; clear hC hSt; have hC := hC2; have hSt := hSt2; clear hC2 hSt2; replace HT := HT.trans hT; skip)))
      go_roundw
      case rel => exact ⟨i + 1, S2, by omega, by go_num, hC, (by rw [show 3 * ((i + 1 : Nat) : Int) = 3 * (i : Int) + 3 by omega]; exact hSt), Lib.hid ⟨by rw [h20]; omega, by rw [h21]; exact HK.out.2⟩, HT⟩
      case measure => simp [intOf]; omega
    · have i0 : ¬ (i : Int) < (mm : Int) := by omega
      have hSt : Stand S 30 := ⟨hSt.on, hSt.armed, bnd_mono hSt.bnd (by omega)⟩
      have hW : Hid (S.k (k : Int) 1 = 0) := Lib.hid HK.out.2
      go_wp2_with (first
        | (go_at_call 24; ((with_reducible refine (arm_go _ _ _ _ _ _ _ _ f 30 _ S hC hSt (by omega)).mono ?_); rintro e' wN ⟨rfl, ⟨SA, hCA, hSA, hKA, -⟩, hT⟩; clear hC hSt; have hC := hCA; clear hCA; replace HT := HT.trans hT; clear hT; have hWA : Hid (SA.k (k : Int) 1 = 0) := Lib.hid ((hKA _ _).trans hW.out); clear hKA hW))
        | (go_at_call 22; ((with_reducible refine (tear_go _ _ _ _ _ _ _ _ k f 30 _ SA hC hSA hf (by omega) (by omega) hk).mono ?_); rintro e' wN ⟨rfl, ⟨SB, hCB, hSB, hB0, hB1, hBp⟩, hT⟩; clear hC; have hC := hCB; clear hCB; replace HT := HT.trans hT; clear hT; have HB9 := Lib.hid hB0; clear hB0; have hWB : Hid (SB.k (k : Int) 1 = 1) := Lib.hid (by rw [hB1, hWA.out]; rfl); clear hB1 hWA; have HBP := Lib.hid hBp; clear hBp))
        | (go_at_call 27; ((with_reducible refine (boot_go _ _ _ _ _ _ _ _ _ _ SB hC hSB).mono ?_); rintro e' wN ⟨rfl, ⟨SC, hCC, hSC, hKC, hXC⟩, hT⟩; clear hC; have hC := hCC; clear hCC; have hSt := hSC; clear hSC; replace HT := HT.trans hT; clear hT; have hk0 := (hKC (k : Int) 0).trans HB9.out; have hW : Hid (SC.k (k : Int) 1 = 1) := Lib.hid ((hKC _ _).trans hWB.out); have hpg : Hid (∀ l RW N : Nat, (RW : Int) = c + 16 → (l : Int) < b → (N : Int) = (k : Int) * b + (l : Int) → SC.pageOf N RW = List.replicate RW f) := Lib.hid (fun l RW N h1 h2 h3 => by have := HBP.out l RW N h1 h2 h3; unfold ChS.pageOf at this ⊢; rw [hXC]; exact this); clear hKC hXC HB9 HBP hWB; have HK0 := Lib.hid hk0; clear hk0))
        | (go_at_call 23; ((with_reducible refine (wear_go _ _ _ _ _ _ _ _ k 1 _ SC hC hk hW.out).mono ?_); rintro e' wN ⟨rfl, rfl⟩; skip)))
      obtain ⟨U, hU⟩ : ∃ U, (if f = 255 then 0 else b) = U := ⟨_, rfl⟩
      have HU := Lib.hid hU
      have hk0 := HK0.out
      rw [hU] at hk0
      clear hU
      go_loopw [12] (fun s12 wr => ∃ (l : Nat) (S : ChS), (l : Int) ≤ b ∧ s12 = .int .i64 (l : Int) ∧ ChipW wr m gx gb none 0 0 a b c d e [] S ∧ Stand S (40 + (l : Int)) ∧ Hid (S.k (k : Int) 0 = U ∧ S.k (k : Int) 1 = 1 ∧ ∀ l RW N : Nat, (RW : Int) = c + 16 → (l : Int) < b → (N : Int) = (k : Int) * b + (l : Int) → S.pageOf N RW = List.replicate RW f) ∧ Tch (chB m gx gb) w1 wr) (fun s12 _ => b.toNat - (intOf s12).toNat)
      case atStart => exact ⟨0, _, by omega, rfl, (by first | exact hC | exact hC.drew), ⟨hSt.on, hSt.armed, bnd_mono hSt.bnd (by omega)⟩, Lib.hid ⟨hk0, hW.out, hpg.out⟩, (by first | exact HT | exact HT.like)⟩
      case round =>
        clear hC hSt hk0 hpg hW HK HT
        obtain ⟨l, S9, hl, rfl, hC, hSt, HK, HT⟩ := hrel
        have GR := HT.blk G1 hnb
        have HY := cells5 GR
        by_cases hlb : (l : Int) < b
        · obtain ⟨N, hN⟩ : ∃ N : Nat, (N : Int) = (k : Int) * b + (l : Int) := ⟨((k : Int) * b + (l : Int)).toNat, by have := Int.mul_nonneg (a := (k : Int)) (b := b) (by omega) (by omega); omega⟩
          have hpg := HK.out.2.2 l RW N HRW.out hlb hN
          have HPG := Lib.hid hpg
          have HN := Lib.hid hN
          clear hpg hN
          go_wp2_with (first
            | (go_at_call 19; ((with_reducible refine (read_go _ _ _ _ _ _ _ _ k l N RW _ _ S9 hC hSt (by omega) hk hlb HRW HN.out).mono ?_); rintro e' wN ⟨⟨g9, c9, rfl, hR9, -⟩, hC2, hSt2, hT⟩; clear hC hSt; have hC := hC2; have hSt := hSt2; clear hC2 hSt2; replace HT := HT.trans hT; clear hT; rw [HPG.out] at hR9; clear GR; have GR := HT.blk G1 hnb; clear HY; have HY := cells5 GR)))
          go_loop [15] (fun s15 => ∃ j : Nat, j ≤ RW ∧ s15 = .int .i64 (j : Int)) (fun s15 => RW - (intOf s15).toNat)
          case atStart => exact ⟨0, Nat.zero_le _, rfl⟩
          case round =>
            obtain ⟨j, hj, rfl⟩ := hrel
            by_cases hjr : j < RW
            · have c0 : wN.cell? ⟨g9, j, none⟩ = some (.int .u8 (f : Int)) := hR9.cell_ (by rw [List.getElem?_map, List.getElem?_replicate, if_pos hjr]; rfl)
              have j0 : (0 : Int) ≤ (j : Int) := by omega
              have j1 : (j : Int) < (RW : Int) := by omega
              go_wp2_with fail
              go_round
              case rel => exact ⟨j + 1, by omega, by go_num⟩
              case measure => simp [intOf]; omega
            · have j1 : ¬ (j : Int) < (RW : Int) := by omega
              go_wp2_with fail
              go_roundw
              case rel => exact ⟨l + 1, _, by omega, by go_num, hC, ⟨hSt.on, hSt.armed, bnd_mono hSt.bnd (by omega)⟩, Lib.hid HK.out, HT⟩
              case measure => simp [intOf]; omega
        · have hU9 : Hid (S9.k (k : Int) 0 = U) := Lib.hid HK.out.1
          have hW9 : Hid (S9.k (k : Int) 1 = 1) := Lib.hid HK.out.2.1
          have hSt : Stand S9 60 := ⟨hSt.on, hSt.armed, bnd_mono hSt.bnd (by omega)⟩
          by_cases h255 : f = 255
          · have hUU : U = 0 := by rw [← HU.out, if_pos h255]
            have hff : ((f : Int) == 255) = true := by simp [h255]
            subst hUU
            go_wp2_with (first
              | (go_at_call 21; ((with_reducible refine (used_go _ _ _ _ _ _ _ _ k _ _ S9 hC hk hU9.out).mono ?_); rintro e' wN ⟨rfl, rfl⟩; skip))
              | (go_at_call 21; ((with_reducible refine (used_go _ _ _ _ _ _ _ _ k _ _ SE hCX hk HE0.out).mono ?_); rintro e' wN ⟨rfl, rfl⟩; skip))
              | (go_at_call 22; ((with_reducible refine (erase_go _ _ _ _ _ _ _ _ k 60 _ S9 hC hSt (by omega) (by omega) hk).mono ?_); rintro e' wN ⟨rfl, ⟨SE, hCE, -, hE0, hE1⟩, hT⟩; clear hC; have hCX := hCE; clear hCE; replace HT := HT.trans hT; clear hT; have HE0 := Lib.hid hE0; have HE1 : Hid (SE.k (k : Int) 1 = 2) := Lib.hid (by rw [hE1, hW9.out]; rfl); clear hE0 hE1))
              | (go_at_call 23; ((with_reducible refine (wear_go _ _ _ _ _ _ _ _ k 2 _ SE hCX hk HE1.out).mono ?_); rintro e' wN ⟨rfl, rfl⟩; skip))
              | (go_at_call 10; ((with_reducible refine (awake_any _).mono ?_); rintro e' wN ⟨rfl, hb⟩; replace HT := HT.then hb)))
            go_ret
            exact ⟨rfl, HB0.trans (HT.below HB0.size (fun g hg => by unfold chB at hg; omega))⟩
          · have hUU : U = b := by rw [← HU.out, if_neg h255]
            have hff : ((f : Int) == 255) = false := by simp; omega
            subst hUU
            go_wp2_with (first
              | (go_at_call 21; ((with_reducible refine (used_go _ _ _ _ _ _ _ _ k _ _ S9 hC hk hU9.out).mono ?_); rintro e' wN ⟨rfl, rfl⟩; skip))
              | (go_at_call 21; ((with_reducible refine (used_go _ _ _ _ _ _ _ _ k _ _ SE hCX hk HE0.out).mono ?_); rintro e' wN ⟨rfl, rfl⟩; skip))
              | (go_at_call 22; ((with_reducible refine (erase_go _ _ _ _ _ _ _ _ k 60 _ S9 hC hSt (by omega) (by omega) hk).mono ?_); rintro e' wN ⟨rfl, ⟨SE, hCE, -, hE0, hE1⟩, hT⟩; clear hC; have hCX := hCE; clear hCE; replace HT := HT.trans hT; clear hT; have HE0 := Lib.hid hE0; have HE1 : Hid (SE.k (k : Int) 1 = 2) := Lib.hid (by rw [hE1, hW9.out]; rfl); clear hE0 hE1))
              | (go_at_call 23; ((with_reducible refine (wear_go _ _ _ _ _ _ _ _ k 2 _ SE hCX hk HE1.out).mono ?_); rintro e' wN ⟨rfl, rfl⟩; skip))
              | (go_at_call 10; ((with_reducible refine (awake_any _).mono ?_); rintro e' wN ⟨rfl, hb⟩; replace HT := HT.then hb)))
            go_ret
            exact ⟨rfl, HB0.trans (HT.below HB0.size (fun g hg => by unfold chB at hg; omega))⟩
end Go.Proofs.Ytplniojeaodjiaa
