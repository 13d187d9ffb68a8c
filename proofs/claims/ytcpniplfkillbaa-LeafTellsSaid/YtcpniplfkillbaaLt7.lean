/- What Scan shows: a found more, if the page is valid. -/
import Derived.Test.YtcpniplfkillbaaLt6
import Derived.Test.YtcpniplfkillbaaLt1
import Derived.Test.YtcpniplfkillbaaLt5
import Derived.Test.YtcpniplfkillbaaLt2
import Derived.ScopeJumps
import Derived.WalkMore
import Derived.Deep.RegionHeld3
import Derived.Deep.DrawnRows
import Derived.Deep.DeepCutAuto
import Derived.Test.YtcpniplfkillbaaLt3
import Derived.Lib.AppendZerosOnto
set_option linter.unusedSimpArgs false
set_option linter.unusedVariables false
set_option maxRecDepth 100000
set_option maxHeartbeats 16000000
namespace Go.Proofs.Ytcpniplfkillbaa
open Go.ChangeShapes Go.WideShapes Go.ChangeAt Go.RowKit
attribute [local go_sem ↓] Go.wp_at_zero Go.wp_at_succ
structure Cap (w : World) (gs base : Nat) (L : List Fd) : Prop where
  blk : ∃ v, Blk w gs 51 #[v] ∧ RowFd w base v L
  lt : gs < base
theorem infoFdS : (Try.prog.info? 65).map (fun i => (i.zero, i.size, i.bytes)) = some (some (.agg #[.int .i64 0, .int .i64 0, .int .i64 0, .int .i64 0, .int .i64 0, .int .i64 0]), 6, 48) := by kernel_rfl
@[go_sem] theorem build_fd (x y K P S E : Int) (w : World) : (Instr.buildSlice 51 1 #[(0, (.agg #[.int .i64 x, .int .i64 y, .int .i64 K, .int .i64 P, .int .i64 S, .int .i64 E]))]).run Try.prog w = .ok (.slice (some ⟨w.heap.size, 0, none⟩) 1 1) (w.alloc (.cells #[.int .i64 x, .int .i64 y, .int .i64 K, .int .i64 P, .int .i64 S, .int .i64 E] 65)) := by kernel_rfl
theorem rd_newF (w : World) (x y K P S E : Int) {g : Nat} (hg : g = w.heap.size) : Rd (w.alloc (.cells #[.int .i64 x, .int .i64 y, .int .i64 K, .int .i64 P, .int .i64 S, .int .i64 E] 65)) (some ⟨g, 0, none⟩) 1 6 (fCs (⟨x, y, K, P, S, E⟩ : Fd)) := by
  subst hg
  refine ⟨rfl, Or.inr ⟨_, 0, rfl, fun j u hj => ?_⟩⟩
  rw [Joins.cell_of_block (heap_alloc_new w _), Nat.zero_add]
  simpa [fCs] using hj
theorem cap_grown {wN w2 : World} {gs base : Nat} {v v2 : Value} {L : List Fd} {x : Fd} (hB : Blk wN gs 51 #[v]) (hR : RowFd wN base v L) (hlt : gs < base) (hb : base ≤ wN.heap.size) (ho : w2.ownsRow base 65 6 v2 (L.length + 1) (L.flatMap fCs ++ fCs x)) (hg : wN.grownBy w2 v.ownBlock) :
    Blk w2 gs 51 #[v] ∧ ∃ wz, wz = w2.setCell ⟨gs, 0, none⟩ v2 ∧ Cap wz gs base (L ++ [x]) ∧ Tch (fun g => g = gs ∨ base ≤ g) wN wz := by
  have hat : ∀ g, v.ownBlock = some g → base ≤ g := fun g hg => by
    obtain ⟨_, h⟩ := hR
    rcases h with ⟨rfl, _⟩ | ⟨g', cap, cur, rfl, hbb, _⟩
    · simp [Value.ownBlock] at hg
    · simp [Value.ownBlock] at hg
      omega
  have hB2 : Blk w2 gs 51 #[v] := (hg.block gs hB.lt (fun he => by have := hat gs he.symm; omega)).trans hB
  have hR2 : RowFd w2 base v2 (L ++ [x]) := RowFd.snoc ho
  have hat2 : ∀ g, v2.ownBlock = some g → base ≤ g := fun g hg => by
    obtain ⟨_, h⟩ := hR2
    rcases h with ⟨rfl, _⟩ | ⟨g', cap, cur, rfl, hbb, _⟩
    · simp [Value.ownBlock] at hg
    · simp [Value.ownBlock] at hg
      omega
  refine ⟨hB2, _, rfl, ⟨⟨v2, hB2.set_ 0 v2, ?_⟩, hlt⟩, ?_⟩
  · obtain ⟨h1, h2⟩ := hR2
    refine ⟨h1, ?_⟩
    rcases h2 with h2 | ⟨g', cap, cur, rfl, hbb, hh, hr⟩
    · exact Or.inl h2
    · exact Or.inr ⟨g', cap, cur, rfl, hbb, (Below.heap_setCell w2 ⟨gs, 0, none⟩ _ g' (by show g' ≠ gs; omega)).trans hh, hr⟩
  · exact (Tch.grown hg (fun k hk => Or.inr (hat k hk))).trans (Tch.set w2 ⟨gs, 0, none⟩ v2 (Or.inl rfl))
theorem scan1_any (x y K P S E st : Int) (A : Option Addr) (n c' gs base : Nat) (L : List Fd) (w : World) (hC : Cap w gs base L) (hb : base ≤ w.heap.size) (hL : L.length ≤ 1000000) :
    Calls Try.prog 38 #[.agg #[.int .i64 x, .int .i64 y], .agg #[.slice A n c', .int .i64 K, .int .i64 P, .int .i64 S, .int .i64 E, .int .i64 st], .pointer (some ⟨gs, 0, none⟩)] w fun e' w' => e' = .returned (.tuple #[]) ∧ Cap w' gs base (if st = 1 then L ++ [(⟨x, y, K, P, S, E⟩ : Fd)] else L) ∧ Tch (fun g => g = gs ∨ base ≤ g) w w' := by
  obtain ⟨⟨v, hB, hR⟩, hlt⟩ := hC
  obtain ⟨A2, c2, rfl, _, hc2, hc3⟩ := hR.sl
  by_cases h1 : st = 1
  · subst h1
    rw [if_pos rfl]
    have HB6 : Below w.heap.size w ((w.alloc (.cells #[.int .i64 x, .int .i64 y] 27)).alloc (.cells #[.slice A n c', .int .i64 K, .int .i64 P, .int .i64 S, .int .i64 E, .int .i64 1] 83)) := ((Below.refl _ _).alloc (Nat.le_refl _) _).alloc (by simp) _
    have hB6 := hB.below HB6 hB.lt
    have hR6 := RowFd.below hR HB6
    have z0 : ((w.alloc (.cells #[.int .i64 x, .int .i64 y] 27)).alloc (.cells #[.slice A n c', .int .i64 K, .int .i64 P, .int .i64 S, .int .i64 E, .int .i64 1] 83)).cell? ⟨gs, 0, none⟩ = some (.slice A2 L.length c2) := hB6.cell_ 0
    go_enter Try.func38, Try.ntmps38
    go_wp2_with (at_builtin; go_loud (obtain ⟨ti0, hi, hz0, hz1, hz2⟩ := info_parts infoFdS; refine wpList_app _ rfl (.tmp 8) (.tmp 13) 51 rfl base 65 ti0 _ 6 48 Try.underlying51 hi hz0 hz1 hz2 rfl (by decide) (.slice A2 L.length c2) L.length (L.flatMap fCs) rfl (hR6.alloc _) _ 1 1 (fCs (⟨x, y, K, P, S, E⟩ : Fd)) rfl (rd_newF _ _ _ _ _ _ _ (by simp)) (flat_one1 _) (by unfold maxLen; omega) (by omega) (by simp; omega) ?_; intro v2 w2 ho2 hg2 hv2; obtain ⟨HX2, wz, hwz, HCZ, HTZ⟩ := cap_grown (hB6.alloc_ _) (RowFd.below hR6 ((Below.refl _ _).alloc (Nat.le_refl _) _)) hlt (by simp; omega) ho2 hg2; have x2 := HX2.cell_ 0; simp at x2; have x9 := HX2.free; have HWZ := Lib.hid hwz; have HT6 := (Tch.of_below (S := fun g => g = gs ∨ base ≤ g) (HB6.alloc HB6.size _)).trans HTZ; obtain ⟨A8, c8, hv8, _, _, _⟩ := (show RowFd w2 base v2 (L ++ [(⟨x, y, K, P, S, E⟩ : Fd)]) from RowFd.snoc ho2).sl; obtain ⟨m8, hm8⟩ : ∃ m, (L ++ [(⟨x, y, K, P, S, E⟩ : Fd)]).length = m := ⟨_, rfl⟩; rw [hm8] at hv8; subst hv8; clear hwz hm8 HTZ ho2 hg2 hv2 hi hz0 hz1 hz2))
    rw [← HWZ.out]
    exact bodyPost_end (v := .tuple #[]) (by simp [results, Try.results38, go_sem]) rfl ⟨rfl, HCZ, HT6⟩
  · rw [if_neg h1]
    have h2 : (st == 1) = false := by simpa using h1
    have HB6 : Below w.heap.size w ((w.alloc (.cells #[.int .i64 x, .int .i64 y] 27)).alloc (.cells #[.slice A n c', .int .i64 K, .int .i64 P, .int .i64 S, .int .i64 E, .int .i64 st] 83)) := ((Below.refl _ _).alloc (Nat.le_refl _) _).alloc (by simp) _
    have hB6 := hB.below HB6 hB.lt
    have hR6 := RowFd.below hR HB6
    go_enter Try.func38, Try.ntmps38
    go_wp2
    exact bodyPost_end (v := .tuple #[]) (by simp [results, Try.results38, go_sem]) rfl ⟨rfl, ⟨⟨_, hB6, hR6⟩, hlt⟩, Tch.of_below HB6⟩
end Go.Proofs.Ytcpniplfkillbaa
namespace Go.Proofs.Ytcpniplfkillbaa
open Go.ChangeShapes Go.WideShapes Go.ChangeAt Go.RowKit
attribute [local go_sem ↓] Go.wp_at_zero Go.wp_at_succ
structure Cnt (w : World) (ga gb gc : Nat) (p q r : Nat) : Prop where
  a : Blk w ga 3 #[.int .i64 (p : Int)]
  b : Blk w gb 3 #[.int .i64 (q : Int)]
  c : Blk w gc 3 #[.int .i64 (r : Int)]
  ab : ga ≠ gb
  ac : ga ≠ gc
  bc : gb ≠ gc
def cB (ga gb gc : Nat) (g : Nat) : Prop := g = ga ∨ g = gb ∨ g = gc
theorem Cnt.tch {S : Nat → Prop} {w w' : World} {ga gb gc p q r : Nat} (h : Cnt w ga gb gc p q r) (hT : Tch S w w') (h1 : ∀ g, cB ga gb gc g → ¬ S g) : Cnt w' ga gb gc p q r :=
  ⟨hT.blk h.a (h1 _ (Or.inl rfl)), hT.blk h.b (h1 _ (Or.inr (Or.inl rfl))), hT.blk h.c (h1 _ (Or.inr (Or.inr rfl))), h.ab, h.ac, h.bc⟩
theorem count1_any (x y K P S E : Int) (st : Nat) (A : Option Addr) (n c' ga gb gc p q r : Nat) (w : World) (hA : Cnt w ga gb gc p q r) (b1 : p ≤ 1000000) (b2 : q ≤ 1000000) (b3 : r ≤ 1000000) :
    Calls Try.prog 40 #[.agg #[.int .i64 x, .int .i64 y], .agg #[.slice A n c', .int .i64 K, .int .i64 P, .int .i64 S, .int .i64 E, .int .i64 (st : Nat)], .pointer (some ⟨ga, 0, none⟩), .pointer (some ⟨gb, 0, none⟩), .pointer (some ⟨gc, 0, none⟩)] w fun e' w' => e' = .returned (.tuple #[]) ∧ Cnt w' ga gb gc (if st = 0 then p + 1 else p) (if st = 1 then q + 1 else q) (if st = 0 ∨ st = 1 then r else r + 1) ∧ Tch (cB ga gb gc) w w' := by
  rcases (by omega : st = 0 ∨ st = 1 ∨ (¬ st = 0 ∧ ¬ st = 1)) with h | h | ⟨h, h1⟩
  · subst h
    simp only [if_pos, true_or, reduceIte, Nat.zero_ne_one]
    have HB6 : Below w.heap.size w ((w.alloc (.cells #[.int .i64 x, .int .i64 y] 27)).alloc (.cells #[.slice A n c', .int .i64 K, .int .i64 P, .int .i64 S, .int .i64 E, .int .i64 0] 83)) := ((Below.refl _ _).alloc (Nat.le_refl _) _).alloc (by simp) _
    have ga6 := hA.a.below HB6 hA.a.lt
    have gb6 := hA.b.below HB6 hA.b.lt
    have gc6 := hA.c.below HB6 hA.c.lt
    have z0 : ((w.alloc (.cells #[.int .i64 x, .int .i64 y] 27)).alloc (.cells #[.slice A n c', .int .i64 K, .int .i64 P, .int .i64 S, .int .i64 E, .int .i64 0] 83)).cell? ⟨ga, 0, none⟩ = some (.int .i64 (p : Int)) := ga6.cell_ 0
    have z9 : ∀ i, ((w.alloc (.cells #[.int .i64 x, .int .i64 y] 27)).alloc (.cells #[.slice A n c', .int .i64 K, .int .i64 P, .int .i64 S, .int .i64 E, .int .i64 0] 83)).frozen? ⟨ga, i, none⟩ = false := ga6.free
    have hA2 : Cnt ((w.alloc (.cells #[.int .i64 x, .int .i64 y] 27)).alloc (.cells #[.slice A n c', .int .i64 K, .int .i64 P, .int .i64 S, .int .i64 E, .int .i64 0] 83)) ga gb gc p q r := ⟨ga6, gb6, gc6, hA.ab, hA.ac, hA.bc⟩
    have hT6 := (Tch.of_below (S := cB ga gb gc) HB6).trans (Tch.set _ ⟨ga, 0, none⟩ (.int .i64 (p + 1)) (Or.inl rfl))
    have hC6 : Cnt (((w.alloc (.cells #[.int .i64 x, .int .i64 y] 27)).alloc (.cells #[.slice A n c', .int .i64 K, .int .i64 P, .int .i64 S, .int .i64 E, .int .i64 0] 83)).setCell ⟨ga, 0, none⟩ (.int .i64 (p + 1))) ga gb gc (p + 1) q r := ⟨by have := ga6.set_ 0 (.int .i64 (p + 1)); simpa using this, gb6.far (p := ⟨ga, 0, none⟩) (hA.ab.symm) _, gc6.far (p := ⟨ga, 0, none⟩) (hA.ac.symm) _, hA.ab, hA.ac, hA.bc⟩
    clear ga6 gb6 gc6 hA hA2
    go_enter Try.func40, Try.ntmps40
    go_wp2
    exact bodyPost_end (v := .tuple #[]) (by simp [results, Try.results40, go_sem]) rfl ⟨rfl, hC6, hT6⟩
  · subst h
    simp only [if_pos, or_true, reduceIte, Nat.one_ne_zero]
    have HB6 : Below w.heap.size w ((w.alloc (.cells #[.int .i64 x, .int .i64 y] 27)).alloc (.cells #[.slice A n c', .int .i64 K, .int .i64 P, .int .i64 S, .int .i64 E, .int .i64 1] 83)) := ((Below.refl _ _).alloc (Nat.le_refl _) _).alloc (by simp) _
    have ga6 := hA.a.below HB6 hA.a.lt
    have gb6 := hA.b.below HB6 hA.b.lt
    have gc6 := hA.c.below HB6 hA.c.lt
    have z0 : ((w.alloc (.cells #[.int .i64 x, .int .i64 y] 27)).alloc (.cells #[.slice A n c', .int .i64 K, .int .i64 P, .int .i64 S, .int .i64 E, .int .i64 1] 83)).cell? ⟨gb, 0, none⟩ = some (.int .i64 (q : Int)) := gb6.cell_ 0
    have z9 : ∀ i, ((w.alloc (.cells #[.int .i64 x, .int .i64 y] 27)).alloc (.cells #[.slice A n c', .int .i64 K, .int .i64 P, .int .i64 S, .int .i64 E, .int .i64 1] 83)).frozen? ⟨gb, i, none⟩ = false := gb6.free
    have hA2 : Cnt ((w.alloc (.cells #[.int .i64 x, .int .i64 y] 27)).alloc (.cells #[.slice A n c', .int .i64 K, .int .i64 P, .int .i64 S, .int .i64 E, .int .i64 1] 83)) ga gb gc p q r := ⟨ga6, gb6, gc6, hA.ab, hA.ac, hA.bc⟩
    have hT6 := (Tch.of_below (S := cB ga gb gc) HB6).trans (Tch.set _ ⟨gb, 0, none⟩ (.int .i64 (q + 1)) (Or.inr (Or.inl rfl)))
    have hC6 : Cnt (((w.alloc (.cells #[.int .i64 x, .int .i64 y] 27)).alloc (.cells #[.slice A n c', .int .i64 K, .int .i64 P, .int .i64 S, .int .i64 E, .int .i64 1] 83)).setCell ⟨gb, 0, none⟩ (.int .i64 (q + 1))) ga gb gc p (q + 1) r := ⟨ga6.far (p := ⟨gb, 0, none⟩) (hA.ab) _, by have := gb6.set_ 0 (.int .i64 (q + 1)); simpa using this, gc6.far (p := ⟨gb, 0, none⟩) (hA.bc.symm) _, hA.ab, hA.ac, hA.bc⟩
    clear ga6 gb6 gc6 hA hA2
    go_enter Try.func40, Try.ntmps40
    go_wp2
    exact bodyPost_end (v := .tuple #[]) (by simp [results, Try.results40, go_sem]) rfl ⟨rfl, hC6, hT6⟩
  · rw [if_neg h, if_neg h1, if_neg (by omega)]
    have i1 : ¬ (st : Int) = 0 := by omega
    have i2 : ¬ (st : Int) = 1 := by omega
    have HB6 : Below w.heap.size w ((w.alloc (.cells #[.int .i64 x, .int .i64 y] 27)).alloc (.cells #[.slice A n c', .int .i64 K, .int .i64 P, .int .i64 S, .int .i64 E, .int .i64 (st : Int)] 83)) := ((Below.refl _ _).alloc (Nat.le_refl _) _).alloc (by simp) _
    have ga6 := hA.a.below HB6 hA.a.lt
    have gb6 := hA.b.below HB6 hA.b.lt
    have gc6 := hA.c.below HB6 hA.c.lt
    have z0 : ((w.alloc (.cells #[.int .i64 x, .int .i64 y] 27)).alloc (.cells #[.slice A n c', .int .i64 K, .int .i64 P, .int .i64 S, .int .i64 E, .int .i64 (st : Int)] 83)).cell? ⟨gc, 0, none⟩ = some (.int .i64 (r : Int)) := gc6.cell_ 0
    have z9 : ∀ i, ((w.alloc (.cells #[.int .i64 x, .int .i64 y] 27)).alloc (.cells #[.slice A n c', .int .i64 K, .int .i64 P, .int .i64 S, .int .i64 E, .int .i64 (st : Int)] 83)).frozen? ⟨gc, i, none⟩ = false := gc6.free
    have hA2 : Cnt ((w.alloc (.cells #[.int .i64 x, .int .i64 y] 27)).alloc (.cells #[.slice A n c', .int .i64 K, .int .i64 P, .int .i64 S, .int .i64 E, .int .i64 (st : Int)] 83)) ga gb gc p q r := ⟨ga6, gb6, gc6, hA.ab, hA.ac, hA.bc⟩
    have hT6 := (Tch.of_below (S := cB ga gb gc) HB6).trans (Tch.set _ ⟨gc, 0, none⟩ (.int .i64 (r + 1)) (Or.inr (Or.inr rfl)))
    have hC6 : Cnt (((w.alloc (.cells #[.int .i64 x, .int .i64 y] 27)).alloc (.cells #[.slice A n c', .int .i64 K, .int .i64 P, .int .i64 S, .int .i64 E, .int .i64 (st : Int)] 83)).setCell ⟨gc, 0, none⟩ (.int .i64 (r + 1))) ga gb gc p q (r + 1) := ⟨ga6.far (p := ⟨gc, 0, none⟩) (hA.ac) _, gb6.far (p := ⟨gc, 0, none⟩) (hA.bc) _, by have := gc6.set_ 0 (.int .i64 (r + 1)); simpa using this, hA.ab, hA.ac, hA.bc⟩
    clear ga6 gb6 gc6 hA hA2
    go_enter Try.func40, Try.ntmps40
    go_wp2
    exact bodyPost_end (v := .tuple #[]) (by simp [results, Try.results40, go_sem]) rfl ⟨rfl, hC6, hT6⟩
end Go.Proofs.Ytcpniplfkillbaa
namespace Go.Proofs.Ytcpniplfkillbaa
open Go.ChangeShapes Go.WideShapes Go.ChangeAt Go.RowKit
theorem below3 {w w1 : World} {o o' o'' : Obj} (hb : Below (((w.alloc o).alloc o').alloc o'').heap.size (((w.alloc o).alloc o').alloc o'') w1) : Below w.heap.size w w1 :=
  ((((Below.refl _ _).alloc (Nat.le_refl _) _).alloc (by simp) _).alloc (by simp; omega) _).trans (hb.mono (by simp; omega))
theorem Next_yes (a b c d e x y : Int) (w : World) (hm : mayB a b c d e = true) (ht : thereB a b x y = true) (hl : x * b + y + 1 ≠ a * b) :
    Calls Try.prog 66 #[.agg #[.int .i64 a, .int .i64 b, .int .i64 c, .int .i64 d, .int .i64 e], .agg #[.int .i64 x, .int .i64 y]] w fun e' w' => e' = .returned (.tuple #[.agg #[.int .i64 ((x * b + y + 1) / b), .int .i64 ((x * b + y + 1) % b)], .bool true]) ∧ Below w.heap.size w w' := by
  obtain ⟨k1, k2, k3, k4, k7, k8, k5, k6, _⟩ := may_bd hm
  obtain ⟨t1, t2, t3, t4⟩ := there_bd ht
  obtain ⟨p1, p2⟩ := mul_bd (x := x) (y := b) (lo := 0) (hi := 19) (by omega) (by omega) k3 k4 (by omega) (by omega)
  obtain ⟨q1, q2⟩ := mul_bd (x := a) (y := b) k1 k2 k3 k4 (by omega) (by omega)
  have Hm := Lib.hid hm
  clear hm
  have hn : numberI a b x y = x * b + y := by simp [numberI, ht]
  have Hn := Lib.hid hn
  clear hn
  have Ht := Lib.hid ht
  clear ht
  have hl' : (x * b + y + 1 == a * b) = false := by simpa using hl
  go_enter Try.func66, Try.ntmps66
  go_wp2_with (first
    | (go_at_call 71; refine (may_any _ _ _ _ _ _).mono ?_; rw [Hm.out]; rintro e' w1 ⟨rfl, hb1⟩; obtain ⟨hc1, hf1⟩ := bcell hb1; have hz2 : w.heap.size + 2 < w1.heap.size := by { have := hb1.size; simp at this; omega }; have hz1 : w.heap.size + 1 < w1.heap.size := by { omega }; have hz0 : w.heap.size < w1.heap.size := by { omega })
    | (go_at_call 84; refine (there_any _ _ _ _ _ _ _ _ k1 k2 k3 k4).mono ?_; rw [Ht.out]; rintro e' w2 ⟨rfl, hb2⟩; obtain ⟨hc2, hf2⟩ := bcell hb2; have hy2 : w.heap.size + 2 < w2.heap.size := by { have := hb2.size; omega }; have hy1 : w.heap.size + 1 < w2.heap.size := by { omega }; have hy0 : w.heap.size < w2.heap.size := by { omega })
    | (go_at_call 77; refine (Number_any _ _ _ _ _ _ _ _).mono ?_; rw [ifMay_yes _ Hm.out, Hn.out]; rintro e' w3 ⟨rfl, hb3⟩; obtain ⟨hc3, hf3⟩ := bcell hb3; have hx2 : w.heap.size + 2 < w3.heap.size := by { have := hb3.size; omega }; have hx1 : w.heap.size + 1 < w3.heap.size := by { omega }; have hx0 : w.heap.size < w3.heap.size := by { omega }))
  go_region
  go_wp2
  refine bodyPost_ret (v := .tuple #[.agg #[.int .i64 ((x * b + y + 1) / b), .int .i64 ((x * b + y + 1) % b)], .bool true]) (by simp [results, Try.results66, go_sem, hc3, hc2, hc1, hy2, hz2]) rfl ⟨rfl, ?_⟩
  have B3 : Below w.heap.size w w3 := (below3 hb1).trans ((hb2.trans (hb3.mono hb2.size)).mono (by omega))
  exact ((B3.setCell (by simp; omega) _).setCell (by simp; omega) _).drew
def nextOk (a b c d e x y : Int) : Bool := mayB a b c d e && (thereB a b x y && decide (x * b + y + 1 ≠ a * b))
def nextX (a b c d e x y : Int) : Int := if nextOk a b c d e x y = true then (x * b + y + 1) / b else 0
def nextY (a b c d e x y : Int) : Int := if nextOk a b c d e x y = true then (x * b + y + 1) % b else 0
theorem Next_any (a b c d e x y : Int) (w : World) :
    Calls Try.prog 66 #[.agg #[.int .i64 a, .int .i64 b, .int .i64 c, .int .i64 d, .int .i64 e], .agg #[.int .i64 x, .int .i64 y]] w fun e' w' => e' = .returned (.tuple #[.agg #[.int .i64 (nextX a b c d e x y), .int .i64 (nextY a b c d e x y)], .bool (nextOk a b c d e x y)]) ∧ Below w.heap.size w w' := by
  by_cases hok : nextOk a b c d e x y = true
  · have hok' := hok
    simp only [nextOk, Bool.and_eq_true, decide_eq_true_eq] at hok'
    obtain ⟨hm, ht, hl⟩ := hok'
    simp only [nextX, nextY, hok, if_true]
    exact Next_yes a b c d e x y w hm ht hl
  · have hno : nextOk a b c d e x y = false := by simpa using hok
    simp only [nextX, nextY, hno, Bool.false_eq_true, if_false]
    cases hm : mayB a b c d e
    · have Hm := Lib.hid hm
      clear hm hok hno
      go_enter Try.func66, Try.ntmps66
      go_wp2_with (go_at_call 71; refine (may_any _ _ _ _ _ _).mono ?_; rw [Hm.out]; rintro e' w1 ⟨rfl, hb1⟩; obtain ⟨hc1, hf1⟩ := bcell hb1; have hz2 : w.heap.size + 2 < w1.heap.size := by { have := hb1.size; simp at this; omega })
      refine bodyPost_ret (v := .tuple #[.agg #[.int .i64 0, .int .i64 0], .bool false]) (by simp [results, Try.results66, go_sem, hc1]) rfl ⟨rfl, ?_⟩
      exact ((below3 hb1).setCell (by simp; omega) _).setCell (by simp; omega) _
    · obtain ⟨k1, k2, k3, k4, k7, k8, k5, k6, _⟩ := may_bd hm
      have Hm := Lib.hid hm
      clear hm
      cases ht : thereB a b x y
      · have Ht := Lib.hid ht
        clear ht hok hno
        go_enter Try.func66, Try.ntmps66
        go_wp2_with (first
          | (go_at_call 71; refine (may_any _ _ _ _ _ _).mono ?_; rw [Hm.out]; rintro e' w1 ⟨rfl, hb1⟩; obtain ⟨hc1, hf1⟩ := bcell hb1; have hz2 : w.heap.size + 2 < w1.heap.size := by { have := hb1.size; simp at this; omega }; have hz1 : w.heap.size + 1 < w1.heap.size := by { omega }; have hz0 : w.heap.size < w1.heap.size := by { omega })
          | (go_at_call 84; refine (there_any _ _ _ _ _ _ _ _ k1 k2 k3 k4).mono ?_; rw [Ht.out]; rintro e' w2 ⟨rfl, hb2⟩; obtain ⟨hc2, hf2⟩ := bcell hb2; have hy2 : w.heap.size + 2 < w2.heap.size := by { have := hb2.size; omega }))
        refine bodyPost_ret (v := .tuple #[.agg #[.int .i64 0, .int .i64 0], .bool false]) (by simp [results, Try.results66, go_sem, hc1, hc2, hz2]) rfl ⟨rfl, ?_⟩
        exact (((below3 hb1).trans (hb2.mono (by omega))).setCell (by simp; omega) _).setCell (by simp; omega) _
      · obtain ⟨t1, t2, t3, t4⟩ := there_bd ht
        obtain ⟨p1, p2⟩ := mul_bd (x := x) (y := b) (lo := 0) (hi := 19) (by omega) (by omega) k3 k4 (by omega) (by omega)
        obtain ⟨q1, q2⟩ := mul_bd (x := a) (y := b) k1 k2 k3 k4 (by omega) (by omega)
        have hl : x * b + y + 1 = a * b := by simpa [nextOk, Hm.out, ht] using hno
        have hn : numberI a b x y = x * b + y := by simp [numberI, ht]
        have Hn := Lib.hid hn
        have Ht := Lib.hid ht
        have hl' : (x * b + y + 1 == a * b) = true := by simpa using hl
        clear hn ht hok hno hl
        go_enter Try.func66, Try.ntmps66
        go_wp2_with (first
          | (go_at_call 71; refine (may_any _ _ _ _ _ _).mono ?_; rw [Hm.out]; rintro e' w1 ⟨rfl, hb1⟩; obtain ⟨hc1, hf1⟩ := bcell hb1; have hz2 : w.heap.size + 2 < w1.heap.size := by { have := hb1.size; simp at this; omega }; have hz1 : w.heap.size + 1 < w1.heap.size := by { omega }; have hz0 : w.heap.size < w1.heap.size := by { omega })
          | (go_at_call 84; refine (there_any _ _ _ _ _ _ _ _ k1 k2 k3 k4).mono ?_; rw [Ht.out]; rintro e' w2 ⟨rfl, hb2⟩; obtain ⟨hc2, hf2⟩ := bcell hb2; have hy2 : w.heap.size + 2 < w2.heap.size := by { have := hb2.size; omega }; have hy1 : w.heap.size + 1 < w2.heap.size := by { omega }; have hy0 : w.heap.size < w2.heap.size := by { omega })
          | (go_at_call 77; refine (Number_any _ _ _ _ _ _ _ _).mono ?_; rw [ifMay_yes _ Hm.out, Hn.out]; rintro e' w3 ⟨rfl, hb3⟩; obtain ⟨hc3, hf3⟩ := bcell hb3; have hx2 : w.heap.size + 2 < w3.heap.size := by { have := hb3.size; omega }; have hx1 : w.heap.size + 1 < w3.heap.size := by { omega }; have hx0 : w.heap.size < w3.heap.size := by { omega }))
        refine bodyPost_ret (v := .tuple #[.agg #[.int .i64 0, .int .i64 0], .bool false]) (by simp [results, Try.results66, go_sem, hc1, hc2, hc3, hz2, hy2]) rfl ⟨rfl, ?_⟩
        have B3 : Below w.heap.size w w3 := (below3 hb1).trans ((hb2.trans (hb3.mono hb2.size)).mono (by omega))
        exact (B3.setCell (by simp; omega) _).setCell (by simp; omega) _
end Go.Proofs.Ytcpniplfkillbaa
namespace Go.Proofs.Ytcpniplfkillbaa
open Go.ChangeShapes Go.WideShapes Go.ChangeAt Go.RowKit
abbrev Vis := Nat × Nat × List Nat
def walkF (a b c : Int) (NB : Nat) (fs : List Flt) : Nat → Nat → ChS → List Vis → Int × List Vis × ChS
  | 0, _, s, acc => (0, acc, s)
  | r + 1, i, s, acc =>
    if badB fs ((i / NB : Nat) : Int) = true then walkF a b c NB fs r (i + 1) s acc
    else if s.readZ a b ((i / NB : Nat) : Int) ((i % NB : Nat) : Int) = 0 then walkF a b c NB fs r (i + 1) (s.readS a b ((i / NB : Nat) : Int) ((i % NB : Nat) : Int)) (acc ++ [(i / NB, i % NB, s.readB a b c ((i / NB : Nat) : Int) ((i % NB : Nat) : Int))])
    else (s.readZ a b ((i / NB : Nat) : Int) ((i % NB : Nat) : Int), acc, s.readS a b ((i / NB : Nat) : Int) ((i % NB : Nat) : Int))
def fdOf (v : Vis) : List Fd := if readSt v.2.2 = 1 then [⟨(v.1 : Int), (v.2.1 : Int), ((lkT v.2.2).1 : Int), ((lkT v.2.2).2.1 : Int), ((lkT v.2.2).2.2.1 : Int), ((lkT v.2.2).2.2.2 : Int)⟩] else []
def fdsOf (l : List Vis) : List Fd := l.flatMap fdOf
theorem fdsOf_snoc (l : List Vis) (v : Vis) : fdsOf (l ++ [v]) = fdsOf l ++ fdOf v := by simp [fdsOf]
theorem fdOf_lk {k l : Nat} {bs D : List Nat} {n K P S E st : Nat} (h : Lk bs D n K P S E st) : fdOf (k, l, bs) = if st = 1 then [⟨(k : Int), (l : Int), (K : Int), (P : Int), (S : Int), (E : Int)⟩] else [] := by
  obtain ⟨_, _, h3, h4⟩ := h
  unfold fdOf
  rw [h4]
  simp only [h3]
theorem fdsOf_len (l : List Vis) : (fdsOf l).length ≤ l.length := by
  induction l with
  | nil => simp [fdsOf]
  | cons v l ih =>
    have : fdsOf (v :: l) = fdOf v ++ fdsOf l := rfl
    rw [this, List.length_append, List.length_cons]
    have : (fdOf v).length ≤ 1 := by unfold fdOf; split <;> simp
    omega
def cnt (p : Nat → Bool) (l : List Vis) : Nat := (l.filter fun v => p (readSt v.2.2)).length
theorem cnt_snoc (p : Nat → Bool) (l : List Vis) (v : Vis) : cnt p (l ++ [v]) = if p (readSt v.2.2) = true then cnt p l + 1 else cnt p l := by
  unfold cnt
  rw [List.filter_append]
  by_cases h : p (readSt v.2.2) = true
  · rw [if_pos h]
    simp [h]
  · rw [if_neg h]
    simp [h]
theorem cnt_len (p : Nat → Bool) (l : List Vis) : cnt p l ≤ l.length := List.length_filter_le _ _
theorem walkF_bad {a b c : Int} {NB r i : Nat} {fs : List Flt} {s : ChS} {acc : List Vis} (h : badB fs ((i / NB : Nat) : Int) = true) : walkF a b c NB fs (r + 1) i s acc = walkF a b c NB fs r (i + 1) s acc := by
  rw [walkF, if_pos h]
theorem walkF_ok {a b c : Int} {NB r i : Nat} {fs : List Flt} {s S1 : ChS} {acc : List Vis} {bs : List Nat} (h : badB fs ((i / NB : Nat) : Int) = false) (hz : s.readZ a b ((i / NB : Nat) : Int) ((i % NB : Nat) : Int) = 0) (h1 : s.readS a b ((i / NB : Nat) : Int) ((i % NB : Nat) : Int) = S1) (h2 : s.readB a b c ((i / NB : Nat) : Int) ((i % NB : Nat) : Int) = bs) : walkF a b c NB fs (r + 1) i s acc = walkF a b c NB fs r (i + 1) S1 (acc ++ [(i / NB, i % NB, bs)]) := by
  rw [walkF, if_neg (by rw [h]; simp), if_pos hz, h1, h2]
theorem walkF_err {a b c : Int} {NB r i : Nat} {fs : List Flt} {s S1 : ChS} {acc : List Vis} {Z : Int} (h : badB fs ((i / NB : Nat) : Int) = false) (hz : s.readZ a b ((i / NB : Nat) : Int) ((i % NB : Nat) : Int) = Z) (hne : Z ≠ 0) (h1 : s.readS a b ((i / NB : Nat) : Int) ((i % NB : Nat) : Int) = S1) : walkF a b c NB fs (r + 1) i s acc = (Z, acc, S1) := by
  rw [walkF, if_neg (by rw [h]; simp), if_neg (by rw [hz]; exact hne), hz, h1]
theorem divmod {i NA NB : Nat} (hB : 0 < NB) (h : i < NA * NB) : i / NB < NA ∧ i % NB < NB ∧ i / NB * NB + i % NB = i := ⟨Nat.div_lt_of_lt_mul (by rw [Nat.mul_comm]; exact h), Nat.mod_lt _ hB, by rw [Nat.mul_comm]; exact Nat.div_add_mod i NB⟩
theorem there_in {a b : Int} {NA NB i : Nat} (hA : (NA : Int) = a) (hB : (NB : Int) = b) (h0 : 0 < NB) (h : i < NA * NB) : thereB a b ((i / NB : Nat) : Int) ((i % NB : Nat) : Int) = true := by
  obtain ⟨h1, h2, _⟩ := divmod h0 h
  generalize i / NB = q at h1 ⊢
  generalize i % NB = r at h2 ⊢
  unfold thereB withinB
  simp
  omega
theorem next_at (a b c d e : Int) (NA NB i : Nat) (w : World) (hm : mayB a b c d e = true) (hA : (NA : Int) = a) (hB : (NB : Int) = b) (h0 : 0 < NB) (h : i < NA * NB) (X Y : Int) (T : Bool) (hX : Hid (X = (if i + 1 < NA * NB then (((i + 1) / NB : Nat) : Int) else 0) ∧ Y = (if i + 1 < NA * NB then (((i + 1) % NB : Nat) : Int) else 0) ∧ T = decide (i + 1 < NA * NB))) :
    Calls Try.prog 66 #[.agg #[.int .i64 a, .int .i64 b, .int .i64 c, .int .i64 d, .int .i64 e], .agg #[.int .i64 ((i / NB : Nat) : Int), .int .i64 ((i % NB : Nat) : Int)]] w fun e' w' => e' = .returned (.tuple #[.agg #[.int .i64 X, .int .i64 Y], .bool T]) ∧ Below w.heap.size w w' := by
  have ht := there_in hA hB h0 h
  obtain ⟨h1, h2, h3⟩ := divmod h0 h
  have hx : ((i / NB : Nat) : Int) * b + ((i % NB : Nat) : Int) + 1 = ((i + 1 : Nat) : Int) := by rw [← hB, ← Int.natCast_mul]; omega
  have hab : a * b = ((NA * NB : Nat) : Int) := by rw [← hA, ← hB, Int.natCast_mul]
  have hok : nextOk a b c d e ((i / NB : Nat) : Int) ((i % NB : Nat) : Int) = decide (i + 1 < NA * NB) := by
    unfold nextOk
    rw [hm, ht, hx, hab, Bool.true_and, Bool.true_and]
    by_cases hl : i + 1 < NA * NB
    · rw [decide_eq_true hl, decide_eq_true (by omega)]
    · rw [decide_eq_false hl, decide_eq_false (by omega)]
  have := Next_any a b c d e ((i / NB : Nat) : Int) ((i % NB : Nat) : Int) w
  have eX : nextX a b c d e ((i / NB : Nat) : Int) ((i % NB : Nat) : Int) = X := by
    unfold nextX
    rw [hok, hX.out.1, hx]
    by_cases hl : i + 1 < NA * NB
    · rw [if_pos (decide_eq_true hl), if_pos hl, ← hB]
      rfl
    · rw [if_neg (by simpa using hl), if_neg hl]
  have eY : nextY a b c d e ((i / NB : Nat) : Int) ((i % NB : Nat) : Int) = Y := by
    unfold nextY
    rw [hok, hX.out.2.1, hx]
    by_cases hl : i + 1 < NA * NB
    · rw [if_pos (decide_eq_true hl), if_pos hl, ← hB]
      rfl
    · rw [if_neg (by simpa using hl), if_neg hl]
  rw [eX, eY, hok, ← hX.out.2.2] at this
  exact this
end Go.Proofs.Ytcpniplfkillbaa
namespace Go.Proofs.Ytcpniplfkillbaa
open Go.ChangeShapes Go.WideShapes Go.ChangeAt Go.RowKit
structure Two (w : World) (L m gx gb : Nat) (Af : Option Addr) (nf cf mR gB gN gW gD : Nat) (AfR : Option Addr) (nfR cfR : Nat) (a b c d e : Int) (fs : List Flt) (s t : ChS) : Prop where
  cl : ChipL w L m gx gb Af nf cf a b c d e fs s
  rl : RefW w mR gB gN gW gD L AfR nfR cfR a b c d e fs t
theorem RefW.L_le {w : World} {m gB gN gW gD L : Nat} {Af : Option Addr} {nf cf : Nat} {a b c d e : Int} {fs : List Flt} {s : ChS} (h : RefW w m gB gN gW gD L Af nf cf a b c d e fs s) : L ≤ w.heap.size := by
  have := h.lt
  have := h.ge m (Or.inl rfl)
  omega
theorem ChipL.below_ {w w' : World} {L : Nat} {m gx gb : Nat} {Af : Option Addr} {nf cf : Nat} {a b c d e : Int} {fs : List Flt} {s : ChS} (h : ChipL w L m gx gb Af nf cf a b c d e fs s) (hb : Below w.heap.size w w') : ChipL w' L m gx gb Af nf cf a b c d e fs s := ⟨h.chip.below hb, h.low, h.lowF⟩
theorem Two.below {w w' : World} {L m gx gb : Nat} {Af : Option Addr} {nf cf mR gB gN gW gD : Nat} {AfR : Option Addr} {nfR cfR : Nat} {a b c d e : Int} {fs : List Flt} {s t : ChS} (h : Two w L m gx gb Af nf cf mR gB gN gW gD AfR nfR cfR a b c d e fs s t) (hb : Below w.heap.size w w') : Two w' L m gx gb Af nf cf mR gB gN gW gD AfR nfR cfR a b c d e fs s t := ⟨h.cl.below_ hb, h.rl.below hb⟩
theorem Two.like {w w' : World} {L m gx gb : Nat} {Af : Option Addr} {nf cf mR gB gN gW gD : Nat} {AfR : Option Addr} {nfR cfR : Nat} {a b c d e : Int} {fs : List Flt} {s t : ChS} (h : Two w L m gx gb Af nf cf mR gB gN gW gD AfR nfR cfR a b c d e fs s t) (e9 : w'.heap = w.heap := by rfl) : Two w' L m gx gb Af nf cf mR gB gN gW gD AfR nfR cfR a b c d e fs s t := ⟨⟨h.cl.chip.like e9, h.cl.low, h.cl.lowF⟩, h.rl.like e9⟩
theorem Two.drew {w : World} {L m gx gb : Nat} {Af : Option Addr} {nf cf mR gB gN gW gD : Nat} {AfR : Option Addr} {nfR cfR : Nat} {a b c d e : Int} {fs : List Flt} {s t : ChS} (h : Two w L m gx gb Af nf cf mR gB gN gW gD AfR nfR cfR a b c d e fs s t) : Two w.drew L m gx gb Af nf cf mR gB gN gW gD AfR nfR cfR a b c d e fs s t := h.like
theorem Two.chip {w w' : World} {L m gx gb : Nat} {Af : Option Addr} {nf cf mR gB gN gW gD : Nat} {AfR : Option Addr} {nfR cfR : Nat} {a b c d e : Int} {fs : List Flt} {s t s' : ChS} (h : Two w L m gx gb Af nf cf mR gB gN gW gD AfR nfR cfR a b c d e fs s t) (hC : ChipW w' m gx gb Af nf cf a b c d e fs s') (hT : Tch (chB m gx gb) w w') : Two w' L m gx gb Af nf cf mR gB gN gW gD AfR nfR cfR a b c d e fs s' t := ⟨h.cl.next hC, h.rl.far hT h.cl.low⟩
theorem Two.ref {w w' : World} {L m gx gb : Nat} {Af : Option Addr} {nf cf mR gB gN gW gD : Nat} {AfR : Option Addr} {nfR cfR : Nat} {a b c d e : Int} {fs : List Flt} {s t t' : ChS} (h : Two w L m gx gb Af nf cf mR gB gN gW gD AfR nfR cfR a b c d e fs s t) (hR : RefW w' mR gB gN gW gD L AfR nfR cfR a b c d e fs t') (hT : Tch (rfB mR gB gN gW gD) w w') : Two w' L m gx gb Af nf cf mR gB gN gW gD AfR nfR cfR a b c d e fs s t' := ⟨h.cl.far hT h.rl.ge, hR⟩
def twB (m gx gb mR gB gN gW gD : Nat) (g : Nat) : Prop := chB m gx gb g ∨ (rfB mR gB gN gW gD) g
theorem tw_c {m gx gb mR gB gN gW gD : Nat} {w w' : World} (h : Tch (chB m gx gb) w w') : Tch (twB m gx gb mR gB gN gW gD) w w' := h.mono (fun _ e => Or.inl e)
theorem tw_f {m gx gb mR gB gN gW gD : Nat} {w w' : World} (h : Tch (rfB mR gB gN gW gD) w w') : Tch (twB m gx gb mR gB gN gW gD) w w' := h.mono (fun _ e => Or.inr e)
theorem Two.lt {w : World} {L m gx gb : Nat} {Af : Option Addr} {nf cf mR gB gN gW gD : Nat} {AfR : Option Addr} {nfR cfR : Nat} {a b c d e : Int} {fs : List Flt} {s t : ChS} (h : Two w L m gx gb Af nf cf mR gB gN gW gD AfR nfR cfR a b c d e fs s t) : ∀ g, twB m gx gb mR gB gN gW gD g → g < w.heap.size := by
  intro g hg
  rcases hg with hg | hg
  · have := h.cl.low g hg
    have := h.rl.L_le
    omega
  · exact h.rl.lts g hg
theorem RefW.over {w0 w1 w w' : World} {m gB gN gW gD L : Nat} {Af : Option Addr} {nf cf : Nat} {a b c d e : Int} {fs : List Flt} {s0 s : ChS} (h0 : RefW w0 m gB gN gW gD L Af nf cf a b c d e fs s0) (h : RefW w m gB gN gW gD L Af nf cf a b c d e fs s) (v : Option Nat) (hF : Fresh w1 w gB) (h01 : ∀ i, w1.cell? ⟨gB, i, none⟩ = w0.cell? ⟨gB, i, none⟩) (hv : ∀ g, v = some g → w0.heap.size ≤ g ∧ g < w1.heap.size) (hg : w.grownBy w' v) : RefW w' m gB gN gW gD L Af nf cf a b c d e fs s := by
  have hlt0 := h0.lts
  have hP0 := h0.blk
  have hF0 := h0.flt
  obtain ⟨⟨cB, NP, NB, RW, hRW, hNP, hNB, hcB, hB, P, hPl, rB, hP⟩, rN, rW, rD, rF, hne, hge, l1, l2, l3, l4⟩ := h
  have hb : ∀ g, rfB m gB gN gW gD g → v ≠ some g := fun g h1 h2 => by
    have := hlt0 g h1
    have := (hv g h2).1
    omega
  have hk : ∀ g, g < w.heap.size → v ≠ some g → w'.heap[g]? = w.heap[g]? := fun g h1 h2 => hg.block g h1 (fun e => h2 e.symm)
  refine ⟨⟨cB, NP, NB, RW, hRW, hNP, hNB, hcB, (hk _ hB.lt (hb _ (Or.inl rfl))).trans hB, P, hPl, rB.keep (hk _ rB.lt (hb _ (Or.inr (Or.inl rfl)))), fun i p hi => ?_⟩, rN.keep (hk _ rN.lt (hb _ (Or.inr (Or.inr (Or.inl rfl))))), rW.keep (hk _ rW.lt (hb _ (Or.inr (Or.inr (Or.inr (Or.inl rfl)))))), rD.keep (hk _ rD.lt (hb _ (Or.inr (Or.inr (Or.inr (Or.inr rfl)))))), ?_, hne, hge, l1, l2, l3, l4⟩
  · have hp := hP i p hi
    refine hp.keep hg.size (hk _ hp.lt (fun e => ?_))
    have hc : w.cell? ⟨gB, i, none⟩ = some (pgV RW p) := rB.cell_ (by rw [List.getElem?_map, hi]; rfl)
    rcases hF i with h1 | ⟨g, n, c', h1, h2⟩
    · rw [h01 i] at h1
      obtain ⟨cB0, NP0, NB0, RW0, hRW0, hNP0, hNB0, hcB0, hB0, P0, hPl0, rB0, hPP⟩ := hP0
      have hiN : i < P0.length := by
        rw [hPl0]
        have : i < P.length := (List.getElem?_eq_some_iff.1 hi).1
        omega
      obtain ⟨p0, hp0⟩ : ∃ p0, P0[i]? = some p0 := ⟨_, List.getElem?_eq_getElem hiN⟩
      have hc0 : w0.cell? ⟨gB, i, none⟩ = some (pgV RW0 p0) := rB0.cell_ (by rw [List.getElem?_map, hp0]; rfl)
      rw [← h1, hc] at hc0
      have e3 : p.1 = p0.1 := by
        simp only [pgV, Option.some.injEq, Value.slice.injEq, Addr.mk.injEq] at hc0
        exact hc0.1.1
      have := (hPP i p0 hp0).lt
      have := (hv _ e).1
      omega
    · rw [hc] at h1
      have e3 : p.1 = g := by
        simp only [pgV, Option.some.injEq, Value.slice.injEq, Addr.mk.injEq] at h1
        exact h1.1.1
      have := (hv _ e).2
      omega
  · rcases hF0 with h1 | ⟨g, off, e, hlt, h1, h2, hc⟩
    · exact Or.inl h1
    · rcases rF with h3 | ⟨g', off', e', hlt', h4, h5, hc'⟩
      · exact Or.inl h3
      · rw [e] at e'
        obtain ⟨rfl, rfl⟩ : g = g' ∧ off = off' := by cases e'; exact ⟨rfl, rfl⟩
        have hq : ∀ o, w'.cell? ⟨g, o, none⟩ = w.cell? ⟨g, o, none⟩ := fun o => World.cell?_of_block (w := w) (hk g hlt' (fun e2 => by have := (hv g e2).1; omega))
        exact Or.inr ⟨g, off, e, by have := hg.size; omega, h1, h2, fun k f hf => by rw [hq, hq, hq]; exact hc' k f hf⟩
theorem Two.over {w0 w1 w w' : World} {L m gx gb : Nat} {Af : Option Addr} {nf cf mR gB gN gW gD : Nat} {AfR : Option Addr} {nfR cfR : Nat} {a b c d e : Int} {fs : List Flt} {s0 t0 s t : ChS} (h0 : Two w0 L m gx gb Af nf cf mR gB gN gW gD AfR nfR cfR a b c d e fs s0 t0) (h : Two w L m gx gb Af nf cf mR gB gN gW gD AfR nfR cfR a b c d e fs s t) (v : Option Nat) (hF : Fresh w1 w gB) (h01 : ∀ i, w1.cell? ⟨gB, i, none⟩ = w0.cell? ⟨gB, i, none⟩) (hv : ∀ g, v = some g → w0.heap.size ≤ g ∧ g < w1.heap.size) (hg : w.grownBy w' v) : Two w' L m gx gb Af nf cf mR gB gN gW gD AfR nfR cfR a b c d e fs s t := by
  refine ⟨h.cl.far (S := fun g => v = some g) ⟨hg.size, fun g h1 h2 => hg.block g h1 (fun e => h2 e.symm), hg.os, hg.tape, hg.output⟩ (fun g e => ?_), h0.rl.over h.rl v hF h01 hv hg⟩
  have := h0.rl.L_le
  have := (hv g e).1
  omega
theorem tw_rprog (L m gx gb : Nat) (Af : Option Addr) (nf cf mR gB gN gW gD : Nat) (AfR : Option Addr) (nfR cfR : Nat) (a b c d e : Int) (fs : List Flt) (x y : Int) (bs : List Nat) (gA cA Q : Nat) (n : Int) (w : World) (s t : ChS) (h : Two w L m gx gb Af nf cf mR gB gN gW gD AfR nfR cfR a b c d e fs s t) (hs : Fine t n) (hn : n ≤ 900000000) (hwt : t.Wt) (hQ : bs.length = Q) (hR : RowT w gA 5 (bs.map byteV)) (hcA : Q ≤ cA) (hgn : ¬ rfB mR gB gN gW gD gA) (Z : Int) (S : ChS) (hZ : Hid (t.progZ a b c fs x y Q = Z ∧ t.progS a b c fs x y bs = S)) :
    Calls Try.prog 33 #[.pointer (some ⟨mR, 0, none⟩), .agg #[.int .i64 x, .int .i64 y], .slice (some ⟨gA, 0, none⟩) Q cA] w fun e' w' => e' = .returned (.int .i64 Z) ∧ Two w' L m gx gb Af nf cf mR gB gN gW gD AfR nfR cfR a b c d e fs s S ∧ Tch (rfB mR gB gN gW gD) w w' ∧ Fresh w w' gB := by
  obtain ⟨rfl, rfl⟩ := hZ.out
  subst hQ
  refine (rprog_all mR gB gN gW gD L AfR nfR cfR a b c d e fs x y bs gA cA n w t h.rl hs hn hwt hR hcA hgn).mono ?_
  rintro e' w' ⟨rfl, hC, hT, hF⟩
  exact ⟨rfl, h.ref hC hT, hT, hF⟩
theorem tw_arm (L m gx gb : Nat) (Af : Option Addr) (nf cf mR gB gN gW gD : Nat) (AfR : Option Addr) (nfR cfR : Nat) (a b c d e : Int) (fs : List Flt) (xo xb : Int) (xf : Nat) (n : Int) (w : World) (s t : ChS) (h : Two w L m gx gb Af nf cf mR gB gN gW gD AfR nfR cfR a b c d e fs s t) (hs : Fine s n) (hn : n ≤ 900000000) (Z : Int) (S : ChS) (hZ : Hid (s.armC xo xb = Z ∧ s.arm xo xb xf = S)) :
    Calls Try.prog 14 #[.pointer (some ⟨m, 0, none⟩), .agg #[.int .i64 xo, .int .i64 xb, .int .u8 (xf : Nat)]] w fun e' w' => e' = .returned (.int .i64 Z) ∧ Two w' L m gx gb Af nf cf mR gB gN gW gD AfR nfR cfR a b c d e fs S t ∧ Tch (chB m gx gb) w w' := by
  obtain ⟨rfl, rfl⟩ := hZ.out
  refine (arm_all m gx gb Af nf cf a b c d e fs xo xb xf n w s h.cl.chip hs hn).mono ?_
  rintro e' w' ⟨rfl, hC, hT⟩
  exact ⟨rfl, h.chip hC hT, hT⟩
theorem tw_rarm (L m gx gb : Nat) (Af : Option Addr) (nf cf mR gB gN gW gD : Nat) (AfR : Option Addr) (nfR cfR : Nat) (a b c d e : Int) (fs : List Flt) (xo xb : Int) (xf : Nat) (w : World) (s t : ChS) (h : Two w L m gx gb Af nf cf mR gB gN gW gD AfR nfR cfR a b c d e fs s t) (Z : Int) (S : ChS) (hZ : Hid (t.armC xo xb = Z ∧ t.arm xo xb xf = S)) :
    Calls Try.prog 15 #[.pointer (some ⟨mR, 0, none⟩), .agg #[.int .i64 xo, .int .i64 xb, .int .u8 (xf : Nat)]] w fun e' w' => e' = .returned (.int .i64 Z) ∧ Two w' L m gx gb Af nf cf mR gB gN gW gD AfR nfR cfR a b c d e fs s S ∧ Tch (rfB mR gB gN gW gD) w w' := by
  obtain ⟨rfl, rfl⟩ := hZ.out
  refine (rarm_all mR gB gN gW gD L AfR nfR cfR a b c d e fs xo xb xf w t h.rl).mono ?_
  rintro e' w' ⟨rfl, hC, hT⟩
  exact ⟨rfl, h.ref hC hT, hT⟩
structure Good (s : ChS) (n : Int) : Prop where
  fine : Fine s n
  wt : s.Wt
theorem Good.mono {s : ChS} {n n' : Int} (h : Good s n) (hn : n ≤ n') : Good s n' := ⟨h.fine.mono hn, h.wt⟩
theorem Good.read {s : ChS} {n : Int} (h : Good s n) (a b x y : Int) : Good (s.readS a b x y) (n + 3) := by
  refine ⟨?_, Wt.read h.wt a b x y⟩
  unfold ChS.readS
  split
  · exact h.fine.tick.mono (by omega)
  · exact h.fine.mono (by omega)
theorem Good.prog {w : World} {m gx gb : Nat} {Af : Option Addr} {nf cf : Nat} {a b c d e : Int} {fs : List Flt} {s : ChS} (hC : ChipW w m gx gb Af nf cf a b c d e fs s) {n : Int} (h : Good s n) (x y : Int) (bs : List Nat) : Good (s.progS a b c fs x y bs) (n + 3) :=
  ⟨(prog_same hC h.fine x y bs (x.toNat + 1) (by omega)).2, Wt.prog h.wt a b c fs x y bs⟩
theorem Good.erase {w : World} {m gx gb : Nat} {Af : Option Addr} {nf cf : Nat} {a b c d e : Int} {fs : List Flt} {s : ChS} (hC : ChipW w m gx gb Af nf cf a b c d e fs s) {n : Int} (h : Good s n) (hn : 20 ≤ n) (x : Int) : Good (s.eraseS a b c fs x) (n + 3) :=
  ⟨(erase_same hC h.fine hn x (x.toNat + 1) (by omega)).2, Wt.erase h.wt a b c fs x⟩
theorem Good.arm {s : ChS} {n : Int} (h : Good s n) (hn : n ≤ 900000000) (xo xb : Int) (xf : Nat) (hf : xf < 256) : Good (s.arm xo xb xf) (n + 3) :=
  ⟨((arm_same s 0 0 h.fine xo xb xf 0 hf).2).mono (by omega), Wt.arm h.wt h.fine.bnd hn xo xb xf⟩
theorem Good.boot {s : ChS} {n : Int} (h : Good s n) : Good s.boot (n + 3) := ⟨((boot_same s 0 0 h.fine 0).2).mono (by omega), Wt.boot h.wt⟩
end Go.Proofs.Ytcpniplfkillbaa
namespace Go.Proofs.Ytcpniplfkillbaa
open Go.ChangeShapes Go.WideShapes Go.ChangeAt Go.RowKit
def jumpsQ (J : Nat → Act → World → Prop) (Q : Exit → Act → World → Prop) : Exit → Act → World → Prop
  | .goto l, a, w => J l a w
  | e, a, w => Q e a w
theorem jumpsQ_mono {J J' : Nat → Act → World → Prop} {Q : Exit → Act → World → Prop} (h : ∀ l a w, J l a w → J' l a w) : ∀ e a w, jumpsQ J Q e a w → jumpsQ J' Q e a w := by
  intro e a w hq
  cases e with
  | goto l => exact h l a w hq
  | normal => exact hq
  | exit id => exact hq
  | ret => exact hq
  | panic ch => exact hq
  | outgrown => exact hq
theorem wp_to {P : Program} {c : Code} {a : Act} {w : World} {Q Q' : Exit → Act → World → Prop} (h : c.wp P Q a w) (hq : ∀ e a w, Q e a w → Q' e a w) : c.wp P Q' a w := by
  intro b k cs
  obtain ⟨e, a1, w1, h1, h2⟩ := h b k cs
  exact ⟨e, a1, w1, hq _ _ _ h1, h2⟩
theorem wp_scope_many {P : Program} {c : Code} {a : Act} {w : World} {Q : Exit → Act → World → Prop} (J : Nat → Nat → Act → World → Prop)
    (pass : ∀ l n a' w', J l n a' w' → (∀ l' m a1 w1, m < n → J l' m a1 w1 → ∀ rest, findLabel c l' = some (.seq .skip rest) → rest.wp P (jumpsQ (fun l a w => ∃ m, m < n ∧ J l m a w) Q) a1 w1) → ∃ rest, findLabel c l = some (.seq .skip rest) ∧ rest.wp P (jumpsQ (fun l a w => ∃ m, m < n ∧ J l m a w) Q) a' w')
    (first : (∀ l n a' w', J l n a' w' → ∀ rest, findLabel c l = some (.seq .skip rest) → rest.wp P (jumpsQ (fun l a w => ∃ n, J l n a w) Q) a' w') → c.wp P (jumpsQ (fun l a w => ∃ n, J l n a w) Q) a w) : (Code.scope c).wp P Q a w := by
  have step : ∀ n l a w, J l n a w → ∃ rest, findLabel c l = some (.seq .skip rest) ∧ rest.wp P (jumpsQ (fun l a w => ∃ m, m < n ∧ J l m a w) Q) a w := by
    intro n
    induction n using Nat.strongRecOn with
    | _ n ih =>
      intro l a w h
      refine pass l n a w h (fun l' m a1 w1 hm hJ rest hr => ?_)
      obtain ⟨rest', hr', hw⟩ := ih m hm l' a1 w1 hJ
      rw [hr] at hr'
      cases hr'
      exact wp_to hw (jumpsQ_mono fun l a w ⟨k, hk, h⟩ => ⟨k, by omega, h⟩)
  have hfirst := first (fun l n a' w' hJ rest hr => by
    obtain ⟨rest', hr', hw⟩ := step n l a' w' hJ
    rw [hr] at hr'
    cases hr'
    exact wp_to hw (jumpsQ_mono fun l a w ⟨k, hk, h⟩ => ⟨k, h⟩))
  intro b k cs
  have key : ∀ n l a w, J l n a w → ∃ rest, findLabel c l = some rest ∧ ∃ e a' w', Q e a' w' ∧ Arrives P (lone (b.at a (.code rest :: .inScope c :: k)) cs w) b k cs e a' w' := by
    intro n
    induction n using Nat.strongRecOn with
    | _ n ih =>
      intro l a w hJ
      obtain ⟨rest, hr, hw⟩ := step n l a w hJ
      replace hw := wp_seq (x := .skip) (wp_skip hw)
      refine ⟨_, hr, ?_⟩
      obtain ⟨e, a₁, w₁, hq, harr⟩ := hw b (.inScope c :: k) cs
      cases e with
      | normal => exact ⟨.normal, a₁, w₁, hq, Steps.trans harr (.one step_inScope)⟩
      | exit id => exact ⟨.exit id, a₁, w₁, hq, fun k' hk => harr k' (by simp [exitTo, hk])⟩
      | goto l' =>
        obtain ⟨m, hlt, hJ'⟩ := hq
        obtain ⟨rest2, hr2, e₂, a₂, w₂, hq₂, harr₂⟩ := ih m hlt l' a₁ w₁ hJ'
        have hg : gotoIn l' (.inScope c :: k) = some (.code rest2 :: .inScope c :: k) := by simp [gotoIn, hr2]
        exact ⟨e₂, a₂, w₂, hq₂, .of_steps (harr _ hg) harr₂⟩
      | ret => exact ⟨_, a₁, w₁, hq, harr⟩
      | panic ch => exact ⟨_, a₁, w₁, hq, harr⟩
      | outgrown => exact ⟨_, a₁, w₁, hq, harr⟩
  obtain ⟨e, a₁, w₁, hq, harr⟩ := hfirst b (.inScope c :: k) cs
  cases e with
  | normal => exact ⟨.normal, a₁, w₁, hq, .head step_scope (Steps.trans harr (.one step_inScope))⟩
  | exit id => exact ⟨.exit id, a₁, w₁, hq, fun k' hk => .head step_scope (harr k' (by simp [exitTo, hk]))⟩
  | goto l' =>
    obtain ⟨m, hJ'⟩ := hq
    obtain ⟨rest2, hr2, e₂, a₂, w₂, hq₂, harr₂⟩ := key m l' a₁ w₁ hJ'
    have hg : gotoIn l' (.inScope c :: k) = some (.code rest2 :: .inScope c :: k) := by simp [gotoIn, hr2]
    exact ⟨e₂, a₂, w₂, hq₂, .of_steps (.head step_scope (harr _ hg)) harr₂⟩
  | ret => exact ⟨_, a₁, w₁, hq, .of_steps (.one step_scope) harr⟩
  | panic ch => exact ⟨_, a₁, w₁, hq, .of_steps (.one step_scope) harr⟩
  | outgrown => exact ⟨_, a₁, w₁, hq, .of_steps (.one step_scope) harr⟩
theorem jumpsQ_ret {J : Nat → Act → World → Prop} {Q : Exit → Act → World → Prop} {a : Act} {w : World} (h : Q .ret a w) : jumpsQ J Q .ret a w := h
end Go.Proofs.Ytcpniplfkillbaa
namespace Go.Proofs.Ytcpniplfkillbaa
open Go.ChangeShapes Go.WideShapes Go.ChangeAt Go.RowKit
attribute [local go_sem ↓] Go.wp_at_zero Go.wp_at_succ
theorem readB_8 {s : ChS} (h : Bytes8 s.X) (a b c x y : Int) : Bytes8 (s.readB a b c x y) := by
  unfold ChS.readB
  split
  · intro v hv
    exact h v (List.mem_of_mem_drop (List.mem_of_mem_take hv))
  · intro v hv
    simp at hv
theorem readB_le (s : ChS) (a b c x y : Int) (hc : c ≤ 64) : (s.readB a b c x y).length ≤ 1000000 := by
  unfold ChS.readB
  split
  · unfold ChS.pageOf
    rw [List.length_take]
    omega
  · simp
theorem readS_X (s : ChS) (a b x y : Int) : (s.readS a b x y).X = s.X := by
  unfold ChS.readS
  split
  · unfold ChS.tick
    split <;> rfl
  · rfl
theorem ChN.below_ {w w' : World} {L : Nat} {m gx gb : Nat} {Af : Option Addr} {nf cf : Nat} {a b c d e : Int} {fs : List Flt} {s : ChS} (h : ChN w L m gx gb Af nf cf a b c d e fs s) (hb : Below w.heap.size w w') : ChN w' L m gx gb Af nf cf a b c d e fs s := ⟨h.chip.below hb, h.low, h.lowF⟩
theorem ChN.geo {w : World} {L : Nat} {m gx gb : Nat} {Af : Option Addr} {nf cf : Nat} {a b c d e : Int} {fs : List Flt} {s : ChS} (h : ChN w L m gx gb Af nf cf a b c d e fs s) : mayB a b c d e = true ∧ 4 ≤ b ∧ b ≤ 8 ∧ 8 ≤ a ∧ a ≤ 20 ∧ c ≤ 64 := by
  obtain ⟨hm, -, -⟩ := planMay_bd h.chip.may
  obtain ⟨g1, g2, g3, g4, g5, g6, -⟩ := may_bd hm
  exact ⟨hm, g3, g4, g1, g2, g6⟩
structure Evscan (w0 : World) (n0 : Int) (m gx gb : Nat) (Af : Option Addr) (nf cf : Nat) (a b c d e : Int) (fs : List Flt) (L NA NB gs : Nat) (R : Int × List Vis × ChS) (wr : World) (i : Nat) (S : ChS) (acc : List Vis) (x y : Int) : Prop where
  chip : ChN wr L m gx gb Af nf cf a b c d e fs S
  pl : Blk wr w0.heap.size 27 #[.int .i64 x, .int .i64 y]
  pg : ∃ v0 v1 v2 v3 v4 v5, Blk wr (w0.heap.size + 1) 83 #[v0, v1, v2, v3, v4, v5]
  cap : (Cap wr gs (w0.heap.size + 2) (fdsOf acc))
  alen : acc.length ≤ i
  tch : Tch (fun g => chB m gx gb g ∨ g = gs ∨ w0.heap.size ≤ g) w0 wr
  good : Good S (n0 + 3 * (i : Int))
  by8 : Bytes8 S.X
  lt : i < NA * NB
  px : x = ((i / NB : Nat) : Int)
  py : y = ((i % NB : Nat) : Int)
def scanJ1 (w0 : World) (n0 : Int) (m gx gb : Nat) (Af : Option Addr) (nf cf : Nat) (a b c d e : Int) (fs : List Flt) (L NA NB gs : Nat) (R : Int × List Vis × ChS) (n : Nat) (a' : Act) (wr : World) : Prop := ∃ (i : Nat) (S : ChS) (acc : List Vis) (x y : Int) (u : Nat → Value),
  a' = { tmps := #[.pointer (some ⟨m, 0, none⟩), .func (.func 38) #[] #[.pointer (some ⟨gs, 0, none⟩)], u 2, u 3, .int .i64 0, .pointer (some ⟨w0.heap.size, 0, none⟩), .pointer (some ⟨w0.heap.size + 1, 0, none⟩), u 7, u 8, u 9, u 10, u 11, u 12, u 13, u 14, u 15, u 16, u 17, u 18, u 19, u 20, u 21, u 22, u 23, u 24, u 25, u 26, u 27, u 28, u 29, u 30, u 31, u 32, u 33, u 34, u 35], defers := [] } ∧ Evscan w0 n0 m gx gb Af nf cf a b c d e fs L NA NB gs R wr i S acc x y ∧ Hid (walkF a b c NB fs (NA * NB - i) i S acc = R) ∧ 2 * (NA * NB - i) + 1 ≤ n
structure Ewscan (w0 : World) (n0 : Int) (m gx gb : Nat) (Af : Option Addr) (nf cf : Nat) (a b c d e : Int) (fs : List Flt) (L NA NB gs : Nat) (R : Int × List Vis × ChS) (wr : World) (i : Nat) (S : ChS) (acc : List Vis) (x y : Int) : Prop where
  chip : ChN wr L m gx gb Af nf cf a b c d e fs S
  pl : Blk wr w0.heap.size 27 #[.int .i64 x, .int .i64 y]
  pg : ∃ v0 v1 v2 v3 v4 v5, Blk wr (w0.heap.size + 1) 83 #[v0, v1, v2, v3, v4, v5]
  cap : (Cap wr gs (w0.heap.size + 2) (fdsOf acc))
  alen : acc.length ≤ i + 1
  tch : Tch (fun g => chB m gx gb g ∨ g = gs ∨ w0.heap.size ≤ g) w0 wr
  good : Good S (n0 + 3 + 3 * (i : Int))
  by8 : Bytes8 S.X
  lt : i < NA * NB
  px : x = ((i / NB : Nat) : Int)
  py : y = ((i % NB : Nat) : Int)
def scanJ0 (w0 : World) (n0 : Int) (m gx gb : Nat) (Af : Option Addr) (nf cf : Nat) (a b c d e : Int) (fs : List Flt) (L NA NB gs : Nat) (R : Int × List Vis × ChS) (n : Nat) (a' : Act) (wr : World) : Prop := ∃ (i : Nat) (S : ChS) (acc : List Vis) (x y : Int) (u : Nat → Value),
  a' = { tmps := #[.pointer (some ⟨m, 0, none⟩), .func (.func 38) #[] #[.pointer (some ⟨gs, 0, none⟩)], u 2, u 3, .int .i64 0, .pointer (some ⟨w0.heap.size, 0, none⟩), .pointer (some ⟨w0.heap.size + 1, 0, none⟩), u 7, u 8, u 9, u 10, u 11, u 12, u 13, u 14, u 15, u 16, u 17, u 18, u 19, u 20, u 21, u 22, u 23, u 24, u 25, u 26, u 27, u 28, u 29, u 30, u 31, u 32, u 33, u 34, u 35], defers := [] } ∧ Ewscan w0 n0 m gx gb Af nf cf a b c d e fs L NA NB gs R wr i S acc x y ∧ Hid (walkF a b c NB fs (NA * NB - (i + 1)) (i + 1) S acc = R) ∧ 2 * (NA * NB - i) ≤ n
theorem scanJ1.mk {w0 : World} {n0 : Int} {m gx gb : Nat} {Af : Option Addr} {nf cf : Nat} {a b c d e : Int} {fs : List Flt} {L NA NB gs : Nat} {R : Int × List Vis × ChS} {n : Nat} {wr : World} {i : Nat} {S : ChS} {acc : List Vis} {x y : Int} {u2 u3 u7 u8 u9 u10 u11 u12 u13 u14 u15 u16 u17 u18 u19 u20 u21 u22 u23 u24 u25 u26 u27 u28 u29 u30 u31 u32 u33 u34 u35 : Value} (h : Evscan w0 n0 m gx gb Af nf cf a b c d e fs L NA NB gs R wr i S acc x y ∧ Hid (walkF a b c NB fs (NA * NB - i) i S acc = R) ∧ 2 * (NA * NB - i) + 1 ≤ n) : scanJ1 w0 n0 m gx gb Af nf cf a b c d e fs L NA NB gs R n { tmps := #[.pointer (some ⟨m, 0, none⟩), .func (.func 38) #[] #[.pointer (some ⟨gs, 0, none⟩)], u2, u3, .int .i64 0, .pointer (some ⟨w0.heap.size, 0, none⟩), .pointer (some ⟨w0.heap.size + 1, 0, none⟩), u7, u8, u9, u10, u11, u12, u13, u14, u15, u16, u17, u18, u19, u20, u21, u22, u23, u24, u25, u26, u27, u28, u29, u30, u31, u32, u33, u34, u35], defers := [] } wr :=
  ⟨i, S, acc, x, y, fun i => (#[undef, undef, u2, u3, undef, undef, undef, u7, u8, u9, u10, u11, u12, u13, u14, u15, u16, u17, u18, u19, u20, u21, u22, u23, u24, u25, u26, u27, u28, u29, u30, u31, u32, u33, u34, u35] : Array Value).getD i undef, rfl, h⟩
theorem scanJ0.mk {w0 : World} {n0 : Int} {m gx gb : Nat} {Af : Option Addr} {nf cf : Nat} {a b c d e : Int} {fs : List Flt} {L NA NB gs : Nat} {R : Int × List Vis × ChS} {n : Nat} {wr : World} {i : Nat} {S : ChS} {acc : List Vis} {x y : Int} {u2 u3 u7 u8 u9 u10 u11 u12 u13 u14 u15 u16 u17 u18 u19 u20 u21 u22 u23 u24 u25 u26 u27 u28 u29 u30 u31 u32 u33 u34 u35 : Value} (h : Ewscan w0 n0 m gx gb Af nf cf a b c d e fs L NA NB gs R wr i S acc x y ∧ Hid (walkF a b c NB fs (NA * NB - (i + 1)) (i + 1) S acc = R) ∧ 2 * (NA * NB - i) ≤ n) : scanJ0 w0 n0 m gx gb Af nf cf a b c d e fs L NA NB gs R n { tmps := #[.pointer (some ⟨m, 0, none⟩), .func (.func 38) #[] #[.pointer (some ⟨gs, 0, none⟩)], u2, u3, .int .i64 0, .pointer (some ⟨w0.heap.size, 0, none⟩), .pointer (some ⟨w0.heap.size + 1, 0, none⟩), u7, u8, u9, u10, u11, u12, u13, u14, u15, u16, u17, u18, u19, u20, u21, u22, u23, u24, u25, u26, u27, u28, u29, u30, u31, u32, u33, u34, u35], defers := [] } wr :=
  ⟨i, S, acc, x, y, fun i => (#[undef, undef, u2, u3, undef, undef, undef, u7, u8, u9, u10, u11, u12, u13, u14, u15, u16, u17, u18, u19, u20, u21, u22, u23, u24, u25, u26, u27, u28, u29, u30, u31, u32, u33, u34, u35] : Array Value).getD i undef, rfl, h⟩
def scanJ (w0 : World) (n0 : Int) (m gx gb : Nat) (Af : Option Addr) (nf cf : Nat) (a b c d e : Int) (fs : List Flt) (L NA NB gs : Nat) (R : Int × List Vis × ChS) (l n : Nat) (a' : Act) (wr : World) : Prop := (l = 1 ∧ scanJ1 w0 n0 m gx gb Af nf cf a b c d e fs L NA NB gs R n a' wr) ∨ (l = 0 ∧ scanJ0 w0 n0 m gx gb Af nf cf a b c d e fs L NA NB gs R n a' wr)
def scanE (w0 : World) (n0 : Int) (m gx gb : Nat) (Af : Option Addr) (nf cf : Nat) (a b c d e : Int) (fs : List Flt) (L NA NB gs : Nat) (R : Int × List Vis × ChS) (e' : Ending) (w' : World) : Prop := e' = .returned (.int .i64 R.1) ∧ ChipW w' m gx gb Af nf cf a b c d e fs R.2.2 ∧ (Cap w' gs (w0.heap.size + 2) (fdsOf R.2.1)) ∧ R.2.1.length ≤ 160 ∧ Tch (fun g => chB m gx gb g ∨ g = gs) w0 w' ∧ Good R.2.2 (n0 + 1000) ∧ Bytes8 R.2.2.X
theorem bad_v0 (m gx gb : Nat) (Af : Option Addr) (nf cf : Nat) (a b c d e : Int) (fs : List Flt) (B : Int) (W : Bool) (w : World) (s : ChS) (hC : ChipW w m gx gb Af nf cf a b c d e fs s) (hv : Hid (badB fs B = W)) : Calls Try.prog 22 #[.pointer (some ⟨m, 0, none⟩), .int .i64 B] w fun e' w' => e' = .returned (.bool W) ∧ Below w.heap.size w w' := by
  have := bad_any m gx gb Af nf cf a b c d e fs B w s hC
  rwa [hv.out] at this
theorem geometry_0 (m gx gb : Nat) (Af : Option Addr) (nf cf : Nat) (a b c d e : Int) (fs : List Flt) (w : World) (s : ChS) (hC : ChipW w m gx gb Af nf cf a b c d e fs s) : Calls Try.prog 67 #[.pointer (some ⟨m, 0, none⟩)] w fun e' w' => e' = .returned (.agg #[.int .i64 a, .int .i64 b, .int .i64 c, .int .i64 d, .int .i64 e]) ∧ Below w.heap.size w w' := by
  obtain ⟨cx, cb, NX, NB, hX, hN, hcx, hB⟩ := hC.blk
  have hB := hB.alloc_ (.cells #[.int .i64 0, .int .i64 0, .int .i64 0, .int .i64 0, .int .i64 0] 23)
  have HB0 : Below w.heap.size w (w.alloc (.cells #[.int .i64 0, .int .i64 0, .int .i64 0, .int .i64 0, .int .i64 0] 23)) := (Below.refl _ _).alloc (Nat.le_refl _) _
  have y0 := hB.cell_ 0; have y1 := hB.cell_ 1; have y2 := hB.cell_ 2; have y3 := hB.cell_ 3; have y4 := hB.cell_ 4
  simp at y0 y1 y2 y3 y4
  clear hC hB hX hN hcx
  go_enter Try.func67, Try.ntmps67
  go_wp2_with fail
  refine bodyPost_ret (v := .agg #[.int .i64 a, .int .i64 b, .int .i64 c, .int .i64 d, .int .i64 e]) (by simp [results, Try.results67, go_sem]) rfl ⟨rfl, ?_⟩
  exact (Below.refl _ _).alloc (Nat.le_refl _) _
theorem capK {S : Nat → Prop} {w w' : World} {gs base : Nat} {L : List Fd} (h : Cap w gs base L) (hT : Tch S w w') (h1 : ∀ g, (g = gs ∨ base ≤ g) → ¬ S g) : Cap w' gs base L := by
  obtain ⟨⟨v, hB, hR⟩, hlt⟩ := h
  refine ⟨⟨v, hT.blk hB (h1 gs (Or.inl rfl)), ?_⟩, hlt⟩
  obtain ⟨h2, h3⟩ := hR
  refine ⟨h2, ?_⟩
  rcases h3 with h3 | ⟨g', cap, cur, rfl, hb, hh, hr⟩
  · exact Or.inl h3
  · have hlt : g' < w.heap.size := by
      rcases Nat.lt_or_ge g' w.heap.size with hx | hx
      · exact hx
      · rw [Array.getElem?_eq_none hx] at hh
        cases hh
    exact Or.inr ⟨g', cap, cur, rfl, hb, (hT.far g' hlt (h1 g' (Or.inr hb))).trans hh, hr⟩
theorem Blk.ch {w w' : World} {g L m gx gb : Nat} {t : TypeId} {cs : Array Value} (h : Blk w g t cs) (hT : Tch (chB m gx gb) w w') (hlow : ∀ g, chB m gx gb g → g < L) (hg : L ≤ g) : Blk w' g t cs := hT.blk h (fun hc => by have := hlow _ hc; omega)
theorem each_scan (w0 : World) (n0 : Int) (m gx gb : Nat) (Af : Option Addr) (nf cf : Nat) (a b c d e : Int) (fs : List Flt) (L NA NB gs : Nat) (s : ChS) (R : Int × List Vis × ChS) (hC : ChN w0 L m gx gb Af nf cf a b c d e fs s) (hL : L ≤ w0.heap.size) (hgs : L ≤ gs ∧ gs < w0.heap.size) (hcap : (Cap w0 gs (w0.heap.size + 2) (fdsOf []))) (hg : Good s n0) (hn0 : n0 ≤ 800000000) (h8 : Bytes8 s.X) (hNA : (NA : Int) = a) (hNB : (NB : Int) = b) (hR : Hid (walkF a b c NB fs (NA * NB) 0 s [] = R)) :
    Calls Try.prog 37 #[.pointer (some ⟨m, 0, none⟩), .func (.func 38) #[] #[.pointer (some ⟨gs, 0, none⟩)]] w0 fun e' w' => scanE w0 n0 m gx gb Af nf cf a b c d e fs L NA NB gs R e' w' := by
  obtain ⟨hm, g3, g4, g1, g2, g6⟩ := hC.geo
  have hB0 : 0 < NB := by omega
  have hB8 : NB ≤ 8 := by omega
  have hA20 : NA ≤ 20 := by omega
  have hA0 : 0 < NA := by omega
  have hAB2 : NA * NB ≤ 160 := Nat.mul_le_mul hA20 hB8
  have hAB0 : 0 < NA * NB := Nat.mul_pos hA0 hB0
  have HM := Lib.hid hm
  have hlow := hC.low
  have HLAB := Lib.hid (And.intro hNA hNB)
  clear hm
  have HBW : Below w0.heap.size w0 ((w0.alloc (.cells #[.int .i64 0, .int .i64 0] 27)).alloc (.cells #[.slice none 0 0, .int .i64 0, .int .i64 0, .int .i64 0, .int .i64 0, .int .i64 0] 83)) := ((Below.refl _ _).alloc (Nat.le_refl _) _).alloc (by simp) _
  have HP3 : Blk ((w0.alloc (.cells #[.int .i64 0, .int .i64 0] 27)).alloc (.cells #[.slice none 0 0, .int .i64 0, .int .i64 0, .int .i64 0, .int .i64 0, .int .i64 0] 83)) w0.heap.size 27 #[.int .i64 0, .int .i64 0] := (Blk.new_ w0 _ _).alloc_ _
  have HP4 : Blk ((w0.alloc (.cells #[.int .i64 0, .int .i64 0] 27)).alloc (.cells #[.slice none 0 0, .int .i64 0, .int .i64 0, .int .i64 0, .int .i64 0, .int .i64 0] 83)) (w0.heap.size + 1) 83 #[.slice none 0 0, .int .i64 0, .int .i64 0, .int .i64 0, .int .i64 0, .int .i64 0] := blk_new (by simp)
  go_enter Try.func37, Try.ntmps37
  go_wp2
  refine wp_scope_many (scanJ w0 n0 m gx gb Af nf cf a b c d e fs L NA NB gs R) ?_ ?_
  · intro l N a' wr hJ hcut
    have HC := Lib.hid hcut
    clear hcut
    rcases hJ with ⟨rfl, hJ⟩ | ⟨rfl, hJ⟩
    · obtain ⟨i, S, acc, x, y, u, rfl, hE, hW, hN⟩ := hJ
      refine ⟨_, (by simp only [findLabel, Nat.reduceBEq, if_true, if_false, Bool.false_eq_true]; rfl), ?_⟩
      have hi := hE.lt
      have z0 := hE.pl.cell_ 0
      have z1 := hE.pl.cell_ 1
      simp at z0 z1
      obtain ⟨v0, v1, v2, v3, v4, v5, hpg⟩ := hE.pg
      have hstep : NA * NB - i = (NA * NB - (i + 1)) + 1 := by omega
      have HST := Lib.hid hstep
      clear hstep
      rcases (by cases hq : badB fs x <;> simp : badB fs x = true ∨ badB fs x = false) with hb | hb
      · have HBD := Lib.hid hb
        have HW0 : Hid (walkF a b c NB fs (NA * NB - (i + 1)) (i + 1) S acc = R) := Lib.hid (by have h := hW.out; rw [HST.out, walkF_bad (by rw [← hE.px]; exact hb)] at h; exact h)
        clear hb
        go_wp2_with (go_at_call 22; go_loud (((with_reducible refine (bad_v0 m gx gb Af nf cf a b c d e fs _ _ _ S hE.chip.chip HBD).mono ?_); rintro e' wB ⟨rfl, hbB⟩; have hplB := hE.pl.below hbB hE.pl.lt; have zb0 := hplB.cell_ 0; have zb1 := hplB.cell_ 1; simp at zb0 zb1)))
        go_step3
        exact (show ∃ m', m' < N ∧ scanJ w0 n0 m gx gb Af nf cf a b c d e fs L NA NB gs R 0 m' _ _ from ⟨2 * (NA * NB - i), by omega, Or.inr ⟨rfl, scanJ0.mk ⟨⟨hE.chip.below_ hbB, hE.pl.below hbB hE.pl.lt, ⟨_, _, _, _, _, _, hpg.below hbB hpg.lt⟩, capK hE.cap (Tch.of_below (S := fun _ => False) hbB) (fun g hg hS => hS), Nat.le_succ_of_le hE.alen, hE.tch.then hbB, hE.good.mono (by omega), hE.by8, hE.lt, hE.px, hE.py⟩, HW0, Nat.le_refl _⟩⟩⟩)
      have HBD := Lib.hid hb
      obtain ⟨Z, hz⟩ : ∃ Z, S.readZ a b x y = Z := ⟨_, rfl⟩
      obtain ⟨S1, hs1⟩ : ∃ S1, S.readS a b x y = S1 := ⟨_, rfl⟩
      have HG1 : Hid (Good S1 (n0 + 3 + 3 * (i : Int))) := Lib.hid (by rw [← hs1]; exact (hE.good.read a b x y).mono (by omega))
      have HB1 : Hid (Bytes8 S1.X) := Lib.hid (by rw [← hs1, readS_X]; exact hE.by8)
      have hsz : w0.heap.size ≤ wr.heap.size := hE.tch.size
      by_cases hne : Z = 0
      · subst hne
        obtain ⟨bs, hbs⟩ : ∃ bs, S.readB a b c x y = bs := ⟨_, rfl⟩
        have H8B : Bytes8 bs := by rw [← hbs]; exact readB_8 hE.by8 a b c x y
        have HLB : bs.length ≤ 1000000 := by rw [← hbs]; exact readB_le S a b c x y g6
        have HZ := Lib.hid (And.intro hz (And.intro hbs hs1))
        obtain ⟨Dq, nq, Kq, Pq, Sq, Eq, stq, hlk⟩ := Lk.ex bs
        have HLK := Lib.hid hlk
        have HW0 : Hid (walkF a b c NB fs (NA * NB - (i + 1)) (i + 1) S1 (acc ++ [(i / NB, i % NB, bs)]) = R) := Lib.hid (by have h := hW.out; rw [HST.out, walkF_ok (S1 := S1) (bs := bs) (by rw [← hE.px]; exact hb) (by rw [← hE.px, ← hE.py]; exact hz) (by rw [← hE.px, ← hE.py]; exact hs1) (by rw [← hE.px, ← hE.py]; exact hbs)] at h; exact h)
        have HLI : Hid ((fdsOf acc ++ if stq = 1 then [(⟨((i / NB : Nat) : Int), ((i % NB : Nat) : Int), (Kq : Int), (Pq : Int), (Sq : Int), (Eq : Int)⟩ : Fd)] else []) = (if (stq : Int) = 1 then fdsOf acc ++ [(⟨x, y, (Kq : Int), (Pq : Int), (Sq : Int), (Eq : Int)⟩ : Fd)] else fdsOf acc)) := Lib.hid (by
          rw [hE.px, hE.py]
          by_cases h1 : stq = 1
          · rw [if_pos h1, if_pos (by omega)]
          · rw [if_neg h1, if_neg (by omega), List.append_nil])
        clear hb hz hs1 hbs hlk
        go_upto_region 9 with (first | (go_at_call 22; go_loud (((with_reducible refine (bad_v0 m gx gb Af nf cf a b c d e fs _ _ _ S hE.chip.chip HBD).mono ?_); rintro e' wB ⟨rfl, hbB⟩; have hplB := hE.pl.below hbB hE.pl.lt; have zb0 := hplB.cell_ 0; have zb1 := hplB.cell_ 1; simp at zb0 zb1))) | (go_at_call 34; go_loud (((with_reducible refine (look_yes m gx gb Af nf cf a b c d e fs x y (n0 + 3 * (i : Int)) _ S (hE.chip.below_ hbB).chip hE.good.fine (by omega) Dq nq Kq Pq Sq Eq stq S1 bs H8B HLB HZ HLK).mono ?_); rintro e' wL ⟨⟨Aq, cq, rfl, hoq⟩, hCW, hTL⟩; have hCL := (hE.chip.below_ hbB).next hCW; have hG4 := (hpg.below hbB hpg.lt).ch hTL hlow (by omega); have hG3 := (hE.pl.below hbB hE.pl.lt).ch hTL hlow (by omega); have hCP := capK (capK hE.cap (Tch.of_below (S := fun _ => False) hbB) (fun g hg hS => hS)) hTL (fun g hg hS => by have := hlow g hS; rcases hg with rfl | hg <;> omega); have hTT := (hE.tch.then hbB).trans (hTL.mono (S' := (fun g => chB m gx gb g ∨ g = gs ∨ w0.heap.size ≤ g)) (fun g hg => Or.inl hg)); obtain ⟨y0, y1, y2, y3, y4, y5⟩ := cells6 hG4; have y9 := hG4.free))))
        obtain ⟨wz, hwz⟩ : ∃ V : World, V = st6 wL (w0.heap.size + 1) (.slice Aq nq cq) (.int .i64 (Kq : Nat)) (.int .i64 (Pq : Nat)) (.int .i64 (Sq : Nat)) (.int .i64 (Eq : Nat)) (.int .i64 (stq : Nat)) := ⟨_, rfl⟩
        have HZ4 := st6_blk hG4 (.slice Aq nq cq) (.int .i64 (Kq : Nat)) (.int .i64 (Pq : Nat)) (.int .i64 (Sq : Nat)) (.int .i64 (Eq : Nat)) (.int .i64 (stq : Nat))
        have TZ := st6_tch wL (w0.heap.size + 1) (.slice Aq nq cq) (.int .i64 (Kq : Nat)) (.int .i64 (Pq : Nat)) (.int .i64 (Sq : Nat)) (.int .i64 (Eq : Nat)) (.int .i64 (stq : Nat))
        rw [← hwz] at HZ4 TZ
        unfold st6 at hwz
        rw [← hwz]
        clear hwz y0 y1 y2 y3 y4 y5 y9
        have hCZ := hCL.far TZ (fun g hg => by subst hg; omega)
        have hG3Z := TZ.blk hG3 (by omega)
        have hCPZ := capK hCP TZ (fun g hg hS => by subst hS; rcases hg with hg | hg <;> omega)
        have hTZ := hTT.trans (TZ.mono (S' := (fun g => chB m gx gb g ∨ g = gs ∨ w0.heap.size ≤ g)) (fun g hg => by subst hg; exact Or.inr (Or.inr (Nat.le_succ _))))
        have x0 := hG3Z.cell_ 0
        have x1 := hG3Z.cell_ 1
        simp at x0 x1
        obtain ⟨y0, y1, y2, y3, y4, y5⟩ := cells6 HZ4
        go_wp2_with (go_at_call 38; go_loud (((with_reducible refine (scan1_any x y (Kq : Nat) (Pq : Nat) (Sq : Nat) (Eq : Nat) (stq : Nat) Aq nq cq gs (w0.heap.size + 2) (fdsOf acc) _ hCPZ (by have := HZ4.lt; omega) (by have := fdsOf_len acc; have := hE.alen; omega)).mono ?_); rintro e' wS ⟨rfl, hCS, hTS⟩; have hcn := hlow)))
        rename_i K hK
        go_step3
        show K _ _
        refine hK _ _ ?_
        exact HC.out 0 _ _ _ (show 2 * (NA * NB - i) < N by omega) (Or.inr ⟨rfl, scanJ0.mk ⟨⟨hCZ.far hTS (fun g hg => by rcases hg with hg | hg <;> omega), hTS.blk hG3Z (fun hg => by rcases hg with hg | hg <;> omega), ⟨_, _, _, _, _, _, hTS.blk HZ4 (fun hg => by rcases hg with hg | hg <;> omega)⟩, (by rw [fdsOf_snoc, fdOf_lk HLK.out]; have := hCS; rw [HLI.out]; exact this), by rw [List.length_append]; have := hE.alen; simp; omega, hTZ.trans (hTS.mono (S' := (fun g => chB m gx gb g ∨ g = gs ∨ w0.heap.size ≤ g)) (fun g hg => Or.inr (by rcases hg with hg | hg; exact Or.inl hg; exact Or.inr (by omega)))), HG1.out, HB1.out, hE.lt, hE.px, hE.py⟩, HW0, Nat.le_refl _⟩⟩) _ (by kernel_rfl)
      · have HZ := Lib.hid (And.intro (And.intro hz (And.intro trivial hs1)) hne)
        have HRE : Hid (R = (Z, acc, S1)) := Lib.hid (by have h := hW.out; rw [HST.out, walkF_err (S1 := S1) (Z := Z) (by rw [← hE.px]; exact hb) (by rw [← hE.px, ← hE.py]; exact hz) hne (by rw [← hE.px, ← hE.py]; exact hs1)] at h; exact h.symm)
        have hz1 : (Z == 0) = false := by simpa using hne
        have hz2 : (Z != 0) = true := by simpa using hne
        have hal := hE.alen
        clear hb hz hs1 hne
        go_upto_region 9 with (first | (go_at_call 22; go_loud (((with_reducible refine (bad_v0 m gx gb Af nf cf a b c d e fs _ _ _ S hE.chip.chip HBD).mono ?_); rintro e' wB ⟨rfl, hbB⟩; have hplB := hE.pl.below hbB hE.pl.lt; have zb0 := hplB.cell_ 0; have zb1 := hplB.cell_ 1; simp at zb0 zb1))) | (go_at_call 34; go_loud (((with_reducible refine (look_no m gx gb Af nf cf a b c d e fs x y (n0 + 3 * (i : Int)) _ S (hE.chip.below_ hbB).chip hE.good.fine (by omega) Z S1 (Lib.hid HZ.out.1) HZ.out.2).mono ?_); rintro e' wL ⟨rfl, hCW, hTL⟩; have hCL := (hE.chip.below_ hbB).next hCW; have hG4 := (hpg.below hbB hpg.lt).ch hTL hlow (by omega); have hG3 := (hE.pl.below hbB hE.pl.lt).ch hTL hlow (by omega); have hCP := capK (capK hE.cap (Tch.of_below (S := fun _ => False) hbB) (fun g hg hS => hS)) hTL (fun g hg hS => by have := hlow g hS; rcases hg with rfl | hg <;> omega); have hTT := (hE.tch.then hbB).trans (hTL.mono (S' := (fun g => chB m gx gb g ∨ g = gs ∨ w0.heap.size ≤ g)) (fun g hg => Or.inl hg)); obtain ⟨y0, y1, y2, y3, y4, y5⟩ := cells6 hG4; have y9 := hG4.free))))
        obtain ⟨wz, hwz⟩ : ∃ V : World, V = st6 wL (w0.heap.size + 1) (.slice none 0 0) (.int .i64 0) (.int .i64 0) (.int .i64 0) (.int .i64 0) (.int .i64 0) := ⟨_, rfl⟩
        have HZ4 := st6_blk hG4 (.slice none 0 0) (.int .i64 0) (.int .i64 0) (.int .i64 0) (.int .i64 0) (.int .i64 0)
        have TZ := st6_tch wL (w0.heap.size + 1) (.slice none 0 0) (.int .i64 0) (.int .i64 0) (.int .i64 0) (.int .i64 0) (.int .i64 0)
        rw [← hwz] at HZ4 TZ
        unfold st6 at hwz
        rw [← hwz]
        clear hwz y0 y1 y2 y3 y4 y5 y9
        have hCZ := hCL.far TZ (fun g hg => by subst hg; omega)
        have hG3Z := TZ.blk hG3 (by omega)
        have hCPZ := capK hCP TZ (fun g hg hS => by subst hS; rcases hg with hg | hg <;> omega)
        have hTZ := hTT.trans (TZ.mono (S' := (fun g => chB m gx gb g ∨ g = gs ∨ w0.heap.size ≤ g)) (fun g hg => by subst hg; exact Or.inr (Or.inr (Nat.le_succ _))))
        go_wp2_with fail
        refine jumpsQ_ret ?_
        go_ret
        unfold scanE
        rw [HRE.out]
        exact ⟨rfl, hCZ.chip, hCPZ, by show acc.length ≤ 160; omega, hTZ.monoL (fun g hg h => by rcases h with h | h | h; exact Or.inl h; exact Or.inr h; omega), HG1.out.mono (by omega), HB1.out⟩
    · obtain ⟨i, S, acc, x, y, u, rfl, hE, hW, hN⟩ := hJ
      refine ⟨_, (by simp only [findLabel, Nat.reduceBEq, if_true, if_false, Bool.false_eq_true]; rfl), ?_⟩
      have hi := hE.lt
      have z0 := hE.pl.cell_ 0
      have z1 := hE.pl.cell_ 1
      simp at z0 z1
      obtain ⟨v0, v1, v2, v3, v4, v5, hpg⟩ := hE.pg
      have hnx : ∀ (X Y : Int) (T : Bool), Hid (X = (if i + 1 < NA * NB then (((i + 1) / NB : Nat) : Int) else 0) ∧ Y = (if i + 1 < NA * NB then (((i + 1) % NB : Nat) : Int) else 0) ∧ T = decide (i + 1 < NA * NB)) → ∀ w : World, Calls Try.prog 66 #[.agg #[.int .i64 a, .int .i64 b, .int .i64 c, .int .i64 d, .int .i64 e], .agg #[.int .i64 x, .int .i64 y]] w fun e' w' => e' = .returned (.tuple #[.agg #[.int .i64 X, .int .i64 Y], .bool T]) ∧ Below w.heap.size w w' := fun X Y T hX w => by
        rw [hE.px, hE.py]
        exact next_at a b c d e NA NB i w HM.out HLAB.out.1 HLAB.out.2 hB0 hi X Y T hX
      by_cases hl : i + 1 < NA * NB
      · obtain ⟨X, hX⟩ : ∃ X : Int, X = (((i + 1) / NB : Nat) : Int) := ⟨_, rfl⟩
        obtain ⟨Y, hY⟩ : ∃ Y : Int, Y = (((i + 1) % NB : Nat) : Int) := ⟨_, rfl⟩
        have hcn := hnx X Y true (Lib.hid ⟨by rw [if_pos hl]; exact hX, by rw [if_pos hl]; exact hY, (decide_eq_true hl).symm⟩)
        have HXY := Lib.hid (And.intro hX hY)
        clear hnx hX hY
        have hCd : ChipW wr.drew m gx gb Af nf cf a b c d e fs S := hE.chip.chip.like
        go_upto_region 12 with fail
        refine wp_region_noPanic ?_
        refine wp_region_held_drew (S := (fun _ => True)) (by kernel_rfl) ?_ (fun hHeld => ?_)
        · exact trivial
        refine tk 0 ⟨some 29, .move (.tmp 0), 29, "leaf.go:98", #[], none⟩ ?_; try simp only [Act.put, pz1, pz2, pz3]
        refine wpAnyH_ready (rs := [1, 2]) (by kernel_rfl) (by simp) ?_
        refine (AllReadyH.cons (o := ⟨some 30, .call { callee := .value (.func 67), args := #[.tmp 29], argTypes := #[29] }, 23, "leaf.go:98", #[⟨0, .data⟩], none⟩) rfl (fun K hK => ?_) (AllReadyH.cons (o := ⟨some 31, .load 27 (.tmp 5), 27, "leaf.go:98", #[], none⟩) rfl (fun K hK => ?_) AllReadyH.nil))
        · go_simp
          (first | (go_at_call 67; go_loud (((with_reducible refine (geometry_0 m gx gb Af nf cf a b c d e fs _ S (by first | exact hE.chip.chip | exact hCd)).mono ?_); rintro e' wG ⟨rfl, hbG⟩; (try have hbG := undrew hbG); have hplG := hE.pl.below hbG hE.pl.lt; have k0 := hplG.cell_ 0; have k1 := hplG.cell_ 1; simp at k0 k1))) | (go_at_call 66; go_loud (((with_reducible refine (hcn _).mono ?_); rintro e' wX ⟨rfl, hbX⟩; have hplX := hplG.below hbX hplG.lt; have q0 := hplX.cell_ 0; have q1 := hplX.cell_ 1; simp at q0 q1; have q9 := hplX.free))))
          go_wp2_with fail
          refine hK.out _ _ ?_ (fun hNew => ?_)
          · exact trivial
          clear hK K hHeld
          have hHeld := hNew
          clear hNew
          try simp only [Act.put, pz1, pz2, pz3]
          refine wpAnyH_ready (rs := [2]) (by kernel_rfl) (by simp) ?_
          refine AllReadyH.cons (o := ⟨some 31, .load 27 (.tmp 5), 27, "leaf.go:98", #[], none⟩) rfl (fun K hK => ?_) AllReadyH.nil
          go_simp
          skip
          refine hK.out _ _ ?_ (fun hNew => ?_)
          · exact trivial
          clear hK K hHeld
          have hHeld := hNew
          clear hNew
          try simp only [Act.put, pz1, pz2, pz3]
          refine wpAnyH_ready (rs := [3]) (by kernel_rfl) (by simp) ?_
          refine AllReadyH.cons (o := ⟨some 32, .call { callee := .value (.func 66), args := #[.tmp 30, .tmp 31], argTypes := #[23, 27] }, 123, "leaf.go:98", #[⟨1, .data⟩, ⟨2, .data⟩, ⟨1, .chain⟩], none⟩) rfl (fun K hK => ?_) AllReadyH.nil
          go_simp
          (first | (go_at_call 67; go_loud (((with_reducible refine (geometry_0 m gx gb Af nf cf a b c d e fs _ S (by first | exact hE.chip.chip | exact hCd)).mono ?_); rintro e' wG ⟨rfl, hbG⟩; (try have hbG := undrew hbG); have hplG := hE.pl.below hbG hE.pl.lt; have k0 := hplG.cell_ 0; have k1 := hplG.cell_ 1; simp at k0 k1))) | (go_at_call 66; go_loud (((with_reducible refine (hcn _).mono ?_); rintro e' wX ⟨rfl, hbX⟩; have hplX := hplG.below hbX hplG.lt; have q0 := hplX.cell_ 0; have q1 := hplX.cell_ 1; simp at q0 q1; have q9 := hplX.free))))
          go_wp2_with fail
          refine hK.out _ _ ?_ (fun hNew => ?_)
          · exact trivial
          clear hK K hHeld
          have hHeld := hNew
          clear hNew
          try simp only [Act.put, pz1, pz2, pz3]
          refine tk 4 ⟨some 28, .move (.tmp 32), 123, "leaf.go:98", #[⟨3, .data⟩], none⟩ ?_; try simp only [Act.put, pz1, pz2, pz3]
          refine tk 5 ⟨some 33, .extract (.tmp 28) 0, 27, "leaf.go:98", #[⟨4, .data⟩], none⟩ ?_; try simp only [Act.put, pz1, pz2, pz3]
          refine tk 6 ⟨some 34, .extract (.tmp 28) 1, 4, "leaf.go:98", #[⟨4, .data⟩, { on := 7, ground := Ground.gcOnly Departure.lateStores }], none⟩ ?_; try simp only [Act.put, pz1, pz2, pz3]
          refine wpAnyH_ready (rs := [7]) (by kernel_rfl) (by simp) ?_
          refine AllReadyH.cons (o := ⟨none, .store 27 (.tmp 5) (.tmp 33), 0, "leaf.go:98", #[⟨5, .data⟩, ⟨3, .chain⟩, ⟨0, .phase⟩, ⟨1, .phase⟩, ⟨2, .phase⟩, ⟨3, .phase⟩, ⟨4, .phase⟩, ⟨5, .phase⟩, { on := 6, ground := Ground.textOnly Departure.lateStores }], none⟩) rfl (fun K hK => ?_) AllReadyH.nil
          go_simp
          skip
          refine hK.out _ _ ?_ (fun hNew => ?_)
          · exact trivial
          clear hK K hHeld
          have hHeld := hNew
          clear hNew
          try simp only [Act.put, pz1, pz2, pz3]
          refine tk 8 ⟨some 8, .assign (.tmp 34), 4, "leaf.go:98", #[⟨6, .data⟩, ⟨7, .chain⟩, ⟨0, .phase⟩, ⟨1, .phase⟩, ⟨2, .phase⟩, ⟨3, .phase⟩, ⟨4, .phase⟩, ⟨5, .phase⟩, ⟨6, .phase⟩, ⟨7, .phase⟩], none⟩ ?_; try simp only [Act.put, pz1, pz2, pz3]
          refine wpAnyH_done (by kernel_rfl) ?_ _
          refine NoPanic.normal ?_
          clear hHeld
          go_wp2_with fail
          obtain ⟨wz, hwz⟩ : ∃ V : World, V = (wX.setCell ⟨w0.heap.size, 0, none⟩ (.int .i64 X)).setCell ⟨w0.heap.size, 1, none⟩ (.int .i64 Y) := ⟨_, rfl⟩
          have HZ3 : Blk ((wX.setCell ⟨w0.heap.size, 0, none⟩ (.int .i64 X)).setCell ⟨w0.heap.size, 1, none⟩ (.int .i64 Y)) w0.heap.size 27 #[.int .i64 X, .int .i64 Y] := (hplX.set_ 0 (.int .i64 X)).set_ 1 (.int .i64 Y)
          have TZ := (Tch.setm wX w0.heap.size 0 (.int .i64 X)).trans (Tch.setm _ w0.heap.size 1 (.int .i64 Y))
          rw [← hwz] at HZ3 TZ
          rw [← hwz]
          clear hwz
          have hCX := ((hE.chip.below_ hbG).below_ hbX).far TZ (fun g hg => by subst hg; omega)
          have hG4X := TZ.blk ((hpg.below hbG hpg.lt).below hbX (hpg.below hbG hpg.lt).lt) (by omega)
          have hCPX := capK (capK (capK hE.cap (Tch.of_below (S := fun _ => False) hbG) (fun g hg hS => hS)) (Tch.of_below (S := fun _ => False) hbX) (fun g hg hS => hS)) TZ (fun g hg hS => by subst hS; rcases hg with hg | hg <;> omega)
          have hTX := ((hE.tch.then hbG).then hbX).trans (TZ.mono (S' := (fun g => chB m gx gb g ∨ g = gs ∨ w0.heap.size ≤ g)) (fun g hg => by subst hg; exact Or.inr (Or.inr (Nat.le_refl _))))
          go_step3
          exact (show ∃ m', m' < N ∧ scanJ w0 n0 m gx gb Af nf cf a b c d e fs L NA NB gs R 1 m' _ _ from ⟨2 * (NA * NB - (i + 1)) + 1, by omega, Or.inl ⟨rfl, scanJ1.mk ⟨⟨hCX, HZ3, ⟨_, _, _, _, _, _, hG4X⟩, hCPX, hE.alen, hTX, hE.good.mono (by omega), hE.by8, hl, HXY.out.1, HXY.out.2⟩, hW, Nat.le_refl _⟩⟩⟩)
        · go_simp
          skip
          refine hK.out _ _ ?_ (fun hNew => ?_)
          · exact trivial
          clear hK K hHeld
          have hHeld := hNew
          clear hNew
          try simp only [Act.put, pz1, pz2, pz3]
          refine wpAnyH_ready (rs := [1]) (by kernel_rfl) (by simp) ?_
          refine AllReadyH.cons (o := ⟨some 30, .call { callee := .value (.func 67), args := #[.tmp 29], argTypes := #[29] }, 23, "leaf.go:98", #[⟨0, .data⟩], none⟩) rfl (fun K hK => ?_) AllReadyH.nil
          go_simp
          (first | (go_at_call 67; go_loud (((with_reducible refine (geometry_0 m gx gb Af nf cf a b c d e fs _ S (by first | exact hE.chip.chip | exact hCd)).mono ?_); rintro e' wG ⟨rfl, hbG⟩; (try have hbG := undrew hbG); have hplG := hE.pl.below hbG hE.pl.lt; have k0 := hplG.cell_ 0; have k1 := hplG.cell_ 1; simp at k0 k1))) | (go_at_call 66; go_loud (((with_reducible refine (hcn _).mono ?_); rintro e' wX ⟨rfl, hbX⟩; have hplX := hplG.below hbX hplG.lt; have q0 := hplX.cell_ 0; have q1 := hplX.cell_ 1; simp at q0 q1; have q9 := hplX.free))))
          go_wp2_with fail
          refine hK.out _ _ ?_ (fun hNew => ?_)
          · exact trivial
          clear hK K hHeld
          have hHeld := hNew
          clear hNew
          try simp only [Act.put, pz1, pz2, pz3]
          refine wpAnyH_ready (rs := [3]) (by kernel_rfl) (by simp) ?_
          refine AllReadyH.cons (o := ⟨some 32, .call { callee := .value (.func 66), args := #[.tmp 30, .tmp 31], argTypes := #[23, 27] }, 123, "leaf.go:98", #[⟨1, .data⟩, ⟨2, .data⟩, ⟨1, .chain⟩], none⟩) rfl (fun K hK => ?_) AllReadyH.nil
          go_simp
          (first | (go_at_call 67; go_loud (((with_reducible refine (geometry_0 m gx gb Af nf cf a b c d e fs _ S (by first | exact hE.chip.chip | exact hCd)).mono ?_); rintro e' wG ⟨rfl, hbG⟩; (try have hbG := undrew hbG); have hplG := hE.pl.below hbG hE.pl.lt; have k0 := hplG.cell_ 0; have k1 := hplG.cell_ 1; simp at k0 k1))) | (go_at_call 66; go_loud (((with_reducible refine (hcn _).mono ?_); rintro e' wX ⟨rfl, hbX⟩; have hplX := hplG.below hbX hplG.lt; have q0 := hplX.cell_ 0; have q1 := hplX.cell_ 1; simp at q0 q1; have q9 := hplX.free))))
          go_wp2_with fail
          refine hK.out _ _ ?_ (fun hNew => ?_)
          · exact trivial
          clear hK K hHeld
          have hHeld := hNew
          clear hNew
          try simp only [Act.put, pz1, pz2, pz3]
          refine tk 4 ⟨some 28, .move (.tmp 32), 123, "leaf.go:98", #[⟨3, .data⟩], none⟩ ?_; try simp only [Act.put, pz1, pz2, pz3]
          refine tk 5 ⟨some 33, .extract (.tmp 28) 0, 27, "leaf.go:98", #[⟨4, .data⟩], none⟩ ?_; try simp only [Act.put, pz1, pz2, pz3]
          refine tk 6 ⟨some 34, .extract (.tmp 28) 1, 4, "leaf.go:98", #[⟨4, .data⟩, { on := 7, ground := Ground.gcOnly Departure.lateStores }], none⟩ ?_; try simp only [Act.put, pz1, pz2, pz3]
          refine wpAnyH_ready (rs := [7]) (by kernel_rfl) (by simp) ?_
          refine AllReadyH.cons (o := ⟨none, .store 27 (.tmp 5) (.tmp 33), 0, "leaf.go:98", #[⟨5, .data⟩, ⟨3, .chain⟩, ⟨0, .phase⟩, ⟨1, .phase⟩, ⟨2, .phase⟩, ⟨3, .phase⟩, ⟨4, .phase⟩, ⟨5, .phase⟩, { on := 6, ground := Ground.textOnly Departure.lateStores }], none⟩) rfl (fun K hK => ?_) AllReadyH.nil
          go_simp
          skip
          refine hK.out _ _ ?_ (fun hNew => ?_)
          · exact trivial
          clear hK K hHeld
          have hHeld := hNew
          clear hNew
          try simp only [Act.put, pz1, pz2, pz3]
          refine tk 8 ⟨some 8, .assign (.tmp 34), 4, "leaf.go:98", #[⟨6, .data⟩, ⟨7, .chain⟩, ⟨0, .phase⟩, ⟨1, .phase⟩, ⟨2, .phase⟩, ⟨3, .phase⟩, ⟨4, .phase⟩, ⟨5, .phase⟩, ⟨6, .phase⟩, ⟨7, .phase⟩], none⟩ ?_; try simp only [Act.put, pz1, pz2, pz3]
          refine wpAnyH_done (by kernel_rfl) ?_ _
          refine NoPanic.normal ?_
          clear hHeld
          go_wp2_with fail
          obtain ⟨wz, hwz⟩ : ∃ V : World, V = (wX.setCell ⟨w0.heap.size, 0, none⟩ (.int .i64 X)).setCell ⟨w0.heap.size, 1, none⟩ (.int .i64 Y) := ⟨_, rfl⟩
          have HZ3 : Blk ((wX.setCell ⟨w0.heap.size, 0, none⟩ (.int .i64 X)).setCell ⟨w0.heap.size, 1, none⟩ (.int .i64 Y)) w0.heap.size 27 #[.int .i64 X, .int .i64 Y] := (hplX.set_ 0 (.int .i64 X)).set_ 1 (.int .i64 Y)
          have TZ := (Tch.setm wX w0.heap.size 0 (.int .i64 X)).trans (Tch.setm _ w0.heap.size 1 (.int .i64 Y))
          rw [← hwz] at HZ3 TZ
          rw [← hwz]
          clear hwz
          have hCX := ((hE.chip.below_ hbG).below_ hbX).far TZ (fun g hg => by subst hg; omega)
          have hG4X := TZ.blk ((hpg.below hbG hpg.lt).below hbX (hpg.below hbG hpg.lt).lt) (by omega)
          have hCPX := capK (capK (capK hE.cap (Tch.of_below (S := fun _ => False) hbG) (fun g hg hS => hS)) (Tch.of_below (S := fun _ => False) hbX) (fun g hg hS => hS)) TZ (fun g hg hS => by subst hS; rcases hg with hg | hg <;> omega)
          have hTX := ((hE.tch.then hbG).then hbX).trans (TZ.mono (S' := (fun g => chB m gx gb g ∨ g = gs ∨ w0.heap.size ≤ g)) (fun g hg => by subst hg; exact Or.inr (Or.inr (Nat.le_refl _))))
          go_step3
          exact (show ∃ m', m' < N ∧ scanJ w0 n0 m gx gb Af nf cf a b c d e fs L NA NB gs R 1 m' _ _ from ⟨2 * (NA * NB - (i + 1)) + 1, by omega, Or.inl ⟨rfl, scanJ1.mk ⟨⟨hCX, HZ3, ⟨_, _, _, _, _, _, hG4X⟩, hCPX, hE.alen, hTX, hE.good.mono (by omega), hE.by8, hl, HXY.out.1, HXY.out.2⟩, hW, Nat.le_refl _⟩⟩⟩)
      · have hcn := hnx 0 0 false (Lib.hid ⟨by rw [if_neg hl], by rw [if_neg hl], (decide_eq_false hl).symm⟩)
        have HRE : Hid (R = (0, acc, S)) := Lib.hid (by have h := hW.out; rw [show NA * NB - (i + 1) = 0 by omega] at h; exact h.symm)
        have hal := hE.alen
        have hCd : ChipW wr.drew m gx gb Af nf cf a b c d e fs S := hE.chip.chip.like
        clear hnx
        go_upto_region 12 with fail
        refine wp_region_noPanic ?_
        refine wp_region_held_drew (S := (fun _ => True)) (by kernel_rfl) ?_ (fun hHeld => ?_)
        · exact trivial
        refine tk 0 ⟨some 29, .move (.tmp 0), 29, "leaf.go:98", #[], none⟩ ?_; try simp only [Act.put, pz1, pz2, pz3]
        refine wpAnyH_ready (rs := [1, 2]) (by kernel_rfl) (by simp) ?_
        refine (AllReadyH.cons (o := ⟨some 30, .call { callee := .value (.func 67), args := #[.tmp 29], argTypes := #[29] }, 23, "leaf.go:98", #[⟨0, .data⟩], none⟩) rfl (fun K hK => ?_) (AllReadyH.cons (o := ⟨some 31, .load 27 (.tmp 5), 27, "leaf.go:98", #[], none⟩) rfl (fun K hK => ?_) AllReadyH.nil))
        · go_simp
          (first | (go_at_call 67; go_loud (((with_reducible refine (geometry_0 m gx gb Af nf cf a b c d e fs _ S (by first | exact hE.chip.chip | exact hCd)).mono ?_); rintro e' wG ⟨rfl, hbG⟩; (try have hbG := undrew hbG); have hplG := hE.pl.below hbG hE.pl.lt; have k0 := hplG.cell_ 0; have k1 := hplG.cell_ 1; simp at k0 k1))) | (go_at_call 66; go_loud (((with_reducible refine (hcn _).mono ?_); rintro e' wX ⟨rfl, hbX⟩; have hplX := hplG.below hbX hplG.lt; have q0 := hplX.cell_ 0; have q1 := hplX.cell_ 1; simp at q0 q1; have q9 := hplX.free))))
          go_wp2_with fail
          refine hK.out _ _ ?_ (fun hNew => ?_)
          · exact trivial
          clear hK K hHeld
          have hHeld := hNew
          clear hNew
          try simp only [Act.put, pz1, pz2, pz3]
          refine wpAnyH_ready (rs := [2]) (by kernel_rfl) (by simp) ?_
          refine AllReadyH.cons (o := ⟨some 31, .load 27 (.tmp 5), 27, "leaf.go:98", #[], none⟩) rfl (fun K hK => ?_) AllReadyH.nil
          go_simp
          skip
          refine hK.out _ _ ?_ (fun hNew => ?_)
          · exact trivial
          clear hK K hHeld
          have hHeld := hNew
          clear hNew
          try simp only [Act.put, pz1, pz2, pz3]
          refine wpAnyH_ready (rs := [3]) (by kernel_rfl) (by simp) ?_
          refine AllReadyH.cons (o := ⟨some 32, .call { callee := .value (.func 66), args := #[.tmp 30, .tmp 31], argTypes := #[23, 27] }, 123, "leaf.go:98", #[⟨1, .data⟩, ⟨2, .data⟩, ⟨1, .chain⟩], none⟩) rfl (fun K hK => ?_) AllReadyH.nil
          go_simp
          (first | (go_at_call 67; go_loud (((with_reducible refine (geometry_0 m gx gb Af nf cf a b c d e fs _ S (by first | exact hE.chip.chip | exact hCd)).mono ?_); rintro e' wG ⟨rfl, hbG⟩; (try have hbG := undrew hbG); have hplG := hE.pl.below hbG hE.pl.lt; have k0 := hplG.cell_ 0; have k1 := hplG.cell_ 1; simp at k0 k1))) | (go_at_call 66; go_loud (((with_reducible refine (hcn _).mono ?_); rintro e' wX ⟨rfl, hbX⟩; have hplX := hplG.below hbX hplG.lt; have q0 := hplX.cell_ 0; have q1 := hplX.cell_ 1; simp at q0 q1; have q9 := hplX.free))))
          go_wp2_with fail
          refine hK.out _ _ ?_ (fun hNew => ?_)
          · exact trivial
          clear hK K hHeld
          have hHeld := hNew
          clear hNew
          try simp only [Act.put, pz1, pz2, pz3]
          refine tk 4 ⟨some 28, .move (.tmp 32), 123, "leaf.go:98", #[⟨3, .data⟩], none⟩ ?_; try simp only [Act.put, pz1, pz2, pz3]
          refine tk 5 ⟨some 33, .extract (.tmp 28) 0, 27, "leaf.go:98", #[⟨4, .data⟩], none⟩ ?_; try simp only [Act.put, pz1, pz2, pz3]
          refine tk 6 ⟨some 34, .extract (.tmp 28) 1, 4, "leaf.go:98", #[⟨4, .data⟩, { on := 7, ground := Ground.gcOnly Departure.lateStores }], none⟩ ?_; try simp only [Act.put, pz1, pz2, pz3]
          refine wpAnyH_ready (rs := [7]) (by kernel_rfl) (by simp) ?_
          refine AllReadyH.cons (o := ⟨none, .store 27 (.tmp 5) (.tmp 33), 0, "leaf.go:98", #[⟨5, .data⟩, ⟨3, .chain⟩, ⟨0, .phase⟩, ⟨1, .phase⟩, ⟨2, .phase⟩, ⟨3, .phase⟩, ⟨4, .phase⟩, ⟨5, .phase⟩, { on := 6, ground := Ground.textOnly Departure.lateStores }], none⟩) rfl (fun K hK => ?_) AllReadyH.nil
          go_simp
          skip
          refine hK.out _ _ ?_ (fun hNew => ?_)
          · exact trivial
          clear hK K hHeld
          have hHeld := hNew
          clear hNew
          try simp only [Act.put, pz1, pz2, pz3]
          refine tk 8 ⟨some 8, .assign (.tmp 34), 4, "leaf.go:98", #[⟨6, .data⟩, ⟨7, .chain⟩, ⟨0, .phase⟩, ⟨1, .phase⟩, ⟨2, .phase⟩, ⟨3, .phase⟩, ⟨4, .phase⟩, ⟨5, .phase⟩, ⟨6, .phase⟩, ⟨7, .phase⟩], none⟩ ?_; try simp only [Act.put, pz1, pz2, pz3]
          refine wpAnyH_done (by kernel_rfl) ?_ _
          refine NoPanic.normal ?_
          clear hHeld
          go_wp2_with fail
          obtain ⟨wz, hwz⟩ : ∃ V : World, V = (wX.setCell ⟨w0.heap.size, 0, none⟩ (.int .i64 0)).setCell ⟨w0.heap.size, 1, none⟩ (.int .i64 0) := ⟨_, rfl⟩
          have HZ3 : Blk ((wX.setCell ⟨w0.heap.size, 0, none⟩ (.int .i64 0)).setCell ⟨w0.heap.size, 1, none⟩ (.int .i64 0)) w0.heap.size 27 #[.int .i64 0, .int .i64 0] := (hplX.set_ 0 (.int .i64 0)).set_ 1 (.int .i64 0)
          have TZ := (Tch.setm wX w0.heap.size 0 (.int .i64 0)).trans (Tch.setm _ w0.heap.size 1 (.int .i64 0))
          rw [← hwz] at HZ3 TZ
          rw [← hwz]
          clear hwz
          have hCX := ((hE.chip.below_ hbG).below_ hbX).far TZ (fun g hg => by subst hg; omega)
          have hG4X := TZ.blk ((hpg.below hbG hpg.lt).below hbX (hpg.below hbG hpg.lt).lt) (by omega)
          have hCPX := capK (capK (capK hE.cap (Tch.of_below (S := fun _ => False) hbG) (fun g hg hS => hS)) (Tch.of_below (S := fun _ => False) hbX) (fun g hg hS => hS)) TZ (fun g hg hS => by subst hS; rcases hg with hg | hg <;> omega)
          have hTX := ((hE.tch.then hbG).then hbX).trans (TZ.mono (S' := (fun g => chB m gx gb g ∨ g = gs ∨ w0.heap.size ≤ g)) (fun g hg => by subst hg; exact Or.inr (Or.inr (Nat.le_refl _))))
          refine jumpsQ_ret ?_
          go_ret
          unfold scanE
          rw [HRE.out]
          exact ⟨rfl, hCX.chip, hCPX, by show acc.length ≤ 160; omega, hTX.monoL (fun g hg h => by rcases h with h | h | h; exact Or.inl h; exact Or.inr h; omega), hE.good.mono (by omega), hE.by8⟩
        · go_simp
          skip
          refine hK.out _ _ ?_ (fun hNew => ?_)
          · exact trivial
          clear hK K hHeld
          have hHeld := hNew
          clear hNew
          try simp only [Act.put, pz1, pz2, pz3]
          refine wpAnyH_ready (rs := [1]) (by kernel_rfl) (by simp) ?_
          refine AllReadyH.cons (o := ⟨some 30, .call { callee := .value (.func 67), args := #[.tmp 29], argTypes := #[29] }, 23, "leaf.go:98", #[⟨0, .data⟩], none⟩) rfl (fun K hK => ?_) AllReadyH.nil
          go_simp
          (first | (go_at_call 67; go_loud (((with_reducible refine (geometry_0 m gx gb Af nf cf a b c d e fs _ S (by first | exact hE.chip.chip | exact hCd)).mono ?_); rintro e' wG ⟨rfl, hbG⟩; (try have hbG := undrew hbG); have hplG := hE.pl.below hbG hE.pl.lt; have k0 := hplG.cell_ 0; have k1 := hplG.cell_ 1; simp at k0 k1))) | (go_at_call 66; go_loud (((with_reducible refine (hcn _).mono ?_); rintro e' wX ⟨rfl, hbX⟩; have hplX := hplG.below hbX hplG.lt; have q0 := hplX.cell_ 0; have q1 := hplX.cell_ 1; simp at q0 q1; have q9 := hplX.free))))
          go_wp2_with fail
          refine hK.out _ _ ?_ (fun hNew => ?_)
          · exact trivial
          clear hK K hHeld
          have hHeld := hNew
          clear hNew
          try simp only [Act.put, pz1, pz2, pz3]
          refine wpAnyH_ready (rs := [3]) (by kernel_rfl) (by simp) ?_
          refine AllReadyH.cons (o := ⟨some 32, .call { callee := .value (.func 66), args := #[.tmp 30, .tmp 31], argTypes := #[23, 27] }, 123, "leaf.go:98", #[⟨1, .data⟩, ⟨2, .data⟩, ⟨1, .chain⟩], none⟩) rfl (fun K hK => ?_) AllReadyH.nil
          go_simp
          (first | (go_at_call 67; go_loud (((with_reducible refine (geometry_0 m gx gb Af nf cf a b c d e fs _ S (by first | exact hE.chip.chip | exact hCd)).mono ?_); rintro e' wG ⟨rfl, hbG⟩; (try have hbG := undrew hbG); have hplG := hE.pl.below hbG hE.pl.lt; have k0 := hplG.cell_ 0; have k1 := hplG.cell_ 1; simp at k0 k1))) | (go_at_call 66; go_loud (((with_reducible refine (hcn _).mono ?_); rintro e' wX ⟨rfl, hbX⟩; have hplX := hplG.below hbX hplG.lt; have q0 := hplX.cell_ 0; have q1 := hplX.cell_ 1; simp at q0 q1; have q9 := hplX.free))))
          go_wp2_with fail
          refine hK.out _ _ ?_ (fun hNew => ?_)
          · exact trivial
          clear hK K hHeld
          have hHeld := hNew
          clear hNew
          try simp only [Act.put, pz1, pz2, pz3]
          refine tk 4 ⟨some 28, .move (.tmp 32), 123, "leaf.go:98", #[⟨3, .data⟩], none⟩ ?_; try simp only [Act.put, pz1, pz2, pz3]
          refine tk 5 ⟨some 33, .extract (.tmp 28) 0, 27, "leaf.go:98", #[⟨4, .data⟩], none⟩ ?_; try simp only [Act.put, pz1, pz2, pz3]
          refine tk 6 ⟨some 34, .extract (.tmp 28) 1, 4, "leaf.go:98", #[⟨4, .data⟩, { on := 7, ground := Ground.gcOnly Departure.lateStores }], none⟩ ?_; try simp only [Act.put, pz1, pz2, pz3]
          refine wpAnyH_ready (rs := [7]) (by kernel_rfl) (by simp) ?_
          refine AllReadyH.cons (o := ⟨none, .store 27 (.tmp 5) (.tmp 33), 0, "leaf.go:98", #[⟨5, .data⟩, ⟨3, .chain⟩, ⟨0, .phase⟩, ⟨1, .phase⟩, ⟨2, .phase⟩, ⟨3, .phase⟩, ⟨4, .phase⟩, ⟨5, .phase⟩, { on := 6, ground := Ground.textOnly Departure.lateStores }], none⟩) rfl (fun K hK => ?_) AllReadyH.nil
          go_simp
          skip
          refine hK.out _ _ ?_ (fun hNew => ?_)
          · exact trivial
          clear hK K hHeld
          have hHeld := hNew
          clear hNew
          try simp only [Act.put, pz1, pz2, pz3]
          refine tk 8 ⟨some 8, .assign (.tmp 34), 4, "leaf.go:98", #[⟨6, .data⟩, ⟨7, .chain⟩, ⟨0, .phase⟩, ⟨1, .phase⟩, ⟨2, .phase⟩, ⟨3, .phase⟩, ⟨4, .phase⟩, ⟨5, .phase⟩, ⟨6, .phase⟩, ⟨7, .phase⟩], none⟩ ?_; try simp only [Act.put, pz1, pz2, pz3]
          refine wpAnyH_done (by kernel_rfl) ?_ _
          refine NoPanic.normal ?_
          clear hHeld
          go_wp2_with fail
          obtain ⟨wz, hwz⟩ : ∃ V : World, V = (wX.setCell ⟨w0.heap.size, 0, none⟩ (.int .i64 0)).setCell ⟨w0.heap.size, 1, none⟩ (.int .i64 0) := ⟨_, rfl⟩
          have HZ3 : Blk ((wX.setCell ⟨w0.heap.size, 0, none⟩ (.int .i64 0)).setCell ⟨w0.heap.size, 1, none⟩ (.int .i64 0)) w0.heap.size 27 #[.int .i64 0, .int .i64 0] := (hplX.set_ 0 (.int .i64 0)).set_ 1 (.int .i64 0)
          have TZ := (Tch.setm wX w0.heap.size 0 (.int .i64 0)).trans (Tch.setm _ w0.heap.size 1 (.int .i64 0))
          rw [← hwz] at HZ3 TZ
          rw [← hwz]
          clear hwz
          have hCX := ((hE.chip.below_ hbG).below_ hbX).far TZ (fun g hg => by subst hg; omega)
          have hG4X := TZ.blk ((hpg.below hbG hpg.lt).below hbX (hpg.below hbG hpg.lt).lt) (by omega)
          have hCPX := capK (capK (capK hE.cap (Tch.of_below (S := fun _ => False) hbG) (fun g hg hS => hS)) (Tch.of_below (S := fun _ => False) hbX) (fun g hg hS => hS)) TZ (fun g hg hS => by subst hS; rcases hg with hg | hg <;> omega)
          have hTX := ((hE.tch.then hbG).then hbX).trans (TZ.mono (S' := (fun g => chB m gx gb g ∨ g = gs ∨ w0.heap.size ≤ g)) (fun g hg => by subst hg; exact Or.inr (Or.inr (Nat.le_refl _))))
          refine jumpsQ_ret ?_
          go_ret
          unfold scanE
          rw [HRE.out]
          exact ⟨rfl, hCX.chip, hCPX, by show acc.length ≤ 160; omega, hTX.monoL (fun g hg h => by rcases h with h | h | h; exact Or.inl h; exact Or.inr h; omega), hE.good.mono (by omega), hE.by8⟩
  · intro hcut
    have HC := Lib.hid hcut
    clear hcut
    go_wp2
    rename_i K hK
    go_step3
    show K _ _
    refine hK _ _ ?_
    exact HC.out 1 _ _ _ (Or.inl ⟨rfl, scanJ1.mk ⟨⟨hC.below_ HBW, HP3, ⟨_, _, _, _, _, _, HP4⟩, capK hcap (Tch.of_below (S := fun _ => False) HBW) (fun g hg hS => hS), Nat.zero_le _, Tch.of_below HBW, hg.mono (by omega), h8, hAB0, by rw [Nat.zero_div]; rfl, by rw [Nat.zero_mod]; rfl⟩, hR, Nat.le_refl _⟩⟩) _ (by kernel_rfl)
end Go.Proofs.Ytcpniplfkillbaa
namespace Go.Proofs.Ytcpniplfkillbaa
open Go.ChangeShapes Go.WideShapes Go.ChangeAt Go.RowKit
attribute [local go_sem ↓] Go.wp_at_zero Go.wp_at_succ
structure Evcount (w0 : World) (n0 : Int) (m gx gb : Nat) (Af : Option Addr) (nf cf : Nat) (a b c d e : Int) (fs : List Flt) (L NA NB ga gb2 gc : Nat) (R : Int × List Vis × ChS) (wr : World) (i : Nat) (S : ChS) (acc : List Vis) (x y : Int) : Prop where
  chip : ChN wr L m gx gb Af nf cf a b c d e fs S
  pl : Blk wr w0.heap.size 27 #[.int .i64 x, .int .i64 y]
  pg : ∃ v0 v1 v2 v3 v4 v5, Blk wr (w0.heap.size + 1) 83 #[v0, v1, v2, v3, v4, v5]
  cap : (Cnt wr ga gb2 gc (cnt (fun s => s == 0) acc) (cnt (fun s => s == 1) acc) (cnt (fun s => !(s == 0 || s == 1)) acc))
  alen : acc.length ≤ i
  tch : Tch (fun g => chB m gx gb g ∨ cB ga gb2 gc g ∨ w0.heap.size ≤ g) w0 wr
  good : Good S (n0 + 3 * (i : Int))
  by8 : Bytes8 S.X
  lt : i < NA * NB
  px : x = ((i / NB : Nat) : Int)
  py : y = ((i % NB : Nat) : Int)
def countJ1 (w0 : World) (n0 : Int) (m gx gb : Nat) (Af : Option Addr) (nf cf : Nat) (a b c d e : Int) (fs : List Flt) (L NA NB ga gb2 gc : Nat) (R : Int × List Vis × ChS) (n : Nat) (a' : Act) (wr : World) : Prop := ∃ (i : Nat) (S : ChS) (acc : List Vis) (x y : Int) (u : Nat → Value),
  a' = { tmps := #[.pointer (some ⟨m, 0, none⟩), .func (.func 40) #[] #[.pointer (some ⟨ga, 0, none⟩), .pointer (some ⟨gb2, 0, none⟩), .pointer (some ⟨gc, 0, none⟩)], u 2, u 3, .int .i64 0, .pointer (some ⟨w0.heap.size, 0, none⟩), .pointer (some ⟨w0.heap.size + 1, 0, none⟩), u 7, u 8, u 9, u 10, u 11, u 12, u 13, u 14, u 15, u 16, u 17, u 18, u 19, u 20, u 21, u 22, u 23, u 24, u 25, u 26, u 27, u 28, u 29, u 30, u 31, u 32, u 33, u 34, u 35], defers := [] } ∧ Evcount w0 n0 m gx gb Af nf cf a b c d e fs L NA NB ga gb2 gc R wr i S acc x y ∧ Hid (walkF a b c NB fs (NA * NB - i) i S acc = R) ∧ 2 * (NA * NB - i) + 1 ≤ n
structure Ewcount (w0 : World) (n0 : Int) (m gx gb : Nat) (Af : Option Addr) (nf cf : Nat) (a b c d e : Int) (fs : List Flt) (L NA NB ga gb2 gc : Nat) (R : Int × List Vis × ChS) (wr : World) (i : Nat) (S : ChS) (acc : List Vis) (x y : Int) : Prop where
  chip : ChN wr L m gx gb Af nf cf a b c d e fs S
  pl : Blk wr w0.heap.size 27 #[.int .i64 x, .int .i64 y]
  pg : ∃ v0 v1 v2 v3 v4 v5, Blk wr (w0.heap.size + 1) 83 #[v0, v1, v2, v3, v4, v5]
  cap : (Cnt wr ga gb2 gc (cnt (fun s => s == 0) acc) (cnt (fun s => s == 1) acc) (cnt (fun s => !(s == 0 || s == 1)) acc))
  alen : acc.length ≤ i + 1
  tch : Tch (fun g => chB m gx gb g ∨ cB ga gb2 gc g ∨ w0.heap.size ≤ g) w0 wr
  good : Good S (n0 + 3 + 3 * (i : Int))
  by8 : Bytes8 S.X
  lt : i < NA * NB
  px : x = ((i / NB : Nat) : Int)
  py : y = ((i % NB : Nat) : Int)
def countJ0 (w0 : World) (n0 : Int) (m gx gb : Nat) (Af : Option Addr) (nf cf : Nat) (a b c d e : Int) (fs : List Flt) (L NA NB ga gb2 gc : Nat) (R : Int × List Vis × ChS) (n : Nat) (a' : Act) (wr : World) : Prop := ∃ (i : Nat) (S : ChS) (acc : List Vis) (x y : Int) (u : Nat → Value),
  a' = { tmps := #[.pointer (some ⟨m, 0, none⟩), .func (.func 40) #[] #[.pointer (some ⟨ga, 0, none⟩), .pointer (some ⟨gb2, 0, none⟩), .pointer (some ⟨gc, 0, none⟩)], u 2, u 3, .int .i64 0, .pointer (some ⟨w0.heap.size, 0, none⟩), .pointer (some ⟨w0.heap.size + 1, 0, none⟩), u 7, u 8, u 9, u 10, u 11, u 12, u 13, u 14, u 15, u 16, u 17, u 18, u 19, u 20, u 21, u 22, u 23, u 24, u 25, u 26, u 27, u 28, u 29, u 30, u 31, u 32, u 33, u 34, u 35], defers := [] } ∧ Ewcount w0 n0 m gx gb Af nf cf a b c d e fs L NA NB ga gb2 gc R wr i S acc x y ∧ Hid (walkF a b c NB fs (NA * NB - (i + 1)) (i + 1) S acc = R) ∧ 2 * (NA * NB - i) ≤ n
theorem countJ1.mk {w0 : World} {n0 : Int} {m gx gb : Nat} {Af : Option Addr} {nf cf : Nat} {a b c d e : Int} {fs : List Flt} {L NA NB ga gb2 gc : Nat} {R : Int × List Vis × ChS} {n : Nat} {wr : World} {i : Nat} {S : ChS} {acc : List Vis} {x y : Int} {u2 u3 u7 u8 u9 u10 u11 u12 u13 u14 u15 u16 u17 u18 u19 u20 u21 u22 u23 u24 u25 u26 u27 u28 u29 u30 u31 u32 u33 u34 u35 : Value} (h : Evcount w0 n0 m gx gb Af nf cf a b c d e fs L NA NB ga gb2 gc R wr i S acc x y ∧ Hid (walkF a b c NB fs (NA * NB - i) i S acc = R) ∧ 2 * (NA * NB - i) + 1 ≤ n) : countJ1 w0 n0 m gx gb Af nf cf a b c d e fs L NA NB ga gb2 gc R n { tmps := #[.pointer (some ⟨m, 0, none⟩), .func (.func 40) #[] #[.pointer (some ⟨ga, 0, none⟩), .pointer (some ⟨gb2, 0, none⟩), .pointer (some ⟨gc, 0, none⟩)], u2, u3, .int .i64 0, .pointer (some ⟨w0.heap.size, 0, none⟩), .pointer (some ⟨w0.heap.size + 1, 0, none⟩), u7, u8, u9, u10, u11, u12, u13, u14, u15, u16, u17, u18, u19, u20, u21, u22, u23, u24, u25, u26, u27, u28, u29, u30, u31, u32, u33, u34, u35], defers := [] } wr :=
  ⟨i, S, acc, x, y, fun i => (#[undef, undef, u2, u3, undef, undef, undef, u7, u8, u9, u10, u11, u12, u13, u14, u15, u16, u17, u18, u19, u20, u21, u22, u23, u24, u25, u26, u27, u28, u29, u30, u31, u32, u33, u34, u35] : Array Value).getD i undef, rfl, h⟩
theorem countJ0.mk {w0 : World} {n0 : Int} {m gx gb : Nat} {Af : Option Addr} {nf cf : Nat} {a b c d e : Int} {fs : List Flt} {L NA NB ga gb2 gc : Nat} {R : Int × List Vis × ChS} {n : Nat} {wr : World} {i : Nat} {S : ChS} {acc : List Vis} {x y : Int} {u2 u3 u7 u8 u9 u10 u11 u12 u13 u14 u15 u16 u17 u18 u19 u20 u21 u22 u23 u24 u25 u26 u27 u28 u29 u30 u31 u32 u33 u34 u35 : Value} (h : Ewcount w0 n0 m gx gb Af nf cf a b c d e fs L NA NB ga gb2 gc R wr i S acc x y ∧ Hid (walkF a b c NB fs (NA * NB - (i + 1)) (i + 1) S acc = R) ∧ 2 * (NA * NB - i) ≤ n) : countJ0 w0 n0 m gx gb Af nf cf a b c d e fs L NA NB ga gb2 gc R n { tmps := #[.pointer (some ⟨m, 0, none⟩), .func (.func 40) #[] #[.pointer (some ⟨ga, 0, none⟩), .pointer (some ⟨gb2, 0, none⟩), .pointer (some ⟨gc, 0, none⟩)], u2, u3, .int .i64 0, .pointer (some ⟨w0.heap.size, 0, none⟩), .pointer (some ⟨w0.heap.size + 1, 0, none⟩), u7, u8, u9, u10, u11, u12, u13, u14, u15, u16, u17, u18, u19, u20, u21, u22, u23, u24, u25, u26, u27, u28, u29, u30, u31, u32, u33, u34, u35], defers := [] } wr :=
  ⟨i, S, acc, x, y, fun i => (#[undef, undef, u2, u3, undef, undef, undef, u7, u8, u9, u10, u11, u12, u13, u14, u15, u16, u17, u18, u19, u20, u21, u22, u23, u24, u25, u26, u27, u28, u29, u30, u31, u32, u33, u34, u35] : Array Value).getD i undef, rfl, h⟩
def countJ (w0 : World) (n0 : Int) (m gx gb : Nat) (Af : Option Addr) (nf cf : Nat) (a b c d e : Int) (fs : List Flt) (L NA NB ga gb2 gc : Nat) (R : Int × List Vis × ChS) (l n : Nat) (a' : Act) (wr : World) : Prop := (l = 1 ∧ countJ1 w0 n0 m gx gb Af nf cf a b c d e fs L NA NB ga gb2 gc R n a' wr) ∨ (l = 0 ∧ countJ0 w0 n0 m gx gb Af nf cf a b c d e fs L NA NB ga gb2 gc R n a' wr)
def countE (w0 : World) (n0 : Int) (m gx gb : Nat) (Af : Option Addr) (nf cf : Nat) (a b c d e : Int) (fs : List Flt) (L NA NB ga gb2 gc : Nat) (R : Int × List Vis × ChS) (e' : Ending) (w' : World) : Prop := e' = .returned (.int .i64 R.1) ∧ ChipW w' m gx gb Af nf cf a b c d e fs R.2.2 ∧ (Cnt w' ga gb2 gc (cnt (fun s => s == 0) R.2.1) (cnt (fun s => s == 1) R.2.1) (cnt (fun s => !(s == 0 || s == 1)) R.2.1)) ∧ R.2.1.length ≤ 160 ∧ Tch (fun g => chB m gx gb g ∨ cB ga gb2 gc g) w0 w' ∧ Good R.2.2 (n0 + 1000) ∧ Bytes8 R.2.2.X
theorem each_count (w0 : World) (n0 : Int) (m gx gb : Nat) (Af : Option Addr) (nf cf : Nat) (a b c d e : Int) (fs : List Flt) (L NA NB ga gb2 gc : Nat) (s : ChS) (R : Int × List Vis × ChS) (hC : ChN w0 L m gx gb Af nf cf a b c d e fs s) (hL : L ≤ w0.heap.size) (hgs : L ≤ ga ∧ ga < w0.heap.size ∧ L ≤ gb2 ∧ gb2 < w0.heap.size ∧ L ≤ gc ∧ gc < w0.heap.size) (hcap : (Cnt w0 ga gb2 gc (cnt (fun s => s == 0) []) (cnt (fun s => s == 1) []) (cnt (fun s => !(s == 0 || s == 1)) []))) (hg : Good s n0) (hn0 : n0 ≤ 800000000) (h8 : Bytes8 s.X) (hNA : (NA : Int) = a) (hNB : (NB : Int) = b) (hR : Hid (walkF a b c NB fs (NA * NB) 0 s [] = R)) :
    Calls Try.prog 37 #[.pointer (some ⟨m, 0, none⟩), .func (.func 40) #[] #[.pointer (some ⟨ga, 0, none⟩), .pointer (some ⟨gb2, 0, none⟩), .pointer (some ⟨gc, 0, none⟩)]] w0 fun e' w' => countE w0 n0 m gx gb Af nf cf a b c d e fs L NA NB ga gb2 gc R e' w' := by
  obtain ⟨hm, g3, g4, g1, g2, g6⟩ := hC.geo
  have hB0 : 0 < NB := by omega
  have hB8 : NB ≤ 8 := by omega
  have hA20 : NA ≤ 20 := by omega
  have hA0 : 0 < NA := by omega
  have hAB2 : NA * NB ≤ 160 := Nat.mul_le_mul hA20 hB8
  have hAB0 : 0 < NA * NB := Nat.mul_pos hA0 hB0
  have HM := Lib.hid hm
  have hlow := hC.low
  have HLAB := Lib.hid (And.intro hNA hNB)
  clear hm
  have HBW : Below w0.heap.size w0 ((w0.alloc (.cells #[.int .i64 0, .int .i64 0] 27)).alloc (.cells #[.slice none 0 0, .int .i64 0, .int .i64 0, .int .i64 0, .int .i64 0, .int .i64 0] 83)) := ((Below.refl _ _).alloc (Nat.le_refl _) _).alloc (by simp) _
  have HP3 : Blk ((w0.alloc (.cells #[.int .i64 0, .int .i64 0] 27)).alloc (.cells #[.slice none 0 0, .int .i64 0, .int .i64 0, .int .i64 0, .int .i64 0, .int .i64 0] 83)) w0.heap.size 27 #[.int .i64 0, .int .i64 0] := (Blk.new_ w0 _ _).alloc_ _
  have HP4 : Blk ((w0.alloc (.cells #[.int .i64 0, .int .i64 0] 27)).alloc (.cells #[.slice none 0 0, .int .i64 0, .int .i64 0, .int .i64 0, .int .i64 0, .int .i64 0] 83)) (w0.heap.size + 1) 83 #[.slice none 0 0, .int .i64 0, .int .i64 0, .int .i64 0, .int .i64 0, .int .i64 0] := blk_new (by simp)
  go_enter Try.func37, Try.ntmps37
  go_wp2
  refine wp_scope_many (countJ w0 n0 m gx gb Af nf cf a b c d e fs L NA NB ga gb2 gc R) ?_ ?_
  · intro l N a' wr hJ hcut
    have HC := Lib.hid hcut
    clear hcut
    rcases hJ with ⟨rfl, hJ⟩ | ⟨rfl, hJ⟩
    · obtain ⟨i, S, acc, x, y, u, rfl, hE, hW, hN⟩ := hJ
      refine ⟨_, (by simp only [findLabel, Nat.reduceBEq, if_true, if_false, Bool.false_eq_true]; rfl), ?_⟩
      have hi := hE.lt
      have z0 := hE.pl.cell_ 0
      have z1 := hE.pl.cell_ 1
      simp at z0 z1
      obtain ⟨v0, v1, v2, v3, v4, v5, hpg⟩ := hE.pg
      have hstep : NA * NB - i = (NA * NB - (i + 1)) + 1 := by omega
      have HST := Lib.hid hstep
      clear hstep
      rcases (by cases hq : badB fs x <;> simp : badB fs x = true ∨ badB fs x = false) with hb | hb
      · have HBD := Lib.hid hb
        have HW0 : Hid (walkF a b c NB fs (NA * NB - (i + 1)) (i + 1) S acc = R) := Lib.hid (by have h := hW.out; rw [HST.out, walkF_bad (by rw [← hE.px]; exact hb)] at h; exact h)
        clear hb
        go_wp2_with (go_at_call 22; go_loud (((with_reducible refine (bad_v0 m gx gb Af nf cf a b c d e fs _ _ _ S hE.chip.chip HBD).mono ?_); rintro e' wB ⟨rfl, hbB⟩; have hplB := hE.pl.below hbB hE.pl.lt; have zb0 := hplB.cell_ 0; have zb1 := hplB.cell_ 1; simp at zb0 zb1)))
        go_step3
        exact (show ∃ m', m' < N ∧ countJ w0 n0 m gx gb Af nf cf a b c d e fs L NA NB ga gb2 gc R 0 m' _ _ from ⟨2 * (NA * NB - i), by omega, Or.inr ⟨rfl, countJ0.mk ⟨⟨hE.chip.below_ hbB, hE.pl.below hbB hE.pl.lt, ⟨_, _, _, _, _, _, hpg.below hbB hpg.lt⟩, Cnt.tch hE.cap (Tch.of_below (S := fun _ => False) hbB) (fun g hg hS => hS), Nat.le_succ_of_le hE.alen, hE.tch.then hbB, hE.good.mono (by omega), hE.by8, hE.lt, hE.px, hE.py⟩, HW0, Nat.le_refl _⟩⟩⟩)
      have HBD := Lib.hid hb
      obtain ⟨Z, hz⟩ : ∃ Z, S.readZ a b x y = Z := ⟨_, rfl⟩
      obtain ⟨S1, hs1⟩ : ∃ S1, S.readS a b x y = S1 := ⟨_, rfl⟩
      have HG1 : Hid (Good S1 (n0 + 3 + 3 * (i : Int))) := Lib.hid (by rw [← hs1]; exact (hE.good.read a b x y).mono (by omega))
      have HB1 : Hid (Bytes8 S1.X) := Lib.hid (by rw [← hs1, readS_X]; exact hE.by8)
      have hsz : w0.heap.size ≤ wr.heap.size := hE.tch.size
      by_cases hne : Z = 0
      · subst hne
        obtain ⟨bs, hbs⟩ : ∃ bs, S.readB a b c x y = bs := ⟨_, rfl⟩
        have H8B : Bytes8 bs := by rw [← hbs]; exact readB_8 hE.by8 a b c x y
        have HLB : bs.length ≤ 1000000 := by rw [← hbs]; exact readB_le S a b c x y g6
        have HZ := Lib.hid (And.intro hz (And.intro hbs hs1))
        obtain ⟨Dq, nq, Kq, Pq, Sq, Eq, stq, hlk⟩ := Lk.ex bs
        have HLK := Lib.hid hlk
        have HW0 : Hid (walkF a b c NB fs (NA * NB - (i + 1)) (i + 1) S1 (acc ++ [(i / NB, i % NB, bs)]) = R) := Lib.hid (by have h := hW.out; rw [HST.out, walkF_ok (S1 := S1) (bs := bs) (by rw [← hE.px]; exact hb) (by rw [← hE.px, ← hE.py]; exact hz) (by rw [← hE.px, ← hE.py]; exact hs1) (by rw [← hE.px, ← hE.py]; exact hbs)] at h; exact h)
        have HLI : Hid (cnt (fun s => s == 0) (acc ++ [(i / NB, i % NB, bs)]) = (if stq = 0 then cnt (fun s => s == 0) acc + 1 else cnt (fun s => s == 0) acc) ∧ cnt (fun s => s == 1) (acc ++ [(i / NB, i % NB, bs)]) = (if stq = 1 then cnt (fun s => s == 1) acc + 1 else cnt (fun s => s == 1) acc) ∧ cnt (fun s => !(s == 0 || s == 1)) (acc ++ [(i / NB, i % NB, bs)]) = (if stq = 0 ∨ stq = 1 then cnt (fun s => !(s == 0 || s == 1)) acc else cnt (fun s => !(s == 0 || s == 1)) acc + 1)) := Lib.hid (by
          rw [cnt_snoc, cnt_snoc, cnt_snoc]
          dsimp only
          rw [HLK.out.st]
          refine ⟨by simp, by simp, ?_⟩
          by_cases h0 : stq = 0
          · simp [h0]
          · by_cases h1 : stq = 1
            · simp [h1]
            · simp [h0, h1])
        clear hb hz hs1 hbs hlk
        go_upto_region 9 with (first | (go_at_call 22; go_loud (((with_reducible refine (bad_v0 m gx gb Af nf cf a b c d e fs _ _ _ S hE.chip.chip HBD).mono ?_); rintro e' wB ⟨rfl, hbB⟩; have hplB := hE.pl.below hbB hE.pl.lt; have zb0 := hplB.cell_ 0; have zb1 := hplB.cell_ 1; simp at zb0 zb1))) | (go_at_call 34; go_loud (((with_reducible refine (look_yes m gx gb Af nf cf a b c d e fs x y (n0 + 3 * (i : Int)) _ S (hE.chip.below_ hbB).chip hE.good.fine (by omega) Dq nq Kq Pq Sq Eq stq S1 bs H8B HLB HZ HLK).mono ?_); rintro e' wL ⟨⟨Aq, cq, rfl, hoq⟩, hCW, hTL⟩; have hCL := (hE.chip.below_ hbB).next hCW; have hG4 := (hpg.below hbB hpg.lt).ch hTL hlow (by omega); have hG3 := (hE.pl.below hbB hE.pl.lt).ch hTL hlow (by omega); have hCP := Cnt.tch (Cnt.tch hE.cap (Tch.of_below (S := fun _ => False) hbB) (fun g hg hS => hS)) hTL (fun g hg hS => by have := hlow g hS; rcases hg with rfl | rfl | rfl <;> omega); have hTT := (hE.tch.then hbB).trans (hTL.mono (S' := (fun g => chB m gx gb g ∨ cB ga gb2 gc g ∨ w0.heap.size ≤ g)) (fun g hg => Or.inl hg)); obtain ⟨y0, y1, y2, y3, y4, y5⟩ := cells6 hG4; have y9 := hG4.free))))
        obtain ⟨wz, hwz⟩ : ∃ V : World, V = st6 wL (w0.heap.size + 1) (.slice Aq nq cq) (.int .i64 (Kq : Nat)) (.int .i64 (Pq : Nat)) (.int .i64 (Sq : Nat)) (.int .i64 (Eq : Nat)) (.int .i64 (stq : Nat)) := ⟨_, rfl⟩
        have HZ4 := st6_blk hG4 (.slice Aq nq cq) (.int .i64 (Kq : Nat)) (.int .i64 (Pq : Nat)) (.int .i64 (Sq : Nat)) (.int .i64 (Eq : Nat)) (.int .i64 (stq : Nat))
        have TZ := st6_tch wL (w0.heap.size + 1) (.slice Aq nq cq) (.int .i64 (Kq : Nat)) (.int .i64 (Pq : Nat)) (.int .i64 (Sq : Nat)) (.int .i64 (Eq : Nat)) (.int .i64 (stq : Nat))
        rw [← hwz] at HZ4 TZ
        unfold st6 at hwz
        rw [← hwz]
        clear hwz y0 y1 y2 y3 y4 y5 y9
        have hCZ := hCL.far TZ (fun g hg => by subst hg; omega)
        have hG3Z := TZ.blk hG3 (by omega)
        have hCPZ := Cnt.tch hCP TZ (fun g hg hS => by subst hS; rcases hg with hg | hg | hg <;> omega)
        have hTZ := hTT.trans (TZ.mono (S' := (fun g => chB m gx gb g ∨ cB ga gb2 gc g ∨ w0.heap.size ≤ g)) (fun g hg => by subst hg; exact Or.inr (Or.inr (Nat.le_succ _))))
        have x0 := hG3Z.cell_ 0
        have x1 := hG3Z.cell_ 1
        simp at x0 x1
        obtain ⟨y0, y1, y2, y3, y4, y5⟩ := cells6 HZ4
        go_wp2_with (go_at_call 40; go_loud (((with_reducible refine (count1_any x y (Kq : Nat) (Pq : Nat) (Sq : Nat) (Eq : Nat) stq Aq nq cq ga gb2 gc _ _ _ _ hCPZ (by have := cnt_len (fun s => s == 0) acc; have := hE.alen; omega) (by have := cnt_len (fun s => s == 1) acc; have := hE.alen; omega) (by have := cnt_len (fun s => !(s == 0 || s == 1)) acc; have := hE.alen; omega)).mono ?_); rintro e' wS ⟨rfl, hCS, hTS⟩; have hcn := hlow)))
        rename_i K hK
        go_step3
        show K _ _
        refine hK _ _ ?_
        exact HC.out 0 _ _ _ (show 2 * (NA * NB - i) < N by omega) (Or.inr ⟨rfl, countJ0.mk ⟨⟨hCZ.far hTS (fun g hg => by rcases hg with hg | hg | hg <;> omega), hTS.blk hG3Z (fun hg => by rcases hg with hg | hg | hg <;> omega), ⟨_, _, _, _, _, _, hTS.blk HZ4 (fun hg => by rcases hg with hg | hg | hg <;> omega)⟩, (by rw [HLI.out.1, HLI.out.2.1, HLI.out.2.2]; exact hCS), by rw [List.length_append]; have := hE.alen; simp; omega, hTZ.trans (hTS.mono (S' := (fun g => chB m gx gb g ∨ cB ga gb2 gc g ∨ w0.heap.size ≤ g)) (fun g hg => Or.inr (Or.inl hg))), HG1.out, HB1.out, hE.lt, hE.px, hE.py⟩, HW0, Nat.le_refl _⟩⟩) _ (by kernel_rfl)
      · have HZ := Lib.hid (And.intro (And.intro hz (And.intro trivial hs1)) hne)
        have HRE : Hid (R = (Z, acc, S1)) := Lib.hid (by have h := hW.out; rw [HST.out, walkF_err (S1 := S1) (Z := Z) (by rw [← hE.px]; exact hb) (by rw [← hE.px, ← hE.py]; exact hz) hne (by rw [← hE.px, ← hE.py]; exact hs1)] at h; exact h.symm)
        have hz1 : (Z == 0) = false := by simpa using hne
        have hz2 : (Z != 0) = true := by simpa using hne
        have hal := hE.alen
        clear hb hz hs1 hne
        go_upto_region 9 with (first | (go_at_call 22; go_loud (((with_reducible refine (bad_v0 m gx gb Af nf cf a b c d e fs _ _ _ S hE.chip.chip HBD).mono ?_); rintro e' wB ⟨rfl, hbB⟩; have hplB := hE.pl.below hbB hE.pl.lt; have zb0 := hplB.cell_ 0; have zb1 := hplB.cell_ 1; simp at zb0 zb1))) | (go_at_call 34; go_loud (((with_reducible refine (look_no m gx gb Af nf cf a b c d e fs x y (n0 + 3 * (i : Int)) _ S (hE.chip.below_ hbB).chip hE.good.fine (by omega) Z S1 (Lib.hid HZ.out.1) HZ.out.2).mono ?_); rintro e' wL ⟨rfl, hCW, hTL⟩; have hCL := (hE.chip.below_ hbB).next hCW; have hG4 := (hpg.below hbB hpg.lt).ch hTL hlow (by omega); have hG3 := (hE.pl.below hbB hE.pl.lt).ch hTL hlow (by omega); have hCP := Cnt.tch (Cnt.tch hE.cap (Tch.of_below (S := fun _ => False) hbB) (fun g hg hS => hS)) hTL (fun g hg hS => by have := hlow g hS; rcases hg with rfl | rfl | rfl <;> omega); have hTT := (hE.tch.then hbB).trans (hTL.mono (S' := (fun g => chB m gx gb g ∨ cB ga gb2 gc g ∨ w0.heap.size ≤ g)) (fun g hg => Or.inl hg)); obtain ⟨y0, y1, y2, y3, y4, y5⟩ := cells6 hG4; have y9 := hG4.free))))
        obtain ⟨wz, hwz⟩ : ∃ V : World, V = st6 wL (w0.heap.size + 1) (.slice none 0 0) (.int .i64 0) (.int .i64 0) (.int .i64 0) (.int .i64 0) (.int .i64 0) := ⟨_, rfl⟩
        have HZ4 := st6_blk hG4 (.slice none 0 0) (.int .i64 0) (.int .i64 0) (.int .i64 0) (.int .i64 0) (.int .i64 0)
        have TZ := st6_tch wL (w0.heap.size + 1) (.slice none 0 0) (.int .i64 0) (.int .i64 0) (.int .i64 0) (.int .i64 0) (.int .i64 0)
        rw [← hwz] at HZ4 TZ
        unfold st6 at hwz
        rw [← hwz]
        clear hwz y0 y1 y2 y3 y4 y5 y9
        have hCZ := hCL.far TZ (fun g hg => by subst hg; omega)
        have hG3Z := TZ.blk hG3 (by omega)
        have hCPZ := Cnt.tch hCP TZ (fun g hg hS => by subst hS; rcases hg with hg | hg | hg <;> omega)
        have hTZ := hTT.trans (TZ.mono (S' := (fun g => chB m gx gb g ∨ cB ga gb2 gc g ∨ w0.heap.size ≤ g)) (fun g hg => by subst hg; exact Or.inr (Or.inr (Nat.le_succ _))))
        go_wp2_with fail
        refine jumpsQ_ret ?_
        go_ret
        unfold countE
        rw [HRE.out]
        exact ⟨rfl, hCZ.chip, hCPZ, by show acc.length ≤ 160; omega, hTZ.monoL (fun g hg h => by rcases h with h | h | h; exact Or.inl h; exact Or.inr h; omega), HG1.out.mono (by omega), HB1.out⟩
    · obtain ⟨i, S, acc, x, y, u, rfl, hE, hW, hN⟩ := hJ
      refine ⟨_, (by simp only [findLabel, Nat.reduceBEq, if_true, if_false, Bool.false_eq_true]; rfl), ?_⟩
      have hi := hE.lt
      have z0 := hE.pl.cell_ 0
      have z1 := hE.pl.cell_ 1
      simp at z0 z1
      obtain ⟨v0, v1, v2, v3, v4, v5, hpg⟩ := hE.pg
      have hnx : ∀ (X Y : Int) (T : Bool), Hid (X = (if i + 1 < NA * NB then (((i + 1) / NB : Nat) : Int) else 0) ∧ Y = (if i + 1 < NA * NB then (((i + 1) % NB : Nat) : Int) else 0) ∧ T = decide (i + 1 < NA * NB)) → ∀ w : World, Calls Try.prog 66 #[.agg #[.int .i64 a, .int .i64 b, .int .i64 c, .int .i64 d, .int .i64 e], .agg #[.int .i64 x, .int .i64 y]] w fun e' w' => e' = .returned (.tuple #[.agg #[.int .i64 X, .int .i64 Y], .bool T]) ∧ Below w.heap.size w w' := fun X Y T hX w => by
        rw [hE.px, hE.py]
        exact next_at a b c d e NA NB i w HM.out HLAB.out.1 HLAB.out.2 hB0 hi X Y T hX
      by_cases hl : i + 1 < NA * NB
      · obtain ⟨X, hX⟩ : ∃ X : Int, X = (((i + 1) / NB : Nat) : Int) := ⟨_, rfl⟩
        obtain ⟨Y, hY⟩ : ∃ Y : Int, Y = (((i + 1) % NB : Nat) : Int) := ⟨_, rfl⟩
        have hcn := hnx X Y true (Lib.hid ⟨by rw [if_pos hl]; exact hX, by rw [if_pos hl]; exact hY, (decide_eq_true hl).symm⟩)
        have HXY := Lib.hid (And.intro hX hY)
        clear hnx hX hY
        have hCd : ChipW wr.drew m gx gb Af nf cf a b c d e fs S := hE.chip.chip.like
        go_upto_region 12 with fail
        refine wp_region_noPanic ?_
        refine wp_region_held_drew (S := (fun _ => True)) (by kernel_rfl) ?_ (fun hHeld => ?_)
        · exact trivial
        refine tk 0 ⟨some 29, .move (.tmp 0), 29, "leaf.go:98", #[], none⟩ ?_; try simp only [Act.put, pz1, pz2, pz3]
        refine wpAnyH_ready (rs := [1, 2]) (by kernel_rfl) (by simp) ?_
        refine (AllReadyH.cons (o := ⟨some 30, .call { callee := .value (.func 67), args := #[.tmp 29], argTypes := #[29] }, 23, "leaf.go:98", #[⟨0, .data⟩], none⟩) rfl (fun K hK => ?_) (AllReadyH.cons (o := ⟨some 31, .load 27 (.tmp 5), 27, "leaf.go:98", #[], none⟩) rfl (fun K hK => ?_) AllReadyH.nil))
        · go_simp
          (first | (go_at_call 67; go_loud (((with_reducible refine (geometry_0 m gx gb Af nf cf a b c d e fs _ S (by first | exact hE.chip.chip | exact hCd)).mono ?_); rintro e' wG ⟨rfl, hbG⟩; (try have hbG := undrew hbG); have hplG := hE.pl.below hbG hE.pl.lt; have k0 := hplG.cell_ 0; have k1 := hplG.cell_ 1; simp at k0 k1))) | (go_at_call 66; go_loud (((with_reducible refine (hcn _).mono ?_); rintro e' wX ⟨rfl, hbX⟩; have hplX := hplG.below hbX hplG.lt; have q0 := hplX.cell_ 0; have q1 := hplX.cell_ 1; simp at q0 q1; have q9 := hplX.free))))
          go_wp2_with fail
          refine hK.out _ _ ?_ (fun hNew => ?_)
          · exact trivial
          clear hK K hHeld
          have hHeld := hNew
          clear hNew
          try simp only [Act.put, pz1, pz2, pz3]
          refine wpAnyH_ready (rs := [2]) (by kernel_rfl) (by simp) ?_
          refine AllReadyH.cons (o := ⟨some 31, .load 27 (.tmp 5), 27, "leaf.go:98", #[], none⟩) rfl (fun K hK => ?_) AllReadyH.nil
          go_simp
          skip
          refine hK.out _ _ ?_ (fun hNew => ?_)
          · exact trivial
          clear hK K hHeld
          have hHeld := hNew
          clear hNew
          try simp only [Act.put, pz1, pz2, pz3]
          refine wpAnyH_ready (rs := [3]) (by kernel_rfl) (by simp) ?_
          refine AllReadyH.cons (o := ⟨some 32, .call { callee := .value (.func 66), args := #[.tmp 30, .tmp 31], argTypes := #[23, 27] }, 123, "leaf.go:98", #[⟨1, .data⟩, ⟨2, .data⟩, ⟨1, .chain⟩], none⟩) rfl (fun K hK => ?_) AllReadyH.nil
          go_simp
          (first | (go_at_call 67; go_loud (((with_reducible refine (geometry_0 m gx gb Af nf cf a b c d e fs _ S (by first | exact hE.chip.chip | exact hCd)).mono ?_); rintro e' wG ⟨rfl, hbG⟩; (try have hbG := undrew hbG); have hplG := hE.pl.below hbG hE.pl.lt; have k0 := hplG.cell_ 0; have k1 := hplG.cell_ 1; simp at k0 k1))) | (go_at_call 66; go_loud (((with_reducible refine (hcn _).mono ?_); rintro e' wX ⟨rfl, hbX⟩; have hplX := hplG.below hbX hplG.lt; have q0 := hplX.cell_ 0; have q1 := hplX.cell_ 1; simp at q0 q1; have q9 := hplX.free))))
          go_wp2_with fail
          refine hK.out _ _ ?_ (fun hNew => ?_)
          · exact trivial
          clear hK K hHeld
          have hHeld := hNew
          clear hNew
          try simp only [Act.put, pz1, pz2, pz3]
          refine tk 4 ⟨some 28, .move (.tmp 32), 123, "leaf.go:98", #[⟨3, .data⟩], none⟩ ?_; try simp only [Act.put, pz1, pz2, pz3]
          refine tk 5 ⟨some 33, .extract (.tmp 28) 0, 27, "leaf.go:98", #[⟨4, .data⟩], none⟩ ?_; try simp only [Act.put, pz1, pz2, pz3]
          refine tk 6 ⟨some 34, .extract (.tmp 28) 1, 4, "leaf.go:98", #[⟨4, .data⟩, { on := 7, ground := Ground.gcOnly Departure.lateStores }], none⟩ ?_; try simp only [Act.put, pz1, pz2, pz3]
          refine wpAnyH_ready (rs := [7]) (by kernel_rfl) (by simp) ?_
          refine AllReadyH.cons (o := ⟨none, .store 27 (.tmp 5) (.tmp 33), 0, "leaf.go:98", #[⟨5, .data⟩, ⟨3, .chain⟩, ⟨0, .phase⟩, ⟨1, .phase⟩, ⟨2, .phase⟩, ⟨3, .phase⟩, ⟨4, .phase⟩, ⟨5, .phase⟩, { on := 6, ground := Ground.textOnly Departure.lateStores }], none⟩) rfl (fun K hK => ?_) AllReadyH.nil
          go_simp
          skip
          refine hK.out _ _ ?_ (fun hNew => ?_)
          · exact trivial
          clear hK K hHeld
          have hHeld := hNew
          clear hNew
          try simp only [Act.put, pz1, pz2, pz3]
          refine tk 8 ⟨some 8, .assign (.tmp 34), 4, "leaf.go:98", #[⟨6, .data⟩, ⟨7, .chain⟩, ⟨0, .phase⟩, ⟨1, .phase⟩, ⟨2, .phase⟩, ⟨3, .phase⟩, ⟨4, .phase⟩, ⟨5, .phase⟩, ⟨6, .phase⟩, ⟨7, .phase⟩], none⟩ ?_; try simp only [Act.put, pz1, pz2, pz3]
          refine wpAnyH_done (by kernel_rfl) ?_ _
          refine NoPanic.normal ?_
          clear hHeld
          go_wp2_with fail
          obtain ⟨wz, hwz⟩ : ∃ V : World, V = (wX.setCell ⟨w0.heap.size, 0, none⟩ (.int .i64 X)).setCell ⟨w0.heap.size, 1, none⟩ (.int .i64 Y) := ⟨_, rfl⟩
          have HZ3 : Blk ((wX.setCell ⟨w0.heap.size, 0, none⟩ (.int .i64 X)).setCell ⟨w0.heap.size, 1, none⟩ (.int .i64 Y)) w0.heap.size 27 #[.int .i64 X, .int .i64 Y] := (hplX.set_ 0 (.int .i64 X)).set_ 1 (.int .i64 Y)
          have TZ := (Tch.setm wX w0.heap.size 0 (.int .i64 X)).trans (Tch.setm _ w0.heap.size 1 (.int .i64 Y))
          rw [← hwz] at HZ3 TZ
          rw [← hwz]
          clear hwz
          have hCX := ((hE.chip.below_ hbG).below_ hbX).far TZ (fun g hg => by subst hg; omega)
          have hG4X := TZ.blk ((hpg.below hbG hpg.lt).below hbX (hpg.below hbG hpg.lt).lt) (by omega)
          have hCPX := Cnt.tch (Cnt.tch (Cnt.tch hE.cap (Tch.of_below (S := fun _ => False) hbG) (fun g hg hS => hS)) (Tch.of_below (S := fun _ => False) hbX) (fun g hg hS => hS)) TZ (fun g hg hS => by subst hS; rcases hg with hg | hg | hg <;> omega)
          have hTX := ((hE.tch.then hbG).then hbX).trans (TZ.mono (S' := (fun g => chB m gx gb g ∨ cB ga gb2 gc g ∨ w0.heap.size ≤ g)) (fun g hg => by subst hg; exact Or.inr (Or.inr (Nat.le_refl _))))
          go_step3
          exact (show ∃ m', m' < N ∧ countJ w0 n0 m gx gb Af nf cf a b c d e fs L NA NB ga gb2 gc R 1 m' _ _ from ⟨2 * (NA * NB - (i + 1)) + 1, by omega, Or.inl ⟨rfl, countJ1.mk ⟨⟨hCX, HZ3, ⟨_, _, _, _, _, _, hG4X⟩, hCPX, hE.alen, hTX, hE.good.mono (by omega), hE.by8, hl, HXY.out.1, HXY.out.2⟩, hW, Nat.le_refl _⟩⟩⟩)
        · go_simp
          skip
          refine hK.out _ _ ?_ (fun hNew => ?_)
          · exact trivial
          clear hK K hHeld
          have hHeld := hNew
          clear hNew
          try simp only [Act.put, pz1, pz2, pz3]
          refine wpAnyH_ready (rs := [1]) (by kernel_rfl) (by simp) ?_
          refine AllReadyH.cons (o := ⟨some 30, .call { callee := .value (.func 67), args := #[.tmp 29], argTypes := #[29] }, 23, "leaf.go:98", #[⟨0, .data⟩], none⟩) rfl (fun K hK => ?_) AllReadyH.nil
          go_simp
          (first | (go_at_call 67; go_loud (((with_reducible refine (geometry_0 m gx gb Af nf cf a b c d e fs _ S (by first | exact hE.chip.chip | exact hCd)).mono ?_); rintro e' wG ⟨rfl, hbG⟩; (try have hbG := undrew hbG); have hplG := hE.pl.below hbG hE.pl.lt; have k0 := hplG.cell_ 0; have k1 := hplG.cell_ 1; simp at k0 k1))) | (go_at_call 66; go_loud (((with_reducible refine (hcn _).mono ?_); rintro e' wX ⟨rfl, hbX⟩; have hplX := hplG.below hbX hplG.lt; have q0 := hplX.cell_ 0; have q1 := hplX.cell_ 1; simp at q0 q1; have q9 := hplX.free))))
          go_wp2_with fail
          refine hK.out _ _ ?_ (fun hNew => ?_)
          · exact trivial
          clear hK K hHeld
          have hHeld := hNew
          clear hNew
          try simp only [Act.put, pz1, pz2, pz3]
          refine wpAnyH_ready (rs := [3]) (by kernel_rfl) (by simp) ?_
          refine AllReadyH.cons (o := ⟨some 32, .call { callee := .value (.func 66), args := #[.tmp 30, .tmp 31], argTypes := #[23, 27] }, 123, "leaf.go:98", #[⟨1, .data⟩, ⟨2, .data⟩, ⟨1, .chain⟩], none⟩) rfl (fun K hK => ?_) AllReadyH.nil
          go_simp
          (first | (go_at_call 67; go_loud (((with_reducible refine (geometry_0 m gx gb Af nf cf a b c d e fs _ S (by first | exact hE.chip.chip | exact hCd)).mono ?_); rintro e' wG ⟨rfl, hbG⟩; (try have hbG := undrew hbG); have hplG := hE.pl.below hbG hE.pl.lt; have k0 := hplG.cell_ 0; have k1 := hplG.cell_ 1; simp at k0 k1))) | (go_at_call 66; go_loud (((with_reducible refine (hcn _).mono ?_); rintro e' wX ⟨rfl, hbX⟩; have hplX := hplG.below hbX hplG.lt; have q0 := hplX.cell_ 0; have q1 := hplX.cell_ 1; simp at q0 q1; have q9 := hplX.free))))
          go_wp2_with fail
          refine hK.out _ _ ?_ (fun hNew => ?_)
          · exact trivial
          clear hK K hHeld
          have hHeld := hNew
          clear hNew
          try simp only [Act.put, pz1, pz2, pz3]
          refine tk 4 ⟨some 28, .move (.tmp 32), 123, "leaf.go:98", #[⟨3, .data⟩], none⟩ ?_; try simp only [Act.put, pz1, pz2, pz3]
          refine tk 5 ⟨some 33, .extract (.tmp 28) 0, 27, "leaf.go:98", #[⟨4, .data⟩], none⟩ ?_; try simp only [Act.put, pz1, pz2, pz3]
          refine tk 6 ⟨some 34, .extract (.tmp 28) 1, 4, "leaf.go:98", #[⟨4, .data⟩, { on := 7, ground := Ground.gcOnly Departure.lateStores }], none⟩ ?_; try simp only [Act.put, pz1, pz2, pz3]
          refine wpAnyH_ready (rs := [7]) (by kernel_rfl) (by simp) ?_
          refine AllReadyH.cons (o := ⟨none, .store 27 (.tmp 5) (.tmp 33), 0, "leaf.go:98", #[⟨5, .data⟩, ⟨3, .chain⟩, ⟨0, .phase⟩, ⟨1, .phase⟩, ⟨2, .phase⟩, ⟨3, .phase⟩, ⟨4, .phase⟩, ⟨5, .phase⟩, { on := 6, ground := Ground.textOnly Departure.lateStores }], none⟩) rfl (fun K hK => ?_) AllReadyH.nil
          go_simp
          skip
          refine hK.out _ _ ?_ (fun hNew => ?_)
          · exact trivial
          clear hK K hHeld
          have hHeld := hNew
          clear hNew
          try simp only [Act.put, pz1, pz2, pz3]
          refine tk 8 ⟨some 8, .assign (.tmp 34), 4, "leaf.go:98", #[⟨6, .data⟩, ⟨7, .chain⟩, ⟨0, .phase⟩, ⟨1, .phase⟩, ⟨2, .phase⟩, ⟨3, .phase⟩, ⟨4, .phase⟩, ⟨5, .phase⟩, ⟨6, .phase⟩, ⟨7, .phase⟩], none⟩ ?_; try simp only [Act.put, pz1, pz2, pz3]
          refine wpAnyH_done (by kernel_rfl) ?_ _
          refine NoPanic.normal ?_
          clear hHeld
          go_wp2_with fail
          obtain ⟨wz, hwz⟩ : ∃ V : World, V = (wX.setCell ⟨w0.heap.size, 0, none⟩ (.int .i64 X)).setCell ⟨w0.heap.size, 1, none⟩ (.int .i64 Y) := ⟨_, rfl⟩
          have HZ3 : Blk ((wX.setCell ⟨w0.heap.size, 0, none⟩ (.int .i64 X)).setCell ⟨w0.heap.size, 1, none⟩ (.int .i64 Y)) w0.heap.size 27 #[.int .i64 X, .int .i64 Y] := (hplX.set_ 0 (.int .i64 X)).set_ 1 (.int .i64 Y)
          have TZ := (Tch.setm wX w0.heap.size 0 (.int .i64 X)).trans (Tch.setm _ w0.heap.size 1 (.int .i64 Y))
          rw [← hwz] at HZ3 TZ
          rw [← hwz]
          clear hwz
          have hCX := ((hE.chip.below_ hbG).below_ hbX).far TZ (fun g hg => by subst hg; omega)
          have hG4X := TZ.blk ((hpg.below hbG hpg.lt).below hbX (hpg.below hbG hpg.lt).lt) (by omega)
          have hCPX := Cnt.tch (Cnt.tch (Cnt.tch hE.cap (Tch.of_below (S := fun _ => False) hbG) (fun g hg hS => hS)) (Tch.of_below (S := fun _ => False) hbX) (fun g hg hS => hS)) TZ (fun g hg hS => by subst hS; rcases hg with hg | hg | hg <;> omega)
          have hTX := ((hE.tch.then hbG).then hbX).trans (TZ.mono (S' := (fun g => chB m gx gb g ∨ cB ga gb2 gc g ∨ w0.heap.size ≤ g)) (fun g hg => by subst hg; exact Or.inr (Or.inr (Nat.le_refl _))))
          go_step3
          exact (show ∃ m', m' < N ∧ countJ w0 n0 m gx gb Af nf cf a b c d e fs L NA NB ga gb2 gc R 1 m' _ _ from ⟨2 * (NA * NB - (i + 1)) + 1, by omega, Or.inl ⟨rfl, countJ1.mk ⟨⟨hCX, HZ3, ⟨_, _, _, _, _, _, hG4X⟩, hCPX, hE.alen, hTX, hE.good.mono (by omega), hE.by8, hl, HXY.out.1, HXY.out.2⟩, hW, Nat.le_refl _⟩⟩⟩)
      · have hcn := hnx 0 0 false (Lib.hid ⟨by rw [if_neg hl], by rw [if_neg hl], (decide_eq_false hl).symm⟩)
        have HRE : Hid (R = (0, acc, S)) := Lib.hid (by have h := hW.out; rw [show NA * NB - (i + 1) = 0 by omega] at h; exact h.symm)
        have hal := hE.alen
        have hCd : ChipW wr.drew m gx gb Af nf cf a b c d e fs S := hE.chip.chip.like
        clear hnx
        go_upto_region 12 with fail
        refine wp_region_noPanic ?_
        refine wp_region_held_drew (S := (fun _ => True)) (by kernel_rfl) ?_ (fun hHeld => ?_)
        · exact trivial
        refine tk 0 ⟨some 29, .move (.tmp 0), 29, "leaf.go:98", #[], none⟩ ?_; try simp only [Act.put, pz1, pz2, pz3]
        refine wpAnyH_ready (rs := [1, 2]) (by kernel_rfl) (by simp) ?_
        refine (AllReadyH.cons (o := ⟨some 30, .call { callee := .value (.func 67), args := #[.tmp 29], argTypes := #[29] }, 23, "leaf.go:98", #[⟨0, .data⟩], none⟩) rfl (fun K hK => ?_) (AllReadyH.cons (o := ⟨some 31, .load 27 (.tmp 5), 27, "leaf.go:98", #[], none⟩) rfl (fun K hK => ?_) AllReadyH.nil))
        · go_simp
          (first | (go_at_call 67; go_loud (((with_reducible refine (geometry_0 m gx gb Af nf cf a b c d e fs _ S (by first | exact hE.chip.chip | exact hCd)).mono ?_); rintro e' wG ⟨rfl, hbG⟩; (try have hbG := undrew hbG); have hplG := hE.pl.below hbG hE.pl.lt; have k0 := hplG.cell_ 0; have k1 := hplG.cell_ 1; simp at k0 k1))) | (go_at_call 66; go_loud (((with_reducible refine (hcn _).mono ?_); rintro e' wX ⟨rfl, hbX⟩; have hplX := hplG.below hbX hplG.lt; have q0 := hplX.cell_ 0; have q1 := hplX.cell_ 1; simp at q0 q1; have q9 := hplX.free))))
          go_wp2_with fail
          refine hK.out _ _ ?_ (fun hNew => ?_)
          · exact trivial
          clear hK K hHeld
          have hHeld := hNew
          clear hNew
          try simp only [Act.put, pz1, pz2, pz3]
          refine wpAnyH_ready (rs := [2]) (by kernel_rfl) (by simp) ?_
          refine AllReadyH.cons (o := ⟨some 31, .load 27 (.tmp 5), 27, "leaf.go:98", #[], none⟩) rfl (fun K hK => ?_) AllReadyH.nil
          go_simp
          skip
          refine hK.out _ _ ?_ (fun hNew => ?_)
          · exact trivial
          clear hK K hHeld
          have hHeld := hNew
          clear hNew
          try simp only [Act.put, pz1, pz2, pz3]
          refine wpAnyH_ready (rs := [3]) (by kernel_rfl) (by simp) ?_
          refine AllReadyH.cons (o := ⟨some 32, .call { callee := .value (.func 66), args := #[.tmp 30, .tmp 31], argTypes := #[23, 27] }, 123, "leaf.go:98", #[⟨1, .data⟩, ⟨2, .data⟩, ⟨1, .chain⟩], none⟩) rfl (fun K hK => ?_) AllReadyH.nil
          go_simp
          (first | (go_at_call 67; go_loud (((with_reducible refine (geometry_0 m gx gb Af nf cf a b c d e fs _ S (by first | exact hE.chip.chip | exact hCd)).mono ?_); rintro e' wG ⟨rfl, hbG⟩; (try have hbG := undrew hbG); have hplG := hE.pl.below hbG hE.pl.lt; have k0 := hplG.cell_ 0; have k1 := hplG.cell_ 1; simp at k0 k1))) | (go_at_call 66; go_loud (((with_reducible refine (hcn _).mono ?_); rintro e' wX ⟨rfl, hbX⟩; have hplX := hplG.below hbX hplG.lt; have q0 := hplX.cell_ 0; have q1 := hplX.cell_ 1; simp at q0 q1; have q9 := hplX.free))))
          go_wp2_with fail
          refine hK.out _ _ ?_ (fun hNew => ?_)
          · exact trivial
          clear hK K hHeld
          have hHeld := hNew
          clear hNew
          try simp only [Act.put, pz1, pz2, pz3]
          refine tk 4 ⟨some 28, .move (.tmp 32), 123, "leaf.go:98", #[⟨3, .data⟩], none⟩ ?_; try simp only [Act.put, pz1, pz2, pz3]
          refine tk 5 ⟨some 33, .extract (.tmp 28) 0, 27, "leaf.go:98", #[⟨4, .data⟩], none⟩ ?_; try simp only [Act.put, pz1, pz2, pz3]
          refine tk 6 ⟨some 34, .extract (.tmp 28) 1, 4, "leaf.go:98", #[⟨4, .data⟩, { on := 7, ground := Ground.gcOnly Departure.lateStores }], none⟩ ?_; try simp only [Act.put, pz1, pz2, pz3]
          refine wpAnyH_ready (rs := [7]) (by kernel_rfl) (by simp) ?_
          refine AllReadyH.cons (o := ⟨none, .store 27 (.tmp 5) (.tmp 33), 0, "leaf.go:98", #[⟨5, .data⟩, ⟨3, .chain⟩, ⟨0, .phase⟩, ⟨1, .phase⟩, ⟨2, .phase⟩, ⟨3, .phase⟩, ⟨4, .phase⟩, ⟨5, .phase⟩, { on := 6, ground := Ground.textOnly Departure.lateStores }], none⟩) rfl (fun K hK => ?_) AllReadyH.nil
          go_simp
          skip
          refine hK.out _ _ ?_ (fun hNew => ?_)
          · exact trivial
          clear hK K hHeld
          have hHeld := hNew
          clear hNew
          try simp only [Act.put, pz1, pz2, pz3]
          refine tk 8 ⟨some 8, .assign (.tmp 34), 4, "leaf.go:98", #[⟨6, .data⟩, ⟨7, .chain⟩, ⟨0, .phase⟩, ⟨1, .phase⟩, ⟨2, .phase⟩, ⟨3, .phase⟩, ⟨4, .phase⟩, ⟨5, .phase⟩, ⟨6, .phase⟩, ⟨7, .phase⟩], none⟩ ?_; try simp only [Act.put, pz1, pz2, pz3]
          refine wpAnyH_done (by kernel_rfl) ?_ _
          refine NoPanic.normal ?_
          clear hHeld
          go_wp2_with fail
          obtain ⟨wz, hwz⟩ : ∃ V : World, V = (wX.setCell ⟨w0.heap.size, 0, none⟩ (.int .i64 0)).setCell ⟨w0.heap.size, 1, none⟩ (.int .i64 0) := ⟨_, rfl⟩
          have HZ3 : Blk ((wX.setCell ⟨w0.heap.size, 0, none⟩ (.int .i64 0)).setCell ⟨w0.heap.size, 1, none⟩ (.int .i64 0)) w0.heap.size 27 #[.int .i64 0, .int .i64 0] := (hplX.set_ 0 (.int .i64 0)).set_ 1 (.int .i64 0)
          have TZ := (Tch.setm wX w0.heap.size 0 (.int .i64 0)).trans (Tch.setm _ w0.heap.size 1 (.int .i64 0))
          rw [← hwz] at HZ3 TZ
          rw [← hwz]
          clear hwz
          have hCX := ((hE.chip.below_ hbG).below_ hbX).far TZ (fun g hg => by subst hg; omega)
          have hG4X := TZ.blk ((hpg.below hbG hpg.lt).below hbX (hpg.below hbG hpg.lt).lt) (by omega)
          have hCPX := Cnt.tch (Cnt.tch (Cnt.tch hE.cap (Tch.of_below (S := fun _ => False) hbG) (fun g hg hS => hS)) (Tch.of_below (S := fun _ => False) hbX) (fun g hg hS => hS)) TZ (fun g hg hS => by subst hS; rcases hg with hg | hg | hg <;> omega)
          have hTX := ((hE.tch.then hbG).then hbX).trans (TZ.mono (S' := (fun g => chB m gx gb g ∨ cB ga gb2 gc g ∨ w0.heap.size ≤ g)) (fun g hg => by subst hg; exact Or.inr (Or.inr (Nat.le_refl _))))
          refine jumpsQ_ret ?_
          go_ret
          unfold countE
          rw [HRE.out]
          exact ⟨rfl, hCX.chip, hCPX, by show acc.length ≤ 160; omega, hTX.monoL (fun g hg h => by rcases h with h | h | h; exact Or.inl h; exact Or.inr h; omega), hE.good.mono (by omega), hE.by8⟩
        · go_simp
          skip
          refine hK.out _ _ ?_ (fun hNew => ?_)
          · exact trivial
          clear hK K hHeld
          have hHeld := hNew
          clear hNew
          try simp only [Act.put, pz1, pz2, pz3]
          refine wpAnyH_ready (rs := [1]) (by kernel_rfl) (by simp) ?_
          refine AllReadyH.cons (o := ⟨some 30, .call { callee := .value (.func 67), args := #[.tmp 29], argTypes := #[29] }, 23, "leaf.go:98", #[⟨0, .data⟩], none⟩) rfl (fun K hK => ?_) AllReadyH.nil
          go_simp
          (first | (go_at_call 67; go_loud (((with_reducible refine (geometry_0 m gx gb Af nf cf a b c d e fs _ S (by first | exact hE.chip.chip | exact hCd)).mono ?_); rintro e' wG ⟨rfl, hbG⟩; (try have hbG := undrew hbG); have hplG := hE.pl.below hbG hE.pl.lt; have k0 := hplG.cell_ 0; have k1 := hplG.cell_ 1; simp at k0 k1))) | (go_at_call 66; go_loud (((with_reducible refine (hcn _).mono ?_); rintro e' wX ⟨rfl, hbX⟩; have hplX := hplG.below hbX hplG.lt; have q0 := hplX.cell_ 0; have q1 := hplX.cell_ 1; simp at q0 q1; have q9 := hplX.free))))
          go_wp2_with fail
          refine hK.out _ _ ?_ (fun hNew => ?_)
          · exact trivial
          clear hK K hHeld
          have hHeld := hNew
          clear hNew
          try simp only [Act.put, pz1, pz2, pz3]
          refine wpAnyH_ready (rs := [3]) (by kernel_rfl) (by simp) ?_
          refine AllReadyH.cons (o := ⟨some 32, .call { callee := .value (.func 66), args := #[.tmp 30, .tmp 31], argTypes := #[23, 27] }, 123, "leaf.go:98", #[⟨1, .data⟩, ⟨2, .data⟩, ⟨1, .chain⟩], none⟩) rfl (fun K hK => ?_) AllReadyH.nil
          go_simp
          (first | (go_at_call 67; go_loud (((with_reducible refine (geometry_0 m gx gb Af nf cf a b c d e fs _ S (by first | exact hE.chip.chip | exact hCd)).mono ?_); rintro e' wG ⟨rfl, hbG⟩; (try have hbG := undrew hbG); have hplG := hE.pl.below hbG hE.pl.lt; have k0 := hplG.cell_ 0; have k1 := hplG.cell_ 1; simp at k0 k1))) | (go_at_call 66; go_loud (((with_reducible refine (hcn _).mono ?_); rintro e' wX ⟨rfl, hbX⟩; have hplX := hplG.below hbX hplG.lt; have q0 := hplX.cell_ 0; have q1 := hplX.cell_ 1; simp at q0 q1; have q9 := hplX.free))))
          go_wp2_with fail
          refine hK.out _ _ ?_ (fun hNew => ?_)
          · exact trivial
          clear hK K hHeld
          have hHeld := hNew
          clear hNew
          try simp only [Act.put, pz1, pz2, pz3]
          refine tk 4 ⟨some 28, .move (.tmp 32), 123, "leaf.go:98", #[⟨3, .data⟩], none⟩ ?_; try simp only [Act.put, pz1, pz2, pz3]
          refine tk 5 ⟨some 33, .extract (.tmp 28) 0, 27, "leaf.go:98", #[⟨4, .data⟩], none⟩ ?_; try simp only [Act.put, pz1, pz2, pz3]
          refine tk 6 ⟨some 34, .extract (.tmp 28) 1, 4, "leaf.go:98", #[⟨4, .data⟩, { on := 7, ground := Ground.gcOnly Departure.lateStores }], none⟩ ?_; try simp only [Act.put, pz1, pz2, pz3]
          refine wpAnyH_ready (rs := [7]) (by kernel_rfl) (by simp) ?_
          refine AllReadyH.cons (o := ⟨none, .store 27 (.tmp 5) (.tmp 33), 0, "leaf.go:98", #[⟨5, .data⟩, ⟨3, .chain⟩, ⟨0, .phase⟩, ⟨1, .phase⟩, ⟨2, .phase⟩, ⟨3, .phase⟩, ⟨4, .phase⟩, ⟨5, .phase⟩, { on := 6, ground := Ground.textOnly Departure.lateStores }], none⟩) rfl (fun K hK => ?_) AllReadyH.nil
          go_simp
          skip
          refine hK.out _ _ ?_ (fun hNew => ?_)
          · exact trivial
          clear hK K hHeld
          have hHeld := hNew
          clear hNew
          try simp only [Act.put, pz1, pz2, pz3]
          refine tk 8 ⟨some 8, .assign (.tmp 34), 4, "leaf.go:98", #[⟨6, .data⟩, ⟨7, .chain⟩, ⟨0, .phase⟩, ⟨1, .phase⟩, ⟨2, .phase⟩, ⟨3, .phase⟩, ⟨4, .phase⟩, ⟨5, .phase⟩, ⟨6, .phase⟩, ⟨7, .phase⟩], none⟩ ?_; try simp only [Act.put, pz1, pz2, pz3]
          refine wpAnyH_done (by kernel_rfl) ?_ _
          refine NoPanic.normal ?_
          clear hHeld
          go_wp2_with fail
          obtain ⟨wz, hwz⟩ : ∃ V : World, V = (wX.setCell ⟨w0.heap.size, 0, none⟩ (.int .i64 0)).setCell ⟨w0.heap.size, 1, none⟩ (.int .i64 0) := ⟨_, rfl⟩
          have HZ3 : Blk ((wX.setCell ⟨w0.heap.size, 0, none⟩ (.int .i64 0)).setCell ⟨w0.heap.size, 1, none⟩ (.int .i64 0)) w0.heap.size 27 #[.int .i64 0, .int .i64 0] := (hplX.set_ 0 (.int .i64 0)).set_ 1 (.int .i64 0)
          have TZ := (Tch.setm wX w0.heap.size 0 (.int .i64 0)).trans (Tch.setm _ w0.heap.size 1 (.int .i64 0))
          rw [← hwz] at HZ3 TZ
          rw [← hwz]
          clear hwz
          have hCX := ((hE.chip.below_ hbG).below_ hbX).far TZ (fun g hg => by subst hg; omega)
          have hG4X := TZ.blk ((hpg.below hbG hpg.lt).below hbX (hpg.below hbG hpg.lt).lt) (by omega)
          have hCPX := Cnt.tch (Cnt.tch (Cnt.tch hE.cap (Tch.of_below (S := fun _ => False) hbG) (fun g hg hS => hS)) (Tch.of_below (S := fun _ => False) hbX) (fun g hg hS => hS)) TZ (fun g hg hS => by subst hS; rcases hg with hg | hg | hg <;> omega)
          have hTX := ((hE.tch.then hbG).then hbX).trans (TZ.mono (S' := (fun g => chB m gx gb g ∨ cB ga gb2 gc g ∨ w0.heap.size ≤ g)) (fun g hg => by subst hg; exact Or.inr (Or.inr (Nat.le_refl _))))
          refine jumpsQ_ret ?_
          go_ret
          unfold countE
          rw [HRE.out]
          exact ⟨rfl, hCX.chip, hCPX, by show acc.length ≤ 160; omega, hTX.monoL (fun g hg h => by rcases h with h | h | h; exact Or.inl h; exact Or.inr h; omega), hE.good.mono (by omega), hE.by8⟩
  · intro hcut
    have HC := Lib.hid hcut
    clear hcut
    go_wp2
    rename_i K hK
    go_step3
    show K _ _
    refine hK _ _ ?_
    exact HC.out 1 _ _ _ (Or.inl ⟨rfl, countJ1.mk ⟨⟨hC.below_ HBW, HP3, ⟨_, _, _, _, _, _, HP4⟩, Cnt.tch hcap (Tch.of_below (S := fun _ => False) HBW) (fun g hg hS => hS), Nat.zero_le _, Tch.of_below HBW, hg.mono (by omega), h8, hAB0, by rw [Nat.zero_div]; rfl, by rw [Nat.zero_mod]; rfl⟩, hR, Nat.le_refl _⟩⟩) _ (by kernel_rfl)
end Go.Proofs.Ytcpniplfkillbaa
namespace Go.Proofs.Ytcpniplfkillbaa
open Go.ChangeShapes Go.WideShapes Go.ChangeAt Go.RowKit
attribute [local go_sem ↓] Go.wp_at_zero Go.wp_at_succ
theorem scan_ok (m gx gb : Nat) (Af : Option Addr) (nf cf : Nat) (a b c d e : Int) (fs : List Flt) (NA NB : Nat) (n0 : Int) (acc : List Vis) (s S1 : ChS) (w : World) (hC : ChipW w m gx gb Af nf cf a b c d e fs s) (hg : Good s n0) (hn0 : n0 ≤ 800000000) (h8 : Bytes8 s.X) (hNA : (NA : Int) = a) (hNB : (NB : Int) = b) (hR : Hid (walkF a b c NB fs (NA * NB) 0 s [] = (0, acc, S1))) (n : Nat) (hn : Hid ((fdsOf acc).length = n)) :
    Calls Try.prog 16 #[.pointer (some ⟨m, 0, none⟩)] w fun e' w' => (∃ A c', e' = .returned (.tuple #[.slice A n c', .int .i64 0]) ∧ RowFd w' w.heap.size (.slice A n c') (fdsOf acc)) ∧ ChipW w' m gx gb Af nf cf a b c d e fs S1 ∧ Tch (chB m gx gb) w w' ∧ Good S1 (n0 + 1000) ∧ Bytes8 S1.X := by
  have HN := hn
  have hCN := (ChN.start hC).below_ (show Below w.heap.size w (w.alloc (.cells #[.slice none 0 0] 51)) from (Below.refl _ _).alloc (Nat.le_refl _) _)
  have hsz1 : w.heap.size ≤ (w.alloc (.cells #[.slice none 0 0] 51)).heap.size := by simp
  have hB1 : Blk (w.alloc (.cells #[.slice none 0 0] 51)) w.heap.size 51 #[.slice none 0 0] := Blk.new_ _ _ _
  have hgs : w.heap.size ≤ w.heap.size ∧ w.heap.size < (w.alloc (.cells #[.slice none 0 0] 51)).heap.size := ⟨Nat.le_refl _, hB1.lt⟩
  have hcap : Cap (w.alloc (.cells #[.slice none 0 0] 51)) w.heap.size ((w.alloc (.cells #[.slice none 0 0] 51)).heap.size + 2) (fdsOf []) := ⟨⟨_, hB1, RowFd.nil_ _ _⟩, by have := hB1.lt; omega⟩
  have hBW : Below w.heap.size w (w.alloc (.cells #[.slice none 0 0] 51)) := (Below.refl _ _).alloc (Nat.le_refl _) _
  have HNA := Lib.hid (And.intro hNA hNB)
  have hmf : ∀ (fn : Fn) (first cap : Array Value) (w : World), (Instr.makeFunc fn first cap).run Try.prog w = .ok (.func fn first cap) w := fun _ _ _ _ => rfl
  go_enter Try.func16, Try.ntmps16
  go_wp2_with (go_at_call 37; go_loud (((with_reducible refine (each_scan (w.alloc (.cells #[.slice none 0 0] 51)) n0 m gx gb Af nf cf a b c d e fs w.heap.size NA NB w.heap.size s (0, acc, S1) hCN hsz1 hgs hcap hg hn0 h8 hNA hNB hR).mono ?_); rintro e' wE hX; obtain ⟨rfl, hCE, hKE, hlE, hTE, hGE, hBE⟩ := hX; obtain ⟨⟨v, hvB, hvR⟩, -⟩ := hKE; obtain ⟨A2, c2, hv, -, -, -⟩ := hvR.sl; rw [HN.out] at hv; subst hv; have z0 := hvB.cell_ 0; simp at z0)))
  go_ret2
  refine ⟨⟨_, _, rfl, hvR.base (by simp; omega)⟩, hCE, ?_, hGE, hBE⟩
  exact ((Tch.of_below (S := fun g => chB m gx gb g ∨ g = w.heap.size) hBW).trans hTE).monoL (fun g hg h => by rcases h with h | h; exact h; omega)
theorem count_ok (m gx gb : Nat) (Af : Option Addr) (nf cf : Nat) (a b c d e : Int) (fs : List Flt) (NA NB : Nat) (n0 : Int) (acc : List Vis) (s S1 : ChS) (w : World) (hC : ChipW w m gx gb Af nf cf a b c d e fs s) (hg : Good s n0) (hn0 : n0 ≤ 800000000) (h8 : Bytes8 s.X) (hNA : (NA : Int) = a) (hNB : (NB : Int) = b) (hR : Hid (walkF a b c NB fs (NA * NB) 0 s [] = (0, acc, S1))) (p q r : Nat) (hp : Hid (cnt (fun s => s == 0) acc = p ∧ cnt (fun s => s == 1) acc = q ∧ cnt (fun s => !(s == 0 || s == 1)) acc = r)) :
    Calls Try.prog 18 #[.pointer (some ⟨m, 0, none⟩)] w fun e' w' => e' = .returned (.tuple #[.int .i64 (p : Int), .int .i64 (q : Int), .int .i64 (r : Int), .int .i64 0]) ∧ ChipW w' m gx gb Af nf cf a b c d e fs S1 ∧ Tch (chB m gx gb) w w' ∧ Good S1 (n0 + 1000) ∧ Bytes8 S1.X := by
  have HP := hp
  have hBW : Below w.heap.size w (((w.alloc (.cells #[.int .i64 0] 3)).alloc (.cells #[.int .i64 0] 3)).alloc (.cells #[.int .i64 0] 3)) := (((Below.refl _ _).alloc (Nat.le_refl _) _).alloc (by simp) _).alloc (by simp; omega) _
  have hCN := (ChN.start hC).below_ hBW
  have hsz1 : w.heap.size ≤ (((w.alloc (.cells #[.int .i64 0] 3)).alloc (.cells #[.int .i64 0] 3)).alloc (.cells #[.int .i64 0] 3)).heap.size := by simp; omega
  have hB1 : Blk (((w.alloc (.cells #[.int .i64 0] 3)).alloc (.cells #[.int .i64 0] 3)).alloc (.cells #[.int .i64 0] 3)) w.heap.size 3 #[.int .i64 0] := ((Blk.new_ w _ _).alloc_ _).alloc_ _
  have hB2 : Blk (((w.alloc (.cells #[.int .i64 0] 3)).alloc (.cells #[.int .i64 0] 3)).alloc (.cells #[.int .i64 0] 3)) (w.heap.size + 1) 3 #[.int .i64 0] := (blk_new (by simp)).alloc_ _
  have hB3 : Blk (((w.alloc (.cells #[.int .i64 0] 3)).alloc (.cells #[.int .i64 0] 3)).alloc (.cells #[.int .i64 0] 3)) (w.heap.size + 2) 3 #[.int .i64 0] := blk_new (by simp)
  have hgs : w.heap.size ≤ w.heap.size ∧ w.heap.size < (((w.alloc (.cells #[.int .i64 0] 3)).alloc (.cells #[.int .i64 0] 3)).alloc (.cells #[.int .i64 0] 3)).heap.size ∧ w.heap.size ≤ w.heap.size + 1 ∧ w.heap.size + 1 < (((w.alloc (.cells #[.int .i64 0] 3)).alloc (.cells #[.int .i64 0] 3)).alloc (.cells #[.int .i64 0] 3)).heap.size ∧ w.heap.size ≤ w.heap.size + 2 ∧ w.heap.size + 2 < (((w.alloc (.cells #[.int .i64 0] 3)).alloc (.cells #[.int .i64 0] 3)).alloc (.cells #[.int .i64 0] 3)).heap.size := ⟨Nat.le_refl _, hB1.lt, by omega, hB2.lt, by omega, hB3.lt⟩
  have hcap : Cnt (((w.alloc (.cells #[.int .i64 0] 3)).alloc (.cells #[.int .i64 0] 3)).alloc (.cells #[.int .i64 0] 3)) w.heap.size (w.heap.size + 1) (w.heap.size + 2) (cnt (fun s => s == 0) []) (cnt (fun s => s == 1) []) (cnt (fun s => !(s == 0 || s == 1)) []) := ⟨hB1, hB2, hB3, by omega, by omega, by omega⟩
  have HNA := Lib.hid (And.intro hNA hNB)
  have hmf : ∀ (fn : Fn) (first cap : Array Value) (w : World), (Instr.makeFunc fn first cap).run Try.prog w = .ok (.func fn first cap) w := fun _ _ _ _ => rfl
  go_enter Try.func18, Try.ntmps18
  go_upto_region 5 with (go_at_call 37; go_loud (((with_reducible refine (each_count (((w.alloc (.cells #[.int .i64 0] 3)).alloc (.cells #[.int .i64 0] 3)).alloc (.cells #[.int .i64 0] 3)) n0 m gx gb Af nf cf a b c d e fs w.heap.size NA NB w.heap.size (w.heap.size + 1) (w.heap.size + 2) s (0, acc, S1) hCN hsz1 hgs hcap hg hn0 h8 hNA hNB hR).mono ?_); rintro e' wE hX; obtain ⟨rfl, hCE, hKE, hlE, hTE, hGE, hBE⟩ := hX; have hK2 : Cnt wE w.heap.size (w.heap.size + 1) (w.heap.size + 2) p q r := (by have h := hKE; dsimp only at h; rw [HP.out.1, HP.out.2.1, HP.out.2.2] at h; exact h); have z0 := hK2.a.cell_ 0; have z1 := hK2.b.cell_ 0; have z2 := hK2.c.cell_ 0; simp at z0 z1 z2; clear hKE)))
  refine wp_region_noPanic ?_
  refine wp_region_held_drew (S := (fun w' => w'.cell? ⟨w.heap.size, 0, none⟩ = some (.int .i64 (p : Int)) ∧ w'.cell? ⟨w.heap.size + 1, 0, none⟩ = some (.int .i64 (q : Int)) ∧ w'.cell? ⟨w.heap.size + 2, 0, none⟩ = some (.int .i64 (r : Int)))) (by kernel_rfl) ?_ (fun hHeld => ?_)
  · (first | exact ⟨z0, z1, z2⟩ | assumption)
  refine tk 0 ⟨some 16, .load 3 (.tmp 6), 3, "leaf.go:72", #[], none⟩ ?_; try simp only [Act.put, pz1, pz2, pz3]
  refine tk 1 ⟨some 17, .load 3 (.tmp 7), 3, "leaf.go:72", #[{ on := 3, ground := Ground.gcOnly Departure.lateStores }], none⟩ ?_; try simp only [Act.put, pz1, pz2, pz3]
  refine tk 2 ⟨some 18, .load 3 (.tmp 8), 3, "leaf.go:72", #[{ on := 4, ground := Ground.gcOnly Departure.lateStores }], none⟩ ?_; try simp only [Act.put, pz1, pz2, pz3]
  refine tk 3 ⟨some 2, .assign (.tmp 16), 3, "leaf.go:72", #[⟨0, .data⟩, ⟨0, .phase⟩, { on := 1, ground := Ground.textOnly Departure.lateStores }, { on := 2, ground := Ground.textOnly Departure.lateStores }], none⟩ ?_; try simp only [Act.put, pz1, pz2, pz3]
  refine tk 4 ⟨some 3, .assign (.tmp 17), 3, "leaf.go:72", #[⟨1, .data⟩, ⟨3, .chain⟩, ⟨0, .phase⟩, ⟨1, .phase⟩, { on := 2, ground := Ground.textOnly Departure.lateStores }, ⟨3, .phase⟩], none⟩ ?_; try simp only [Act.put, pz1, pz2, pz3]
  refine tk 5 ⟨some 4, .assign (.tmp 18), 3, "leaf.go:72", #[⟨2, .data⟩, ⟨4, .chain⟩, ⟨0, .phase⟩, ⟨1, .phase⟩, ⟨2, .phase⟩, ⟨3, .phase⟩, ⟨4, .phase⟩], none⟩ ?_; try simp only [Act.put, pz1, pz2, pz3]
  refine tk 6 ⟨some 5, .assign (.const (.int .i64 0)), 33, "leaf.go:72", #[⟨5, .chain⟩, ⟨0, .phase⟩, ⟨1, .phase⟩, ⟨2, .phase⟩, ⟨3, .phase⟩, ⟨4, .phase⟩, ⟨5, .phase⟩], none⟩ ?_; try simp only [Act.put, pz1, pz2, pz3]
  refine wpAnyH_done (by kernel_rfl) ?_ _
  refine NoPanic.normal ?_
  clear hHeld
  go_wp2_with fail
  refine bodyPost_ret (v := .tuple #[.int .i64 (p : Int), .int .i64 (q : Int), .int .i64 (r : Int), .int .i64 0]) (by simp [results, Try.results18, go_sem]) rfl ⟨rfl, (by first | exact hCE | exact hCE.like), ?_, hGE, hBE⟩
  have hTF := ((Tch.of_below (S := fun g => chB m gx gb g ∨ cB w.heap.size (w.heap.size + 1) (w.heap.size + 2) g) hBW).trans hTE).monoL (S' := chB m gx gb) (fun g hg h => by rcases h with h | h | h | h; exact h; omega; omega; omega)
  (first | exact hTF | exact hTF.like)
theorem state_yes (m gx gb : Nat) (Af : Option Addr) (nf cf : Nat) (a b c d e : Int) (fs : List Flt) (x y : Int) (n0 : Int) (w : World) (s : ChS) (hC : ChipW w m gx gb Af nf cf a b c d e fs s) (hs : Fine s n0) (hn0 : n0 ≤ 900000000) (D : List Nat) (n K P S E st : Nat) (S1 : ChS) (bs : List Nat) (h8 : Bytes8 bs) (hl : bs.length ≤ 1000000) (hZ : Hid (s.readZ a b x y = 0 ∧ s.readB a b c x y = bs ∧ s.readS a b x y = S1)) (hk : Hid (Lk bs D n K P S E st)) :
    Calls Try.prog 8 #[.pointer (some ⟨m, 0, none⟩), .agg #[.int .i64 x, .int .i64 y]] w fun e' w' => e' = .returned (.tuple #[.int .i64 (st : Nat), .int .i64 0]) ∧ ChipW w' m gx gb Af nf cf a b c d e fs S1 ∧ Tch (chB m gx gb) w w' := by
  have hB0 : Below w.heap.size w (w.alloc (.cells #[.int .i64 x, .int .i64 y] 27)) := (Below.refl _ _).alloc (Nat.le_refl _) _
  have hC1 := hC.below hB0
  go_enter Try.func8, Try.ntmps8
  go_wp2_with (go_at_call 34; go_loud (((with_reducible refine (look_yes m gx gb Af nf cf a b c d e fs x y n0 _ s hC1 hs hn0 D n K P S E st S1 bs h8 hl hZ hk).mono ?_); rintro e' wL ⟨⟨A2, c2, rfl, hoL⟩, hCL, hTL⟩; have hTL2 := (Tch.of_below (S := chB m gx gb) hB0).trans hTL)))
  go_ret2
  exact ⟨rfl, hCL.below ((Below.refl _ _).alloc (Nat.le_refl _) _), hTL2.then ((Below.refl _ _).alloc (Nat.le_refl _) _)⟩
theorem lookn_any (x y : Int) (w : World) : Calls Try.prog 34 #[.pointer none, .agg #[.int .i64 x, .int .i64 y]] w fun e' w' => e' = .returned (.tuple #[.agg #[.slice none 0 0, .int .i64 0, .int .i64 0, .int .i64 0, .int .i64 0, .int .i64 0], .int .i64 1]) ∧ Below w.heap.size w w' := by
  obtain ⟨W1, hW1⟩ : ∃ W : World, W = (w.alloc (.cells #[.int .i64 x, .int .i64 y] 27)).alloc (.cells #[.slice none 0 0, .int .i64 0, .int .i64 0, .int .i64 0, .int .i64 0, .int .i64 0] 83) := ⟨_, rfl⟩
  have HB1 : Below w.heap.size w W1 := by rw [hW1]; exact ((Below.refl _ _).alloc (Nat.le_refl _) _).alloc (by simp) _
  have G3 : Blk W1 w.heap.size 27 #[.int .i64 x, .int .i64 y] := by rw [hW1]; exact (Blk.new_ w _ _).alloc_ _
  have G4 : Blk W1 (w.heap.size + 1) 83 #[.slice none 0 0, .int .i64 0, .int .i64 0, .int .i64 0, .int .i64 0, .int .i64 0] := by rw [hW1]; exact blk_new (by simp)
  have z0 := G3.cell_ 0
  have z1 := G3.cell_ 1
  simp at z0 z1
  have HW1 := Lib.hid hW1
  clear hW1
  go_enter Try.func34, Try.ntmps34
  go_upto_region 1 with fail
  rw [← HW1.out]
  go_wp2_with (go_at_call 63; go_loud (((with_reducible refine (read_nil x y W1).mono ?_); rintro e' wR ⟨rfl, hbR⟩; have G4R := G4.below hbR G4.lt; obtain ⟨y0, y1, y2, y3, y4, y5⟩ := cells6 G4R; have y9 := G4R.free)))
  obtain ⟨wz, hwz⟩ : ∃ V : World, V = st6 wR (w.heap.size + 1) (.slice none 0 0) (.int .i64 0) (.int .i64 0) (.int .i64 0) (.int .i64 0) (.int .i64 0) := ⟨_, rfl⟩
  have HZ := st6_blk G4R (.slice none 0 0) (.int .i64 0) (.int .i64 0) (.int .i64 0) (.int .i64 0) (.int .i64 0)
  have TZ := st6_tch wR (w.heap.size + 1) (.slice none 0 0) (.int .i64 0) (.int .i64 0) (.int .i64 0) (.int .i64 0) (.int .i64 0)
  rw [← hwz] at HZ TZ
  unfold st6 at hwz
  rw [← hwz]
  obtain ⟨x0, x1, x2, x3, x4, x5⟩ := cells6 HZ
  have hBB := btr HB1 HB1.size hbR
  refine bodyPost_ret (v := .tuple #[.agg #[.slice none 0 0, .int .i64 0, .int .i64 0, .int .i64 0, .int .i64 0, .int .i64 0], .int .i64 1]) (by simp [results, Try.results34, go_sem, x0, x1, x2, x3, x4, x5]) rfl ⟨rfl, ?_⟩
  exact hBB.trans (TZ.below (by have := hBB.size; omega) (fun g hg => by subst hg; omega))
theorem state_nil (x y : Int) (w : World) : Calls Try.prog 8 #[.pointer none, .agg #[.int .i64 x, .int .i64 y]] w fun e' w' => e' = .returned (.tuple #[.int .i64 0, .int .i64 1]) ∧ Below w.heap.size w w' := by
  have hB0 : Below w.heap.size w (w.alloc (.cells #[.int .i64 x, .int .i64 y] 27)) := (Below.refl _ _).alloc (Nat.le_refl _) _
  go_enter Try.func8, Try.ntmps8
  go_wp2_with (go_at_call 34; go_loud (((with_reducible refine (lookn_any x y _).mono ?_); rintro e' wL ⟨rfl, hbL⟩)))
  go_ret2
  exact ⟨rfl, (btr hB0 hB0.size hbL).alloc (by have := (btr hB0 hB0.size hbL).size; omega) _⟩
end Go.Proofs.Ytcpniplfkillbaa
namespace Go.Proofs.Ytcpniplfkillbaa
open Go.ChangeShapes Go.WideShapes Go.ChangeAt Go.RowKit
attribute [local go_sem ↓] Go.wp_at_zero Go.wp_at_succ
def iV : Value → Int
  | .int _ q => q
  | _ => 0
theorem set_8 {ys : List Nat} (h : Bytes8 ys) {k n : Nat} (hn : n < 256) : Bytes8 (ys.set k n) := by
  intro x hx
  rcases List.mem_or_eq_of_mem_set hx with hx | rfl
  · exact h x hx
  · exact hn
theorem row_set {w : World} {g : Nat} {ys : List Nat} (h : RowT w g 5 (ys.map byteV)) {k n : Nat} (hk : k < ys.length) : RowT (w.setCell ⟨g, k, none⟩ (.int .u8 (n : Nat))) g 5 ((ys.set k n).map byteV) := by
  have := h.set_ (i := k) (by simpa using hk) (byteV n)
  rw [List.map_set]
  exact this
theorem row_sl {w : World} {g : Nat} {ys : List Nat} (h : RowT w g 5 (ys.map byteV)) : Sl w w.heap.size (some ⟨g, 0, none⟩) (ys.map byteV) := Or.inr ⟨g, 0, rfl, h.lt, fun j u hu => by rw [Nat.zero_add]; exact h.cell_ hu⟩
theorem own_cut {w : World} {base n : Nat} {v : Value} {xs : List Value} (h : w.ownsRow base 5 1 v n xs) (hn : 0 < n) : ∃ g c, v = .slice (some ⟨g, 0, none⟩) n c ∧ RowT w g 5 xs ∧ base ≤ g ∧ n ≤ c ∧ c ≤ maxLen := by
  have h0 := h
  rcases h.2 with ⟨_, h1⟩ | ⟨g, cap, cur, rfl, h1, h2, h3, h4, h5⟩
  · omega
  · exact ⟨g, cap, rfl, RowT.own h0, h1, h3, h4⟩
theorem run_zeros (w : World) (g C : Nat) (ys : List Nat) (hl : ys.length = C) (h : RowT w g 5 (ys.map byteV)) (h64 : C ≤ 64) :
    ∃ w' cA, (Builtin.append_ #[38, 3] 38 #[.slice (some ⟨g, 0, none⟩) C C, .int .i64 16]).run Try.prog w = .ok (.slice (some ⟨w.heap.size, 0, none⟩) (C + 16) cA) w' ∧ RowT w' w.heap.size 5 ((ys ++ List.replicate 16 0).map byteV) ∧ Below w.heap.size w w' ∧ C + 16 ≤ cA ∧ cA ≤ maxLen := by
  obtain ⟨ti0, hi, hz0, hz1, hz2⟩ := info_parts infoByte
  have hold : (Builtin.firstCells ti0.size C (.slice (some ⟨g, 0, none⟩) C C)).run Try.prog w.drew = .ok (ys.map byteV).toArray w.drew := by
    rw [hz1]
    refine run_firstCells_some w.drew 1 C ⟨g, 0, none⟩ C C (ys.map byteV) (by simp [hl]) (fun j v hj => ?_)
    have hc := h.cell_ hj
    have e : (⟨g, 0, none⟩ : Addr).add j = ⟨g, j, none⟩ := by unfold Addr.add; split <;> simp_all
    rw [e]
    exact hc
  have hrun := Lib.run_append_grow_zeros (P := Try.prog) w 38 3 38 5 ti0 (.int .u8 0) .i64 .i64 Try.underlying38 Try.underlying3 hi hz0 (some ⟨g, 0, none⟩) C C (ys.map byteV) hold 16 (by omega) (by rw [hz1]; omega) (by omega) (by omega) (by rw [hz2]; omega) (growslice_fits (by omega) (by rw [hz2]; omega))
  refine ⟨_, _, hrun, ?_, ((Below.refl _ _).drew).alloc (Nat.le_refl _) _, grownCap_ge _ _ _ _, grownCap_le_maxLen _ _ _ _ (by unfold maxLen; omega)⟩
  refine ⟨(Builtin.zeroCells (Value.int .u8 0).cells (grownCap w (C + 16) C 5 - (C + 16))).toList, ?_⟩
  have hb := Blk.new_ w.drew 5 ((ys.map byteV).toArray ++ Builtin.zeroCells (Value.int .u8 0).cells 16 ++ Builtin.zeroCells (Value.int .u8 0).cells (grownCap w (C + 16) C 5 - (C + 16)))
  have e : ((ys.map byteV).toArray ++ Builtin.zeroCells (Value.int .u8 0).cells 16 ++ Builtin.zeroCells (Value.int .u8 0).cells (grownCap w (C + 16) C 5 - (C + 16))) = ((ys ++ List.replicate 16 0).map byteV ++ (Builtin.zeroCells (Value.int .u8 0).cells (grownCap w (C + 16) C 5 - (C + 16))).toList).toArray := by
    have h16 : (Builtin.zeroCells (Value.int .u8 0).cells 16).toList = (List.replicate 16 0).map byteV := by first | kernel_rfl | (simp [Builtin.zeroCells, Value.cells, Nat.mod_one]; rfl)
    apply Array.toList_inj.1
    rw [Array.toList_append, Array.toList_append, h16, List.map_append]
  show Blk _ w.drew.heap.size _ _
  rw [← e]
  exact hb
theorem wpList_zeros {ops : Array Oper} {rest : List Oper} {o : Oper} {a : Act} {Q : Exit → Act → World → Prop} (w : World) (hgd : o.guard = none) (x : Operand) (ho : o.op = .call { callee := .builtin .append, args := #[x, .const (.int .i64 16)], argTypes := #[38, 3] }) (hty : o.type = 38)
    (g C : Nat) (ys : List Nat) (hx : a.eval x = .slice (some ⟨g, 0, none⟩) C C) (hl : ys.length = C) (h : RowT w g 5 (ys.map byteV)) (h64 : C ≤ 64)
    (hK : ∀ w' cA, RowT w' w.heap.size 5 ((ys ++ List.replicate 16 0).map byteV) → Below w.heap.size w w' → C + 16 ≤ cA → cA ≤ maxLen → wpList Try.prog ops Q rest (a.put o.dst (.slice (some ⟨w.heap.size, 0, none⟩) (C + 16) cA)) w') : wpList Try.prog ops Q (o :: rest) a w := by
  obtain ⟨w', cA, hrun, h1, h2, h3, h4⟩ := run_zeros w g C ys hl h h64
  refine wpList_plain hgd fun K hKK => ?_
  have he : a.eval (.const (.int .i64 16)) = .int .i64 16 := rfl
  unfold Oper.wp execOp
  simp only [ho, hty, resolve, invoke, builtin, Sem.run_bind, Sem.run_pure, Result.andThen_ok, List.map_toArray, List.map_cons, List.map_nil, hx, he, hrun]
  exact hKK _ _ (hK w' cA h1 h2 h3 h4)
theorem raw_any (a b c d e px py k p s f torn : Int) (nn C Q : Nat) (w : World) (hc : (C : Int) = c) (c1 : 24 ≤ C) (c2 : C ≤ 64) (hn : nn < 256) (hQ : C + 16 = Q) :
    Calls Try.prog 32 #[.agg #[.int .i64 a, .int .i64 b, .int .i64 c, .int .i64 d, .int .i64 e], .agg #[.int .i64 px, .int .i64 py, .int .u8 (nn : Nat), .int .i64 k, .int .i64 p, .int .i64 s, .int .i64 f, .int .i64 torn]] w fun e' w' => (∃ (bs : List Nat) (gA cA : Nat), e' = .returned (.slice (some ⟨gA, 0, none⟩) Q cA) ∧ bs.length = Q ∧ Bytes8 bs ∧ RowT w' gA 5 (bs.map byteV) ∧ w.heap.size ≤ gA ∧ Q ≤ cA ∧ cA ≤ maxLen) ∧ Below w.heap.size w w' := by
  subst hc
  have HBW : Below w.heap.size w ((w.alloc (.cells #[.int .i64 a, .int .i64 b, .int .i64 (C : Int), .int .i64 d, .int .i64 e] 23)).alloc (.cells #[.int .i64 px, .int .i64 py, .int .u8 (nn : Nat), .int .i64 k, .int .i64 p, .int .i64 s, .int .i64 f, .int .i64 torn] 80)) := ((Below.refl _ _).alloc (Nat.le_refl _) _).alloc (by simp) _
  have PA : Blk ((w.alloc (.cells #[.int .i64 a, .int .i64 b, .int .i64 (C : Int), .int .i64 d, .int .i64 e] 23)).alloc (.cells #[.int .i64 px, .int .i64 py, .int .u8 (nn : Nat), .int .i64 k, .int .i64 p, .int .i64 s, .int .i64 f, .int .i64 torn] 80)) w.heap.size 23 #[.int .i64 a, .int .i64 b, .int .i64 (C : Int), .int .i64 d, .int .i64 e] := (Blk.new_ w _ _).alloc_ _
  have PB : Blk ((w.alloc (.cells #[.int .i64 a, .int .i64 b, .int .i64 (C : Int), .int .i64 d, .int .i64 e] 23)).alloc (.cells #[.int .i64 px, .int .i64 py, .int .u8 (nn : Nat), .int .i64 k, .int .i64 p, .int .i64 s, .int .i64 f, .int .i64 torn] 80)) (w.heap.size + 1) 80 #[.int .i64 px, .int .i64 py, .int .u8 (nn : Nat), .int .i64 k, .int .i64 p, .int .i64 s, .int .i64 f, .int .i64 torn] := blk_new (by simp)
  have i0 : (0 : Int) ≤ (C : Int) := by omega
  have i1 : (C : Int) ≤ 64 := by omega
  go_enter Try.func32, Try.ntmps32
  go_wp2_with (at_make; go_loud (obtain ⟨ti0, hi, hz0, hz1, hz2⟩ := info_parts infoByte; refine wpList_make_full _ rfl _ _ 38 rfl w.heap.size 5 ti0 (.int .u8 0) 1 Try.underlying38 hi hz0 hz1 _ _ _ _ C rfl rfl rfl rfl (by rw [hz2]; omega) (by unfold maxLen; omega) (by simp; omega) ?_; intro w1 hown1 hgrow1; clear hi hz0 hz1 hz2))
  have hB1W : Below (((w.alloc (.cells #[.int .i64 a, .int .i64 b, .int .i64 (C : Int), .int .i64 d, .int .i64 e] 23)).alloc (.cells #[.int .i64 px, .int .i64 py, .int .u8 (nn : Nat), .int .i64 k, .int .i64 p, .int .i64 s, .int .i64 f, .int .i64 torn] 80))).heap.size (((w.alloc (.cells #[.int .i64 a, .int .i64 b, .int .i64 (C : Int), .int .i64 d, .int .i64 e] 23)).alloc (.cells #[.int .i64 px, .int .i64 py, .int .u8 (nn : Nat), .int .i64 k, .int .i64 p, .int .i64 s, .int .i64 f, .int .i64 torn] 80))) w1 := (Below.refl _ _).grown hgrow1 (Nat.le_refl _) (fun j hj => by cases hj)
  have PC1 := PA.below hB1W PA.lt
  have PC2 := PB.below hB1W PB.lt
  have hB1 := HBW.trans (hB1W.mono (by simp; omega))
  rw [show (madeCells (Value.int .u8 0).cells (C * 1)).toList = List.replicate (C * 1) (Value.int .u8 0) from toList_madeCells_one _ _, Nat.mul_one] at hown1
  have hR1 : RowT w1 (w.heap.size + 1 + 1) 5 ((List.replicate C 0).map byteV) := by
    have := RowT.own hown1
    simpa [byteV] using this
  clear hown1 hgrow1 hB1W HBW PA PB
  go_loopw [6] (fun s6 wr => ∃ (j : Nat) (ys : List Nat), j ≤ C ∧ s6 = .int .i64 (j : Int) ∧ Hid (ys.length = C) ∧ Bytes8 ys ∧ RowT wr (w.heap.size + 1 + 1) 5 (ys.map byteV) ∧ Blk wr w.heap.size 23 #[.int .i64 a, .int .i64 b, .int .i64 (C : Int), .int .i64 d, .int .i64 e] ∧ Blk wr (w.heap.size + 1) 80 #[.int .i64 px, .int .i64 py, .int .u8 (nn : Nat), .int .i64 k, .int .i64 p, .int .i64 s, .int .i64 f, .int .i64 torn] ∧ Below w.heap.size w wr) (fun s6 _ => C - (iV s6).toNat)
  case atStart => exact ⟨0, List.replicate C 0, Nat.zero_le _, rfl, Lib.hid (by simp), (fun x hx => by have := List.eq_of_mem_replicate hx; omega), hR1, PC1, PC2, hB1⟩
  case round =>
    clear hR1 PC1 PC2 hB1
    obtain ⟨j, ys, hj, rfl, HL, h8, hR, P1, P2, hB⟩ := hrel
    by_cases hlt : j < C
    · obtain ⟨yj, hyj⟩ : ∃ x, ys[j]? = some x := ⟨_, List.getElem?_eq_getElem (by rw [HL.out]; exact hlt)⟩
      have c0 : wr.cell? ⟨w.heap.size + 1 + 1, j, none⟩ = some (.int .u8 (yj : Nat)) := hR.cell_ (by rw [List.getElem?_map, hyj]; rfl)
      have f0 := hR.free j
      have q2 : wr.cell? ⟨w.heap.size + 1, 2, none⟩ = some (.int .u8 (nn : Nat)) := P2.cell_ 2
      have j0 : (0 : Int) ≤ (j : Int) := by omega
      have j1 : (j : Int) < (C : Int) := by omega
      clear hyj
      go_wp2_with fail
      go_roundw
      case rel => exact ⟨j + 1, ys.set j nn, by omega, by go_num, Lib.hid (by rw [List.length_set]; exact HL.out), set_8 h8 hn, row_set hR (by rw [HL.out]; exact hlt), P1.far (p := ⟨w.heap.size + 1 + 1, j, none⟩) (by show w.heap.size ≠ w.heap.size + 1 + 1; omega) _, P2.far (p := ⟨w.heap.size + 1 + 1, j, none⟩) (by show w.heap.size + 1 ≠ w.heap.size + 1 + 1; omega) _, hB.setCell (by show w.heap.size ≤ w.heap.size + 1 + 1; omega) _⟩
      case measure => simp [iV]; omega
    · have hjC : j = C := by omega
      subst hjC
      have q3 : wr.cell? ⟨w.heap.size + 1, 3, none⟩ = some (.int .i64 k) := P2.cell_ 3
      have q4 : wr.cell? ⟨w.heap.size + 1, 4, none⟩ = some (.int .i64 p) := P2.cell_ 4
      have q5 : wr.cell? ⟨w.heap.size + 1, 5, none⟩ = some (.int .i64 s) := P2.cell_ 5
      have q6 : wr.cell? ⟨w.heap.size + 1, 6, none⟩ = some (.int .i64 f) := P2.cell_ 6
      have hsl := row_sl hR
      rcases lay_cases ys h8 k p s f with hno | ⟨K, P, S, E, rfl, rfl, rfl, rfl, hok⟩
      · have hlay := rlay_no ys (some ⟨w.heap.size + 1 + 1, 0, none⟩) j k p s f wr hno (by rw [HL.out]; omega)
        rw [HL.out] at hlay
        have H8Z : Bytes8 (ys ++ List.replicate 16 0) := fun x hx => by
          rcases List.mem_append.1 hx with hx | hx
          · exact h8 x hx
          · have := List.eq_of_mem_replicate hx
            omega
        clear hno
        subst hQ
        by_cases ht : torn < 0
        · have t0 : ¬ (0 : Int) ≤ torn := by omega
          go_wp2_with (first | (go_at_call 28; go_loud (((with_reducible refine (hlay).mono ?_); rintro e' wL ⟨rfl, hbL⟩; have hLB0 := btr hB hB.size hbL; have hRL := hR.below hbL; have P2L := P2.below hbL P2.lt; have qL7 : wL.cell? ⟨w.heap.size + 1, 7, none⟩ = some (.int .i64 torn) := P2L.cell_ 7))) | (at_builtin; go_loud (refine wpList_zeros wL rfl (.tmp 34) rfl rfl (w.heap.size + 1 + 1) j ys rfl HL.out hRL c2 ?_; intro w9 cA hR9 hB9 hcA1 hcA2; have hLB := btr hLB0 hLB0.size hB9; have P2X := P2L.below hB9 P2L.lt; have q7 : w9.cell? ⟨w.heap.size + 1, 7, none⟩ = some (.int .i64 torn) := P2X.cell_ 7; have HL9 : Hid ((ys ++ List.replicate 16 0).length = j + 16) := Lib.hid (by rw [List.length_append, HL.out, List.length_replicate]); have hg9 : w.heap.size ≤ wL.heap.size := hLB0.size)))
          go_loopw [10] (fun s10 wy => ∃ (i : Nat) (zs : List Nat), i ≤ j + 16 ∧ s10 = .int .i64 (i : Int) ∧ Hid (zs.length = j + 16) ∧ Bytes8 zs ∧ RowT wy wL.heap.size 5 (zs.map byteV) ∧ Below w.heap.size w wy) (fun s10 _ => j + 16 - (iV s10).toNat)
          case atStart => exact ⟨j + 16, (ys ++ List.replicate 16 0), by omega, by go_num, HL9, H8Z, hR9, hLB⟩
          case round =>
            clear hR P1 P2 hB hlay hsl q3 q4 q5 q6 q7
            obtain ⟨i, zs, hi, rfl, HZ, h8z, hRz, hBz⟩ := hrel
            by_cases hli : i < j + 16
            · obtain ⟨zj, hzj⟩ : ∃ x, zs[i]? = some x := ⟨_, List.getElem?_eq_getElem (by rw [HZ.out]; exact hli)⟩
              have d0 : wr.cell? ⟨wL.heap.size, i, none⟩ = some (.int .u8 (zj : Nat)) := hRz.cell_ (by rw [List.getElem?_map, hzj]; rfl)
              have d1 := hRz.free i
              have d2 : (0 : Int) ≤ (i : Int) := by omega
              have d3 : (i : Int) < (j : Int) + 16 := by omega
              clear hzj
              go_wp2_with fail
              go_roundw
              case rel => exact ⟨i + 1, zs.set i 255, by omega, by go_num, Lib.hid (by rw [List.length_set]; exact HZ.out), set_8 h8z (by omega), row_set hRz (by rw [HZ.out]; exact hli), hBz.setCell hg9 _⟩
              case measure => simp [iV]; omega
            · have d3 : ¬ (i : Int) < (j : Int) + 16 := by omega
              go_wp2_with fail
              go_ret
              exact ⟨⟨zs, _, _, rfl, HZ.out, h8z, hRz, hg9, hcA1, hcA2⟩, hBz⟩
        · obtain ⟨T, rfl⟩ : ∃ T : Nat, torn = (T : Int) := ⟨torn.toNat, by omega⟩
          have t0 : (0 : Int) ≤ (T : Int) := by omega
          by_cases hT : T ≤ j + 16
          · have t1 : (T : Int) ≤ (j : Int) + 16 := by omega
            go_wp2_with (first | (go_at_call 28; go_loud (((with_reducible refine (hlay).mono ?_); rintro e' wL ⟨rfl, hbL⟩; have hLB0 := btr hB hB.size hbL; have hRL := hR.below hbL; have P2L := P2.below hbL P2.lt; have qL7 : wL.cell? ⟨w.heap.size + 1, 7, none⟩ = some (.int .i64 (T : Int)) := P2L.cell_ 7))) | (at_builtin; go_loud (refine wpList_zeros wL rfl (.tmp 34) rfl rfl (w.heap.size + 1 + 1) j ys rfl HL.out hRL c2 ?_; intro w9 cA hR9 hB9 hcA1 hcA2; have hLB := btr hLB0 hLB0.size hB9; have P2X := P2L.below hB9 P2L.lt; have q7 : w9.cell? ⟨w.heap.size + 1, 7, none⟩ = some (.int .i64 (T : Int)) := P2X.cell_ 7; have HL9 : Hid ((ys ++ List.replicate 16 0).length = j + 16) := Lib.hid (by rw [List.length_append, HL.out, List.length_replicate]); have hg9 : w.heap.size ≤ wL.heap.size := hLB0.size)))
            all_goals (try omega)
            go_loopw [10] (fun s10 wy => ∃ (i : Nat) (zs : List Nat), i ≤ j + 16 ∧ s10 = .int .i64 (i : Int) ∧ Hid (zs.length = j + 16) ∧ Bytes8 zs ∧ RowT wy wL.heap.size 5 (zs.map byteV) ∧ Below w.heap.size w wy) (fun s10 _ => j + 16 - (iV s10).toNat)
            case atStart => exact ⟨T, (ys ++ List.replicate 16 0), by omega, by go_num, HL9, H8Z, hR9, hLB⟩
            case round =>
              clear hR P1 P2 hB hlay hsl q3 q4 q5 q6 q7
              obtain ⟨i, zs, hi, rfl, HZ, h8z, hRz, hBz⟩ := hrel
              by_cases hli : i < j + 16
              · obtain ⟨zj, hzj⟩ : ∃ x, zs[i]? = some x := ⟨_, List.getElem?_eq_getElem (by rw [HZ.out]; exact hli)⟩
                have d0 : wr.cell? ⟨wL.heap.size, i, none⟩ = some (.int .u8 (zj : Nat)) := hRz.cell_ (by rw [List.getElem?_map, hzj]; rfl)
                have d1 := hRz.free i
                have d2 : (0 : Int) ≤ (i : Int) := by omega
                have d3 : (i : Int) < (j : Int) + 16 := by omega
                clear hzj
                go_wp2_with fail
                go_roundw
                case rel => exact ⟨i + 1, zs.set i 255, by omega, by go_num, Lib.hid (by rw [List.length_set]; exact HZ.out), set_8 h8z (by omega), row_set hRz (by rw [HZ.out]; exact hli), hBz.setCell hg9 _⟩
                case measure => simp [iV]; omega
              · have d3 : ¬ (i : Int) < (j : Int) + 16 := by omega
                go_wp2_with fail
                go_ret
                exact ⟨⟨zs, _, _, rfl, HZ.out, h8z, hRz, hg9, hcA1, hcA2⟩, hBz⟩
          · have t1 : (j : Int) + 16 < (T : Int) := by omega
            go_wp2_with (first | (go_at_call 28; go_loud (((with_reducible refine (hlay).mono ?_); rintro e' wL ⟨rfl, hbL⟩; have hLB0 := btr hB hB.size hbL; have hRL := hR.below hbL; have P2L := P2.below hbL P2.lt; have qL7 : wL.cell? ⟨w.heap.size + 1, 7, none⟩ = some (.int .i64 (T : Int)) := P2L.cell_ 7))) | (at_builtin; go_loud (refine wpList_zeros wL rfl (.tmp 34) rfl rfl (w.heap.size + 1 + 1) j ys rfl HL.out hRL c2 ?_; intro w9 cA hR9 hB9 hcA1 hcA2; have hLB := btr hLB0 hLB0.size hB9; have P2X := P2L.below hB9 P2L.lt; have q7 : w9.cell? ⟨w.heap.size + 1, 7, none⟩ = some (.int .i64 (T : Int)) := P2X.cell_ 7; have HL9 : Hid ((ys ++ List.replicate 16 0).length = j + 16) := Lib.hid (by rw [List.length_append, HL.out, List.length_replicate]); have hg9 : w.heap.size ≤ wL.heap.size := hLB0.size)))
            all_goals (try omega)
            go_loopw [10] (fun s10 wy => ∃ (i : Nat) (zs : List Nat), i ≤ j + 16 ∧ s10 = .int .i64 (i : Int) ∧ Hid (zs.length = j + 16) ∧ Bytes8 zs ∧ RowT wy wL.heap.size 5 (zs.map byteV) ∧ Below w.heap.size w wy) (fun s10 _ => j + 16 - (iV s10).toNat)
            case atStart => exact ⟨j + 16, (ys ++ List.replicate 16 0), by omega, by go_num, HL9, H8Z, hR9, hLB⟩
            case round =>
              clear hR P1 P2 hB hlay hsl q3 q4 q5 q6 q7
              obtain ⟨i, zs, hi, rfl, HZ, h8z, hRz, hBz⟩ := hrel
              by_cases hli : i < j + 16
              · obtain ⟨zj, hzj⟩ : ∃ x, zs[i]? = some x := ⟨_, List.getElem?_eq_getElem (by rw [HZ.out]; exact hli)⟩
                have d0 : wr.cell? ⟨wL.heap.size, i, none⟩ = some (.int .u8 (zj : Nat)) := hRz.cell_ (by rw [List.getElem?_map, hzj]; rfl)
                have d1 := hRz.free i
                have d2 : (0 : Int) ≤ (i : Int) := by omega
                have d3 : (i : Int) < (j : Int) + 16 := by omega
                clear hzj
                go_wp2_with fail
                go_roundw
                case rel => exact ⟨i + 1, zs.set i 255, by omega, by go_num, Lib.hid (by rw [List.length_set]; exact HZ.out), set_8 h8z (by omega), row_set hRz (by rw [HZ.out]; exact hli), hBz.setCell hg9 _⟩
                case measure => simp [iV]; omega
              · have d3 : ¬ (i : Int) < (j : Int) + 16 := by omega
                go_wp2_with fail
                go_ret
                exact ⟨⟨zs, _, _, rfl, HZ.out, h8z, hRz, hg9, hcA1, hcA2⟩, hBz⟩
      · have hlay := rlay_yes ys (some ⟨w.heap.size + 1 + 1, 0, none⟩) j K P S E wr hsl hok
        rw [HL.out] at hlay
        have H8Z : Bytes8 (rawB ys K P S E) := rawB_8 hok.2.2.2.2.2.2.2.2 (by have := hok.2.2.2.1; omega)
        clear hok
        subst hQ
        by_cases ht : torn < 0
        · have t0 : ¬ (0 : Int) ≤ torn := by omega
          go_wp2_with (first | (go_at_call 28; go_loud (((with_reducible refine (hlay).mono ?_); rintro e' wL ⟨sv, rfl, hoL, hbL⟩; have hLB := btr hB hB.size hbL; have P2X := P2.below hbL P2.lt; have q7 : wL.cell? ⟨w.heap.size + 1, 7, none⟩ = some (.int .i64 torn) := P2X.cell_ 7; obtain ⟨g9, c9, rfl, hR9, hge9, hcA1, hcA2⟩ := own_cut hoL (by omega); have HL9 : Hid ((rawB ys K P S E).length = j + 16) := Lib.hid (by rw [rawB_len, HL.out]); have hg9 : w.heap.size ≤ g9 := by have := hB.size; omega))))
          go_loopw [10] (fun s10 wy => ∃ (i : Nat) (zs : List Nat), i ≤ j + 16 ∧ s10 = .int .i64 (i : Int) ∧ Hid (zs.length = j + 16) ∧ Bytes8 zs ∧ RowT wy g9 5 (zs.map byteV) ∧ Below w.heap.size w wy) (fun s10 _ => j + 16 - (iV s10).toNat)
          case atStart => exact ⟨j + 16, (rawB ys K P S E), by omega, by go_num, HL9, H8Z, hR9, hLB⟩
          case round =>
            clear hR P1 P2 hB hlay hsl q3 q4 q5 q6 q7
            obtain ⟨i, zs, hi, rfl, HZ, h8z, hRz, hBz⟩ := hrel
            by_cases hli : i < j + 16
            · obtain ⟨zj, hzj⟩ : ∃ x, zs[i]? = some x := ⟨_, List.getElem?_eq_getElem (by rw [HZ.out]; exact hli)⟩
              have d0 : wr.cell? ⟨g9, i, none⟩ = some (.int .u8 (zj : Nat)) := hRz.cell_ (by rw [List.getElem?_map, hzj]; rfl)
              have d1 := hRz.free i
              have d2 : (0 : Int) ≤ (i : Int) := by omega
              have d3 : (i : Int) < (j : Int) + 16 := by omega
              clear hzj
              go_wp2_with fail
              go_roundw
              case rel => exact ⟨i + 1, zs.set i 255, by omega, by go_num, Lib.hid (by rw [List.length_set]; exact HZ.out), set_8 h8z (by omega), row_set hRz (by rw [HZ.out]; exact hli), hBz.setCell hg9 _⟩
              case measure => simp [iV]; omega
            · have d3 : ¬ (i : Int) < (j : Int) + 16 := by omega
              go_wp2_with fail
              go_ret
              exact ⟨⟨zs, _, _, rfl, HZ.out, h8z, hRz, hg9, hcA1, hcA2⟩, hBz⟩
        · obtain ⟨T, rfl⟩ : ∃ T : Nat, torn = (T : Int) := ⟨torn.toNat, by omega⟩
          have t0 : (0 : Int) ≤ (T : Int) := by omega
          by_cases hT : T ≤ j + 16
          · have t1 : (T : Int) ≤ (j : Int) + 16 := by omega
            go_wp2_with (first | (go_at_call 28; go_loud (((with_reducible refine (hlay).mono ?_); rintro e' wL ⟨sv, rfl, hoL, hbL⟩; have hLB := btr hB hB.size hbL; have P2X := P2.below hbL P2.lt; have q7 : wL.cell? ⟨w.heap.size + 1, 7, none⟩ = some (.int .i64 (T : Int)) := P2X.cell_ 7; obtain ⟨g9, c9, rfl, hR9, hge9, hcA1, hcA2⟩ := own_cut hoL (by omega); have HL9 : Hid ((rawB ys K P S E).length = j + 16) := Lib.hid (by rw [rawB_len, HL.out]); have hg9 : w.heap.size ≤ g9 := by have := hB.size; omega))))
            all_goals (try omega)
            go_loopw [10] (fun s10 wy => ∃ (i : Nat) (zs : List Nat), i ≤ j + 16 ∧ s10 = .int .i64 (i : Int) ∧ Hid (zs.length = j + 16) ∧ Bytes8 zs ∧ RowT wy g9 5 (zs.map byteV) ∧ Below w.heap.size w wy) (fun s10 _ => j + 16 - (iV s10).toNat)
            case atStart => exact ⟨T, (rawB ys K P S E), by omega, by go_num, HL9, H8Z, hR9, hLB⟩
            case round =>
              clear hR P1 P2 hB hlay hsl q3 q4 q5 q6 q7
              obtain ⟨i, zs, hi, rfl, HZ, h8z, hRz, hBz⟩ := hrel
              by_cases hli : i < j + 16
              · obtain ⟨zj, hzj⟩ : ∃ x, zs[i]? = some x := ⟨_, List.getElem?_eq_getElem (by rw [HZ.out]; exact hli)⟩
                have d0 : wr.cell? ⟨g9, i, none⟩ = some (.int .u8 (zj : Nat)) := hRz.cell_ (by rw [List.getElem?_map, hzj]; rfl)
                have d1 := hRz.free i
                have d2 : (0 : Int) ≤ (i : Int) := by omega
                have d3 : (i : Int) < (j : Int) + 16 := by omega
                clear hzj
                go_wp2_with fail
                go_roundw
                case rel => exact ⟨i + 1, zs.set i 255, by omega, by go_num, Lib.hid (by rw [List.length_set]; exact HZ.out), set_8 h8z (by omega), row_set hRz (by rw [HZ.out]; exact hli), hBz.setCell hg9 _⟩
                case measure => simp [iV]; omega
              · have d3 : ¬ (i : Int) < (j : Int) + 16 := by omega
                go_wp2_with fail
                go_ret
                exact ⟨⟨zs, _, _, rfl, HZ.out, h8z, hRz, hg9, hcA1, hcA2⟩, hBz⟩
          · have t1 : (j : Int) + 16 < (T : Int) := by omega
            go_wp2_with (first | (go_at_call 28; go_loud (((with_reducible refine (hlay).mono ?_); rintro e' wL ⟨sv, rfl, hoL, hbL⟩; have hLB := btr hB hB.size hbL; have P2X := P2.below hbL P2.lt; have q7 : wL.cell? ⟨w.heap.size + 1, 7, none⟩ = some (.int .i64 (T : Int)) := P2X.cell_ 7; obtain ⟨g9, c9, rfl, hR9, hge9, hcA1, hcA2⟩ := own_cut hoL (by omega); have HL9 : Hid ((rawB ys K P S E).length = j + 16) := Lib.hid (by rw [rawB_len, HL.out]); have hg9 : w.heap.size ≤ g9 := by have := hB.size; omega))))
            all_goals (try omega)
            go_loopw [10] (fun s10 wy => ∃ (i : Nat) (zs : List Nat), i ≤ j + 16 ∧ s10 = .int .i64 (i : Int) ∧ Hid (zs.length = j + 16) ∧ Bytes8 zs ∧ RowT wy g9 5 (zs.map byteV) ∧ Below w.heap.size w wy) (fun s10 _ => j + 16 - (iV s10).toNat)
            case atStart => exact ⟨j + 16, (rawB ys K P S E), by omega, by go_num, HL9, H8Z, hR9, hLB⟩
            case round =>
              clear hR P1 P2 hB hlay hsl q3 q4 q5 q6 q7
              obtain ⟨i, zs, hi, rfl, HZ, h8z, hRz, hBz⟩ := hrel
              by_cases hli : i < j + 16
              · obtain ⟨zj, hzj⟩ : ∃ x, zs[i]? = some x := ⟨_, List.getElem?_eq_getElem (by rw [HZ.out]; exact hli)⟩
                have d0 : wr.cell? ⟨g9, i, none⟩ = some (.int .u8 (zj : Nat)) := hRz.cell_ (by rw [List.getElem?_map, hzj]; rfl)
                have d1 := hRz.free i
                have d2 : (0 : Int) ≤ (i : Int) := by omega
                have d3 : (i : Int) < (j : Int) + 16 := by omega
                clear hzj
                go_wp2_with fail
                go_roundw
                case rel => exact ⟨i + 1, zs.set i 255, by omega, by go_num, Lib.hid (by rw [List.length_set]; exact HZ.out), set_8 h8z (by omega), row_set hRz (by rw [HZ.out]; exact hli), hBz.setCell hg9 _⟩
                case measure => simp [iV]; omega
              · have d3 : ¬ (i : Int) < (j : Int) + 16 := by omega
                go_wp2_with fail
                go_ret
                exact ⟨⟨zs, _, _, rfl, HZ.out, h8z, hRz, hg9, hcA1, hcA2⟩, hBz⟩
end Go.Proofs.Ytcpniplfkillbaa
namespace Go.Proofs.Ytcpniplfkillbaa
open Go.ChangeShapes Go.WideShapes Go.ChangeAt Go.RowKit Go.Deep
section
variable {H : Type} {enc : TypeId × Value → H} {P : Program} {w : World} {base : Nat} {spare : Nat → Bool} {held : Bool}
end
end Go.Proofs.Ytcpniplfkillbaa
namespace Go.Proofs.Ytcpniplfkillbaa
open Go.ChangeShapes Go.WideShapes Go.ChangeAt Go.RowKit
attribute [local go_sem ↓] Go.wp_at_zero Go.wp_at_succ
theorem SlF.drew_ {w : World} {A : Option Addr} {fs : List Flt} (h : SlF w w.heap.size A fs) : SlF w.drew w.drew.heap.size A fs := h
theorem two_start {w1 w2 : World} {m gx gb : Nat} {Af : Option Addr} {nf cf mR gB gN gW gD : Nat} {AfR : Option Addr} {nfR cfR : Nat} {a b c d e : Int} {fs : List Flt} {s : ChS} (hC : ChipW w1 m gx gb Af nf cf a b c d e fs s) (hR : RefW w2 mR gB gN gW gD w1.heap.size AfR nfR cfR a b c d e fs s) (hb : Below w1.heap.size w1 w2) : Two w2 w1.heap.size m gx gb Af nf cf mR gB gN gW gD AfR nfR cfR a b c d e fs s s := by
  have hlt := hC.lt
  refine ⟨⟨hC.below hb, fun g hg => ?_, ?_⟩, hR⟩
  · rcases hg with rfl | rfl | rfl
    · exact hlt.1
    · exact hlt.2.1
    · exact hlt.2.2
  · rcases hC.flt with h1 | ⟨g, off, e, hl, _⟩
    · exact Or.inl h1
    · exact Or.inr ⟨g, off, e, hl⟩
theorem two_startE {w1 w2 : World} {m gx gb : Nat} {Af : Option Addr} {nf cf mR gB gN gW gD : Nat} {AfR : Option Addr} {nfR cfR : Nat} {a b c d e : Int} {fs : List Flt} {s : ChS} (hC : ChipW w1 m gx gb Af nf cf a b c d e fs s) (hR : RefW w2 mR gB gN gW gD w1.heap.size AfR nfR cfR a b c d e fs s) (hb : Below w1.heap.size w1 w2) : ∃ L, Two w2 L m gx gb Af nf cf mR gB gN gW gD AfR nfR cfR a b c d e fs s s := ⟨_, two_start hC hR hb⟩
theorem put_cells {e : List Value} (h : Flat [some .i64, some .i64, some .u8, some .i64, some .i64, some .i64, some .i64, some .i64] e) : ∃ (px py : Int) (nn : Nat) (k p s f torn : Int), e = [.int .i64 px, .int .i64 py, .int .u8 (nn : Int), .int .i64 k, .int .i64 p, .int .i64 s, .int .i64 f, .int .i64 torn] ∧ nn < 256 := by
  obtain ⟨x0, r0, rfl, h0, h⟩ := h.int
  obtain ⟨x1, r1, rfl, h1, h⟩ := h.int
  obtain ⟨x2, r2, rfl, h2, h⟩ := h.int
  obtain ⟨x3, r3, rfl, h3, h⟩ := h.int
  obtain ⟨x4, r4, rfl, h4, h⟩ := h.int
  obtain ⟨x5, r5, rfl, h5, h⟩ := h.int
  obtain ⟨x6, r6, rfl, h6, h⟩ := h.int
  obtain ⟨x7, r7, rfl, h7, h⟩ := h.int
  obtain rfl := h.nil
  have e1 : IntKind.u8.min = 0 := rfl
  have e2 : IntKind.u8.max = 255 := rfl
  simp only [Lit.wf, Bool.and_eq_true, decide_eq_true_eq, e1, e2] at h2
  refine ⟨x0, x1, x2.toNat, x3, x4, x5, x6, x7, ?_, by omega⟩
  rw [Int.toNat_of_nonneg h2.1]
theorem two_low {w2 : World} {m gx gb mR gB gN gW gD : Nat} {AfR : Option Addr} {nfR cfR : Nat} {a b c d e : Int} {fs : List Flt} {s : ChS} {K w0s w1s : Nat} (hA : K + 1 ≤ w0s) (hB : K + 1 ≤ w1s) (hm : w0s ≤ m) (hgx : w0s ≤ gx) (hgb : w0s ≤ gb) (hR : RefW w2 mR gB gN gW gD w1s AfR nfR cfR a b c d e fs s) : ∀ g, twB m gx gb mR gB gN gW gD g → K < g := by
  intro g hg
  rcases hg with hg | hg
  · rcases hg with rfl | rfl | rfl <;> omega
  · have := hR.ge g hg
    omega
theorem good_new (NX NB : Nat) : Good (ChS.new NX NB) 20 := by
  have hz : ∀ i, (List.replicate (3 * NB) (0 : Int)).getD i 0 = 0 := by
    intro i
    rw [List.getD_eq_getElem?_getD, List.getElem?_replicate]
    split <;> rfl
  exact ⟨⟨⟨by simp [ChS.new], by simp [ChS.new], by simp [ChS.new], by simp [ChS.new], fun i => by show 0 ≤ (List.replicate (3 * NB) (0 : Int)).getD i 0; rw [hz]; omega, fun i => by show (List.replicate (3 * NB) (0 : Int)).getD i 0 ≤ 20; rw [hz]; omega⟩, by simp [ChS.new], by simp [ChS.new]⟩, ⟨fun h => by simp [ChS.new] at h, fun h => by simp [ChS.new] at h⟩⟩
structure Liv (s : ChS) : Prop where
  on : s.on = true
  ar : s.armed = false
  b8 : Bytes8 s.X
theorem Liv.cut {s : ChS} (h : Liv s) : s.cutB = false := by unfold ChS.cutB; rw [h.ar]; rfl
theorem Liv.tick {s : ChS} (h : Liv s) : Liv s.tick := by
  unfold ChS.tick
  rw [h.cut]
  exact ⟨h.on, h.ar, h.b8⟩
theorem Liv.new (NX NB : Nat) : Liv (ChS.new NX NB) := ⟨rfl, rfl, fun x hx => by
  have := List.eq_of_mem_replicate hx
  omega⟩
theorem putX_8 {X vs : List Nat} {F : Nat} (h : Bytes8 X) (hv : Bytes8 vs) : Bytes8 (putX X F vs) := by
  intro x hx
  unfold putX at hx
  rcases List.mem_append.1 hx with hx | hx
  · rcases List.mem_append.1 hx with hx | hx
    · exact h x (List.mem_of_mem_take hx)
    · exact hv x hx
  · exact h x (List.mem_of_mem_drop hx)
theorem Liv.prog {s : ChS} (h : Liv s) (a b c : Int) (fs : List Flt) (x y : Int) {bs : List Nat} (hb : Bytes8 bs) : Liv (s.progS a b c fs x y bs) := by
  unfold ChS.progS
  split
  · split
    · rw [h.cut]
      have ht := h.tick
      exact ⟨ht.on, ht.ar, putX_8 h.b8 hb⟩
    · exact h.tick
  · exact h
theorem Liv.read {s : ChS} (h : Liv s) (a b x y : Int) : Liv (s.readS a b x y) := by
  unfold ChS.readS
  split
  · exact h.tick
  · exact h
theorem RowT.like_ {w : World} {g : Nat} {t : TypeId} {xs : List Value} (h : RowT w g t xs) : RowT w.drew g t xs := h
theorem tw_progR (L m gx gb : Nat) (Af : Option Addr) (nf cf mR gB gN gW gD : Nat) (AfR : Option Addr) (nfR cfR : Nat) (a b c d e : Int) (fs : List Flt) (x y : Int) (bs : List Nat) (gA cA Q : Nat) (n : Int) (w : World) (s t : ChS) (h : Two w L m gx gb Af nf cf mR gB gN gW gD AfR nfR cfR a b c d e fs s t) (hs : Fine s n) (hn : n ≤ 900000000) (hQ : bs.length = Q) (hR : RowT w gA 5 (bs.map byteV)) (hgn : ¬ chB m gx gb gA) (hcA : Q ≤ cA) (hcA2 : cA ≤ maxLen) (Z : Int) (S : ChS) (hZ : Hid (s.progZ a b c fs x y Q = Z ∧ s.progS a b c fs x y bs = S)) :
    Calls Try.prog 30 #[.pointer (some ⟨m, 0, none⟩), .agg #[.int .i64 x, .int .i64 y], .slice (some ⟨gA, 0, none⟩) Q cA] w fun e' w' => e' = .returned (.int .i64 Z) ∧ Two w' L m gx gb Af nf cf mR gB gN gW gD AfR nfR cfR a b c d e fs S t ∧ Tch (chB m gx gb) w w' := by
  obtain ⟨rfl, rfl⟩ := hZ.out
  subst hQ
  refine (prog_allC m gx gb Af nf cf a b c d e fs x y bs gA cA n w s h.cl.chip hs hn ?_ hR.lt hcA hcA2 hgn).mono ?_
  · intro j u hj
    rw [Nat.zero_add]
    exact hR.cell_ hj
  · rintro e' w' ⟨rfl, hC, hT⟩
    exact ⟨rfl, h.chip hC hT, hT⟩
theorem both_any (a b c d e : Int) (A1 : Option Addr) (c1 : Nat) (fs : List Flt) (A : Option Addr) (len cap : Nat) (es : List (List Value)) (w : World) (hq1 : fs.length ≤ c1) (hq2 : c1 ≤ maxLen) (hsf : SlF w w.heap.size A1 fs) (hf20 : fs.length ≤ 20) (hlen : es.length = len) (hl60 : len ≤ 60) (hsl : SlE 8 w w.heap.size A es) (hfl : ∀ x ∈ es, Flat [some .i64, some .i64, some .u8, some .i64, some .i64, some .i64, some .i64, some .i64] x) :
    Calls Try.prog 7 #[.agg #[.int .i64 a, .int .i64 b, .int .i64 c, .int .i64 d, .int .i64 e], .slice A1 fs.length c1, .slice A len cap] w fun e' w' => ((e' = .returned (.tuple #[.pointer none, .pointer none, .bool true]) ∧ planMay a b c d e fs = false) ∨ (∃ (L m gx gb : Nat) (AF : Option Addr) (cf mR gB gN gW gD : Nat) (AF2 : Option Addr) (cf2 : Nat) (S : ChS), e' = .returned (.tuple #[.pointer (some ⟨m, 0, none⟩), .pointer (some ⟨mR, 0, none⟩), .bool true]) ∧ Two w' L m gx gb AF fs.length cf mR gB gN gW gD AF2 fs.length cf2 a b c d e fs S S ∧ Good S (20 + 3 * (len : Int)) ∧ Liv S ∧ (∀ g, twB m gx gb mR gB gN gW gD g → w.heap.size < g))) ∧ Below w.heap.size w w' := by
  have HLen := Lib.hid hlen
  have HC0 := Lib.hid hq1
  have HC1 := Lib.hid hq2
  clear hq1 hq2 hlen
  have HB0 : Below w.heap.size w (w.alloc (.cells #[.int .i64 a, .int .i64 b, .int .i64 c, .int .i64 d, .int .i64 e] 23)) := (Below.refl _ _).alloc (Nat.le_refl _) _
  have G1 : Blk (w.alloc (.cells #[.int .i64 a, .int .i64 b, .int .i64 c, .int .i64 d, .int .i64 e] 23)) w.heap.size 23 #[.int .i64 a, .int .i64 b, .int .i64 c, .int .i64 d, .int .i64 e] := Blk.new_ _ _ _
  have HY := cells5 G1
  have HSF := hsf.next HB0
  clear hsf
  rcases (by cases hq : planMay a b c d e fs <;> simp : planMay a b c d e fs = false ∨ planMay a b c d e fs = true) with hpm | hpm
  · have HP := Lib.hid hpm
    clear hpm
    go_enter Try.func7, Try.ntmps7
    go_upto_region 1 with fail
    refine wp_region_noPanic ?_
    refine wp_region_held_drew (S := (fun w' => w'.cell? ⟨w.heap.size, 0, none⟩ = some (.int .i64 a) ∧ w'.cell? ⟨w.heap.size, 1, none⟩ = some (.int .i64 b) ∧ w'.cell? ⟨w.heap.size, 2, none⟩ = some (.int .i64 c) ∧ w'.cell? ⟨w.heap.size, 3, none⟩ = some (.int .i64 d) ∧ w'.cell? ⟨w.heap.size, 4, none⟩ = some (.int .i64 e))) (by kernel_rfl) ?_ (fun hHeld => ?_)
    · (first | exact HY | assumption)
    refine tk 0 ⟨some 13, .load 23 (.tmp 3), 23, "law.go:67", #[], none⟩ ?_; try simp only [Act.put, pz1, pz2, pz3]
    refine tk 1 ⟨some 14, .move (.tmp 1), 24, "law.go:67", #[], none⟩ ?_; try simp only [Act.put, pz1, pz2, pz3]
    refine tk 3 ⟨some 16, .load 23 (.tmp 3), 23, "law.go:67", #[], none⟩ ?_; try simp only [Act.put, pz1, pz2, pz3]
    refine tk 4 ⟨some 17, .move (.tmp 1), 24, "law.go:67", #[], none⟩ ?_; try simp only [Act.put, pz1, pz2, pz3]
    refine wpAnyH_ready (rs := [2]) (by kernel_rfl) (by simp) ?_
    refine AllReadyH.cons (o := ⟨some 15, .call { callee := .value (.func 26), args := #[.tmp 13, .tmp 14], argTypes := #[23, 24] }, 29, "law.go:67", #[⟨0, .data⟩, ⟨1, .data⟩], none⟩) rfl (fun K hK => ?_) AllReadyH.nil
    go_simp
    (first | (go_at_call 26; go_loud (((with_reducible refine (newF_no _ _ _ _ _ fs _ _ _ (by first | exact HSF | exact SlF.drew_ HSF) HC0.out HC1.out HP).mono ?_); rintro e' wN ⟨rfl, hb⟩; (try have hb := undrew hb); replace HB0 := btr HB0 HB0.size hb; replace HSF := HSF.next hb; replace G1 := G1.below hb G1.lt; (try clear HY); have HY := cells5 G1))) | (go_at_call 31; go_loud (((with_reducible refine (rnew_no _ _ _ _ _ fs _ _ _ (by first | exact HSF | exact SlF.drew_ HSF) HP).mono ?_); rintro e' wN ⟨rfl, hb⟩; (try have hb := undrew hb); replace HB0 := btr HB0 HB0.size hb; replace HSF := HSF.next hb; replace G1 := G1.below hb G1.lt; (try clear HY); have HY := cells5 G1))))
    go_wp2_with fail
    refine hK.out _ _ ?_ (fun hNew => ?_)
    · (first | exact HY | assumption)
    clear hK K hHeld
    have hHeld := hNew
    clear hNew
    try simp only [Act.put, pz1, pz2, pz3]
    refine wpAnyH_ready (rs := [5]) (by kernel_rfl) (by simp) ?_
    refine AllReadyH.cons (o := ⟨some 18, .call { callee := .value (.func 31), args := #[.tmp 16, .tmp 17], argTypes := #[23, 24] }, 30, "law.go:67", #[⟨3, .data⟩, ⟨4, .data⟩, ⟨2, .chain⟩], none⟩) rfl (fun K hK => ?_) AllReadyH.nil
    go_simp
    (first | (go_at_call 26; go_loud (((with_reducible refine (newF_no _ _ _ _ _ fs _ _ _ (by first | exact HSF | exact SlF.drew_ HSF) HC0.out HC1.out HP).mono ?_); rintro e' wN ⟨rfl, hb⟩; (try have hb := undrew hb); replace HB0 := btr HB0 HB0.size hb; replace HSF := HSF.next hb; replace G1 := G1.below hb G1.lt; (try clear HY); have HY := cells5 G1))) | (go_at_call 31; go_loud (((with_reducible refine (rnew_no _ _ _ _ _ fs _ _ _ (by first | exact HSF | exact SlF.drew_ HSF) HP).mono ?_); rintro e' wN ⟨rfl, hb⟩; (try have hb := undrew hb); replace HB0 := btr HB0 HB0.size hb; replace HSF := HSF.next hb; replace G1 := G1.below hb G1.lt; (try clear HY); have HY := cells5 G1))))
    go_wp2_with fail
    refine hK.out _ _ ?_ (fun hNew => ?_)
    · (first | exact HY | assumption)
    clear hK K hHeld
    have hHeld := hNew
    clear hNew
    try simp only [Act.put, pz1, pz2, pz3]
    refine tk 6 ⟨some 9, .assign (.tmp 15), 29, "law.go:67", #[⟨2, .data⟩, ⟨5, .chain⟩, ⟨0, .phase⟩, ⟨1, .phase⟩, ⟨2, .phase⟩, { on := 3, ground := Ground.textOnly Departure.lateStores }, { on := 4, ground := Ground.textOnly Departure.lateStores }, { on := 5, ground := Ground.textOnly Departure.lateStoresUnsure }], none⟩ ?_; try simp only [Act.put, pz1, pz2, pz3]
    refine tk 7 ⟨some 10, .assign (.tmp 18), 30, "law.go:67", #[⟨5, .data⟩, ⟨6, .chain⟩, ⟨0, .phase⟩, ⟨1, .phase⟩, ⟨2, .phase⟩, ⟨3, .phase⟩, ⟨4, .phase⟩, ⟨5, .phase⟩, ⟨6, .phase⟩], none⟩ ?_; try simp only [Act.put, pz1, pz2, pz3]
    refine wpAnyH_done (by kernel_rfl) ?_ _
    refine NoPanic.normal ?_
    go_wp2_with fail
    refine bodyPost_ret (v := .tuple #[.pointer none, .pointer none, .bool true]) (by simp [results, Try.results7, go_sem]) rfl ⟨Or.inl ⟨rfl, HP.out⟩, (by first | exact HB0 | exact HB0.drew)⟩
  have HP := Lib.hid hpm
  obtain ⟨q1, q2, q3, q4, q5, q6, -⟩ := may_bd (planMay_bd hpm).1
  obtain ⟨p1, p2⟩ := mul_bd (x := a) (y := b) (lo := 8) (hi := 20) (l2 := 4) (h2 := 8) q1 q2 q3 q4 (by omega) (by omega)
  obtain ⟨p3, p4⟩ := mul_bd (x := a * b) (y := c + 16) (lo := 32) (hi := 160) (l2 := 40) (h2 := 80) (by omega) (by omega) (by omega) (by omega) (by omega) (by omega)
  obtain ⟨NX, hNX⟩ : ∃ NX : Nat, (NX : Int) = a * b * (c + 16) := ⟨(a * b * (c + 16)).toNat, by omega⟩
  obtain ⟨NB, hNB⟩ : ∃ NB : Nat, (NB : Int) = a := ⟨a.toNat, by omega⟩
  obtain ⟨RW, hRW⟩ : ∃ RW : Nat, (RW : Int) = c + 16 := ⟨(c + 16).toNat, by omega⟩
  obtain ⟨C, hCC⟩ : ∃ C : Nat, (C : Int) = c := ⟨c.toNat, by omega⟩
  have hc24 : 24 ≤ C := by omega
  have hc64 : C ≤ 64 := by omega
  obtain ⟨Q, hQ⟩ : ∃ Q, C + 16 = Q := ⟨_, rfl⟩
  have HQ := Lib.hid hQ
  have HCC := Lib.hid hCC
  have hNXn : NX = (a * b * (c + 16)).toNat := by omega
  have nx1 : 1 ≤ NX := by omega
  have nx2 : NX ≤ 100000 := by omega
  have nb1 : NB ≤ 1000 := by omega
  have HNX := Lib.hid hNX
  have HNXn := Lib.hid hNXn
  have HNB := Lib.hid hNB
  have HRW := Lib.hid hRW
  clear hNX hNXn hNB hRW p1 p2 p3 p4 hpm q5 q6 hCC hQ
  go_enter Try.func7, Try.ntmps7
  go_upto_region 1 with fail
  refine wp_region_noPanic ?_
  refine wp_region_held_drew (S := (fun w' => w'.cell? ⟨w.heap.size, 0, none⟩ = some (.int .i64 a) ∧ w'.cell? ⟨w.heap.size, 1, none⟩ = some (.int .i64 b) ∧ w'.cell? ⟨w.heap.size, 2, none⟩ = some (.int .i64 c) ∧ w'.cell? ⟨w.heap.size, 3, none⟩ = some (.int .i64 d) ∧ w'.cell? ⟨w.heap.size, 4, none⟩ = some (.int .i64 e))) (by kernel_rfl) ?_ (fun hHeld => ?_)
  · (first | exact HY | assumption)
  refine tk 0 ⟨some 13, .load 23 (.tmp 3), 23, "law.go:67", #[], none⟩ ?_; try simp only [Act.put, pz1, pz2, pz3]
  refine tk 1 ⟨some 14, .move (.tmp 1), 24, "law.go:67", #[], none⟩ ?_; try simp only [Act.put, pz1, pz2, pz3]
  refine tk 3 ⟨some 16, .load 23 (.tmp 3), 23, "law.go:67", #[], none⟩ ?_; try simp only [Act.put, pz1, pz2, pz3]
  refine tk 4 ⟨some 17, .move (.tmp 1), 24, "law.go:67", #[], none⟩ ?_; try simp only [Act.put, pz1, pz2, pz3]
  refine wpAnyH_ready (rs := [2]) (by kernel_rfl) (by simp) ?_
  refine AllReadyH.cons (o := ⟨some 15, .call { callee := .value (.func 26), args := #[.tmp 13, .tmp 14], argTypes := #[23, 24] }, 29, "law.go:67", #[⟨0, .data⟩, ⟨1, .data⟩], none⟩) rfl (fun K hK => ?_) AllReadyH.nil
  go_simp
  (go_at_call 26; go_loud (((with_reducible refine (newF_yes _ _ _ _ _ fs _ _ NX NB _ (by first | exact HSF | exact SlF.drew_ HSF) HC0.out HC1.out (by omega) HP HNX.out HNB.out (by omega) (by omega) (by omega)).mono ?_); rintro e' wN ⟨⟨m, gx, gb, AF, cf, rfl, hC, hm, hgx, hgb⟩, hb⟩; have hszA := Nat.succ_le_of_lt G1.lt; (try have hb := undrew hb); replace HB0 := btr HB0 HB0.size hb; replace HSF := HSF.next hb; replace G1 := G1.below hb G1.lt; (try clear HY); have HY := cells5 G1)))
  go_wp2_with fail
  refine hK.out _ _ ?_ (fun hNew => ?_)
  · (first | exact HY | assumption)
  clear hK K hHeld
  have hHeld := hNew
  clear hNew
  try simp only [Act.put, pz1, pz2, pz3]
  refine wpAnyH_ready (rs := [5]) (by kernel_rfl) (by simp) ?_
  refine AllReadyH.cons (o := ⟨some 18, .call { callee := .value (.func 31), args := #[.tmp 16, .tmp 17], argTypes := #[23, 24] }, 30, "law.go:67", #[⟨3, .data⟩, ⟨4, .data⟩, ⟨2, .chain⟩], none⟩) rfl (fun K hK => ?_) AllReadyH.nil
  go_simp
  (go_at_call 31; go_loud (((with_reducible refine (rnew_yes _ _ _ _ _ fs _ _ _ (by first | exact HSF | exact SlF.drew_ HSF) NB NX RW HNB.out HNXn.out HRW (by omega) HP).mono ?_); rintro e' wN ⟨mR, gB, gN, gW, gD, AF2, cf2, rfl, hR, hb⟩; (try have hb := undrew hb); have hszB := Nat.succ_le_of_lt G1.lt; obtain ⟨L, h⟩ := two_startE hC hR hb; have hLo := two_low (K := w.heap.size) hszA hszB hm hgx hgb hR; (try have hb := undrew hb); replace HB0 := btr HB0 HB0.size hb; replace HSF := HSF.next hb; replace G1 := G1.below hb G1.lt; (try clear HY); have HY := cells5 G1)))
  go_wp2_with fail
  refine hK.out _ _ ?_ (fun hNew => ?_)
  · (first | exact HY | assumption)
  clear hK K hHeld
  have hHeld := hNew
  clear hNew
  try simp only [Act.put, pz1, pz2, pz3]
  refine tk 6 ⟨some 9, .assign (.tmp 15), 29, "law.go:67", #[⟨2, .data⟩, ⟨5, .chain⟩, ⟨0, .phase⟩, ⟨1, .phase⟩, ⟨2, .phase⟩, { on := 3, ground := Ground.textOnly Departure.lateStores }, { on := 4, ground := Ground.textOnly Departure.lateStores }, { on := 5, ground := Ground.textOnly Departure.lateStoresUnsure }], none⟩ ?_; try simp only [Act.put, pz1, pz2, pz3]
  refine tk 7 ⟨some 10, .assign (.tmp 18), 30, "law.go:67", #[⟨5, .data⟩, ⟨6, .chain⟩, ⟨0, .phase⟩, ⟨1, .phase⟩, ⟨2, .phase⟩, ⟨3, .phase⟩, ⟨4, .phase⟩, ⟨5, .phase⟩, ⟨6, .phase⟩], none⟩ ?_; try simp only [Act.put, pz1, pz2, pz3]
  refine wpAnyH_done (by kernel_rfl) ?_ _
  refine NoPanic.normal ?_
  clear hHeld
  obtain ⟨wm, hwm⟩ : ∃ V : World, V = wN := ⟨_, rfl⟩
  rw [← hwm] at h HB0 G1 HY ⊢
  clear hwm hb hm hgx hgb hszA hszB hC hR HSF
  have hnb : ¬ (twB m gx gb mR gB gN gW gD) w.heap.size := fun e => by have := hLo _ e; omega
  have HT : Tch (twB m gx gb mR gB gN gW gD) wm wm := Tch.refl _
  have HK0 : Hid (Good (ChS.new NX NB) 20) := Lib.hid (good_new NX NB)
  go_wp2_with fail
  go_loopw [11] (fun s11 wr => ∃ (i : Nat) (S : ChS), i ≤ len ∧ s11 = .int .i64 (i : Int) ∧ Two wr L m gx gb AF fs.length cf mR gB gN gW gD AF2 fs.length cf2 a b c d e fs S S ∧ Hid (Good S (20 + 3 * (i : Int)) ∧ Liv S) ∧ Tch (twB m gx gb mR gB gN gW gD) wm wr) (fun s11 _ => len - (iV s11).toNat)
  case atStart => exact ⟨0, _, Nat.zero_le _, rfl, (by first | exact h | exact h.drew), Lib.hid ⟨HK0.out.mono (by omega), Liv.new NX NB⟩, (by first | exact HT | exact HT.like)⟩
  case round =>
    clear h HK0 HT HY
    obtain ⟨i, S, hi, rfl, h, HK, HT⟩ := hrel
    have GR := HT.blk G1 hnb
    have HY := cells5 GR
    by_cases hlt : i < len
    · have i1 : (i : Int) < (len : Int) := by omega
      have i0 : (0 : Int) ≤ (i : Int) := by omega
      obtain ⟨g, off, rfl, hgl, hcl⟩ := hsl.at_ (by have := HLen.out; omega)
      have hget : es[i]? = some (es[i]'(by have := HLen.out; omega)) := List.getElem?_eq_getElem _
      obtain ⟨px, py, nn, k, p, s, f, torn, he, hnn⟩ := put_cells (hfl _ (List.getElem_mem (h := by have := HLen.out; omega)) : Flat _ (es[i]'(by have := HLen.out; omega)))
      have hc8 := hcl i _ hget
      rw [he] at hc8
      have hw0 : w.cell? ⟨g, off + i * 8, none⟩ = some (.int .i64 px) := hc8 0 _ rfl
      have hw1 : w.cell? ⟨g, off + i * 8 + 1, none⟩ = some (.int .i64 py) := hc8 1 _ rfl
      have hw2 : w.cell? ⟨g, off + i * 8 + 2, none⟩ = some (.int .u8 (nn : Int)) := hc8 2 _ rfl
      have hw3 : w.cell? ⟨g, off + i * 8 + 3, none⟩ = some (.int .i64 k) := hc8 3 _ rfl
      have hw4 : w.cell? ⟨g, off + i * 8 + 4, none⟩ = some (.int .i64 p) := hc8 4 _ rfl
      have hw5 : w.cell? ⟨g, off + i * 8 + 5, none⟩ = some (.int .i64 s) := hc8 5 _ rfl
      have hw6 : w.cell? ⟨g, off + i * 8 + 6, none⟩ = some (.int .i64 f) := hc8 6 _ rfl
      have hw7 : w.cell? ⟨g, off + i * 8 + 7, none⟩ = some (.int .i64 torn) := hc8 7 _ rfl
      have c0 := (World.cell?_of_block (w := w) ((HT.far g (by have := HB0.size; omega) (fun e => by have := hLo g e; omega)).trans (HB0.block g hgl))).trans hw0
      have c1 := (World.cell?_of_block (w := w) ((HT.far g (by have := HB0.size; omega) (fun e => by have := hLo g e; omega)).trans (HB0.block g hgl))).trans hw1
      have c2 := (World.cell?_of_block (w := w) ((HT.far g (by have := HB0.size; omega) (fun e => by have := hLo g e; omega)).trans (HB0.block g hgl))).trans hw2
      have c3 := (World.cell?_of_block (w := w) ((HT.far g (by have := HB0.size; omega) (fun e => by have := hLo g e; omega)).trans (HB0.block g hgl))).trans hw3
      have c4 := (World.cell?_of_block (w := w) ((HT.far g (by have := HB0.size; omega) (fun e => by have := hLo g e; omega)).trans (HB0.block g hgl))).trans hw4
      have c5 := (World.cell?_of_block (w := w) ((HT.far g (by have := HB0.size; omega) (fun e => by have := hLo g e; omega)).trans (HB0.block g hgl))).trans hw5
      have c6 := (World.cell?_of_block (w := w) ((HT.far g (by have := HB0.size; omega) (fun e => by have := hLo g e; omega)).trans (HB0.block g hgl))).trans hw6
      have c7 := (World.cell?_of_block (w := w) ((HT.far g (by have := HB0.size; omega) (fun e => by have := hLo g e; omega)).trans (HB0.block g hgl))).trans hw7
      have hltw := h.lt
      clear hcl hc8 hget he
      go_upto_region 7 with fail
      refine wp_region_noPanic ?_
      refine wp_region_held_drew (S := (fun w' => (w'.cell? ⟨w.heap.size, 0, none⟩ = some (.int .i64 a) ∧ w'.cell? ⟨w.heap.size, 1, none⟩ = some (.int .i64 b) ∧ w'.cell? ⟨w.heap.size, 2, none⟩ = some (.int .i64 c) ∧ w'.cell? ⟨w.heap.size, 3, none⟩ = some (.int .i64 d) ∧ w'.cell? ⟨w.heap.size, 4, none⟩ = some (.int .i64 e)) ∧ w'.cell? ⟨g, off + i * 8, none⟩ = some (.int .i64 px) ∧ w'.cell? ⟨g, off + i * 8 + 1, none⟩ = some (.int .i64 py) ∧ w'.cell? ⟨g, off + i * 8 + 2, none⟩ = some (.int .u8 (nn : Int)) ∧ w'.cell? ⟨g, off + i * 8 + 3, none⟩ = some (.int .i64 k) ∧ w'.cell? ⟨g, off + i * 8 + 4, none⟩ = some (.int .i64 p) ∧ w'.cell? ⟨g, off + i * 8 + 5, none⟩ = some (.int .i64 s) ∧ w'.cell? ⟨g, off + i * 8 + 6, none⟩ = some (.int .i64 f) ∧ w'.cell? ⟨g, off + i * 8 + 7, none⟩ = some (.int .i64 torn))) (by kernel_rfl) ?_ (fun hHeld => ?_)
      · (first | exact ⟨HY, c0, c1, c2, c3, c4, c5, c6, c7⟩ | exact ⟨HYN, d0, d1, d2, d3, d4, d5, d6, d7⟩ | assumption)
      refine tk 0 ⟨some 36, .load 23 (.tmp 3), 23, "law.go:72", #[], none⟩ ?_; try simp only [Act.put, pz1, pz2, pz3]
      refine tk 1 ⟨some 37, .move (.tmp 2), 25, "law.go:72", #[], none⟩ ?_; try simp only [Act.put, pz1, pz2, pz3]
      refine tk 2 ⟨some 38, .move (.tmp 11), 3, "law.go:72", #[], none⟩ ?_; try simp only [Act.put, pz1, pz2, pz3]
      refine tk 3 ⟨some 39, .indexAddr 25 (.tmp 37) (.tmp 38), 0, "law.go:72", #[⟨1, .data⟩, ⟨2, .data⟩], none⟩ ?_; try simp only [Act.put, pz1, pz2, pz3]
      refine tk 4 ⟨some 40, .load 80 (.tmp 39), 80, "law.go:72", #[⟨3, .data⟩], none⟩ ?_; try simp only [Act.put, pz1, pz2, pz3]
      refine wpAnyH_ready (rs := [5]) (by kernel_rfl) (by simp) ?_
      refine AllReadyH.cons (o := ⟨some 41, .call { callee := .value (.func 32), args := #[.tmp 36, .tmp 40], argTypes := #[23, 80] }, 38, "law.go:72", #[⟨0, .data⟩, ⟨4, .data⟩], none⟩) rfl (fun K hK => ?_) AllReadyH.nil
      go_simp
      (go_at_call 32; go_loud (((with_reducible refine (raw_any a b c d e px py k p s f torn nn C Q _ HCC.out hc24 hc64 hnn HQ.out).mono ?_); rintro e' wN ⟨⟨bs, gA, cA, rfl, hbl, hb8, hrA, hgA, hcA, hcA2⟩, hb⟩; (try have hb := undrew hb); have hgA2 : wr.heap.size ≤ gA := hgA; replace h := h.below hb; replace HT := HT.then hb; replace GR := GR.below hb GR.lt; have HYN := cells5 GR; have d0 := (World.cell?_of_block (w := w) ((HT.far g (by have := HB0.size; omega) (fun e => by have := hLo g e; omega)).trans (HB0.block g hgl))).trans hw0; have d1 := (World.cell?_of_block (w := w) ((HT.far g (by have := HB0.size; omega) (fun e => by have := hLo g e; omega)).trans (HB0.block g hgl))).trans hw1; have d2 := (World.cell?_of_block (w := w) ((HT.far g (by have := HB0.size; omega) (fun e => by have := hLo g e; omega)).trans (HB0.block g hgl))).trans hw2; have d3 := (World.cell?_of_block (w := w) ((HT.far g (by have := HB0.size; omega) (fun e => by have := hLo g e; omega)).trans (HB0.block g hgl))).trans hw3; have d4 := (World.cell?_of_block (w := w) ((HT.far g (by have := HB0.size; omega) (fun e => by have := hLo g e; omega)).trans (HB0.block g hgl))).trans hw4; have d5 := (World.cell?_of_block (w := w) ((HT.far g (by have := HB0.size; omega) (fun e => by have := hLo g e; omega)).trans (HB0.block g hgl))).trans hw5; have d6 := (World.cell?_of_block (w := w) ((HT.far g (by have := HB0.size; omega) (fun e => by have := hLo g e; omega)).trans (HB0.block g hgl))).trans hw6; have d7 := (World.cell?_of_block (w := w) ((HT.far g (by have := HB0.size; omega) (fun e => by have := hLo g e; omega)).trans (HB0.block g hgl))).trans hw7)))
      go_wp2_with fail
      refine hK.out _ _ ?_ (fun hNew => ?_)
      · (first | exact ⟨HY, c0, c1, c2, c3, c4, c5, c6, c7⟩ | exact ⟨HYN, d0, d1, d2, d3, d4, d5, d6, d7⟩ | assumption)
      clear hK K hHeld
      have hHeld := hNew
      clear hNew
      try simp only [Act.put, pz1, pz2, pz3]
      refine tk 6 ⟨some 12, .assign (.tmp 41), 38, "law.go:72", #[⟨5, .data⟩, ⟨5, .chain⟩, ⟨0, .phase⟩, ⟨1, .phase⟩, ⟨2, .phase⟩, ⟨3, .phase⟩, ⟨4, .phase⟩, ⟨5, .phase⟩], none⟩ ?_; try simp only [Act.put, pz1, pz2, pz3]
      refine wpAnyH_done (by kernel_rfl) ?_ _
      refine NoPanic.normal ?_
      clear hHeld
      have HnA : ¬ chB m gx gb gA ∧ ¬ rfB mR gB gN gW gD gA := ⟨fun e => by have := hltw gA (Or.inl e); omega, fun e => by have := hltw gA (Or.inr e); omega⟩
      obtain ⟨Z, hZ⟩ : ∃ Z, S.progZ a b c fs px py Q = Z := ⟨_, rfl⟩
      obtain ⟨S2, hS2⟩ : ∃ S2, S.progS a b c fs px py bs = S2 := ⟨_, rfl⟩
      have HK2 : Hid (Good S2 (23 + 3 * (i : Int)) ∧ Liv S2) := Lib.hid ⟨by rw [← hS2]; exact (HK.out.1.prog h.cl.chip px py bs).mono (by omega), by rw [← hS2]; exact HK.out.2.prog a b c fs px py hb8⟩
      have HZ := Lib.hid (And.intro hZ hS2)
      have HBL := Lib.hid hbl
      clear hZ hS2 hbl hb hgA hgA2 hltw
      go_upto_region 8 with fail
      refine wp_region_noPanic ?_
      refine wp_region_held_drew (S := (fun w' => w'.cell? ⟨g, off + i * 8, none⟩ = some (.int .i64 px) ∧ w'.cell? ⟨g, off + i * 8 + 1, none⟩ = some (.int .i64 py))) (by kernel_rfl) ?_ (fun hHeld => ?_)
      · (first | exact ⟨d0, d1⟩ | assumption)
      refine tk 0 ⟨some 42, .move (.tmp 9), 29, "law.go:73", #[], none⟩ ?_; try simp only [Act.put, pz1, pz2, pz3]
      refine tk 1 ⟨some 43, .move (.tmp 2), 25, "law.go:73", #[], none⟩ ?_; try simp only [Act.put, pz1, pz2, pz3]
      refine tk 2 ⟨some 44, .move (.tmp 11), 3, "law.go:73", #[], none⟩ ?_; try simp only [Act.put, pz1, pz2, pz3]
      refine tk 3 ⟨some 45, .indexAddr 25 (.tmp 43) (.tmp 44), 0, "law.go:73", #[⟨1, .data⟩, ⟨2, .data⟩], none⟩ ?_; try simp only [Act.put, pz1, pz2, pz3]
      refine tk 4 ⟨some 46, .fieldAddr 80 (.tmp 45) 0, 0, "law.go:73", #[⟨3, .data⟩], none⟩ ?_; try simp only [Act.put, pz1, pz2, pz3]
      refine tk 5 ⟨some 47, .load 27 (.tmp 46), 27, "law.go:73", #[⟨4, .data⟩], none⟩ ?_; try simp only [Act.put, pz1, pz2, pz3]
      refine tk 6 ⟨some 48, .move (.tmp 12), 38, "law.go:73", #[], none⟩ ?_; try simp only [Act.put, pz1, pz2, pz3]
      refine tk 9 ⟨some 51, .move (.tmp 10), 30, "law.go:73", #[], none⟩ ?_; try simp only [Act.put, pz1, pz2, pz3]
      refine tk 10 ⟨some 52, .move (.tmp 2), 25, "law.go:73", #[], none⟩ ?_; try simp only [Act.put, pz1, pz2, pz3]
      refine tk 11 ⟨some 53, .move (.tmp 11), 3, "law.go:73", #[], none⟩ ?_; try simp only [Act.put, pz1, pz2, pz3]
      refine tk 12 ⟨some 54, .indexAddr 25 (.tmp 52) (.tmp 53), 0, "law.go:73", #[⟨10, .data⟩, ⟨11, .data⟩], none⟩ ?_; try simp only [Act.put, pz1, pz2, pz3]
      refine tk 13 ⟨some 55, .fieldAddr 80 (.tmp 54) 0, 0, "law.go:73", #[⟨12, .data⟩], none⟩ ?_; try simp only [Act.put, pz1, pz2, pz3]
      refine tk 14 ⟨some 56, .load 27 (.tmp 55), 27, "law.go:73", #[⟨13, .data⟩], none⟩ ?_; try simp only [Act.put, pz1, pz2, pz3]
      refine tk 15 ⟨some 57, .move (.tmp 12), 38, "law.go:73", #[], none⟩ ?_; try simp only [Act.put, pz1, pz2, pz3]
      refine wpAnyH_ready (rs := [7]) (by kernel_rfl) (by simp) ?_
      refine AllReadyH.cons (o := ⟨some 49, .call { callee := .value (.func 30), args := #[.tmp 42, .tmp 47, .tmp 48], argTypes := #[29, 27, 38] }, 33, "law.go:73", #[⟨0, .data⟩, ⟨5, .data⟩, ⟨6, .data⟩], none⟩) rfl (fun K hK => ?_) AllReadyH.nil
      go_simp
      (first | (go_at_call 12; go_loud (((with_reducible refine (num_any _ _).mono ?_); rintro e' wN ⟨rfl, rfl⟩; skip))) | (go_at_call 30; go_loud (((with_reducible refine (tw_progR L m gx gb AF fs.length cf mR gB gN gW gD AF2 fs.length cf2 a b c d e fs px py bs gA cA Q (20 + 3 * (i : Int)) _ S S (by first | exact h | exact Two.drew h) HK.out.1.fine (by omega) HBL.out (by first | exact hrA | exact RowT.like_ hrA) HnA.1 hcA hcA2 Z S2 HZ).mono ?_); rintro e' wN ⟨rfl, h, hT⟩; replace HT := (by first | exact HT.trans (tw_c hT) | exact HT.trans (tw_c hT.like0)); have hrA := hrA.keep (hT.far gA hrA.lt HnA.1); have d0 := (World.cell?_of_block (w := w) ((HT.far g (by have := HB0.size; omega) (fun e => by have := hLo g e; omega)).trans (HB0.block g hgl))).trans hw0; have d1 := (World.cell?_of_block (w := w) ((HT.far g (by have := HB0.size; omega) (fun e => by have := hLo g e; omega)).trans (HB0.block g hgl))).trans hw1))) | (go_at_call 33; go_loud (((with_reducible refine (tw_rprog L m gx gb AF fs.length cf mR gB gN gW gD AF2 fs.length cf2 a b c d e fs px py bs gA cA Q (20 + 3 * (i : Int)) _ S2 S (by first | exact h | exact Two.drew h) HK.out.1.fine (by omega) HK.out.1.wt HBL.out (by first | exact hrA | exact RowT.like_ hrA) hcA HnA.2 Z S2 HZ).mono ?_); rintro e' wN ⟨rfl, h, hT, -⟩; replace HT := (by first | exact HT.trans (tw_f hT) | exact HT.trans (tw_f hT.like0)); have d0 := (World.cell?_of_block (w := w) ((HT.far g (by have := HB0.size; omega) (fun e => by have := hLo g e; omega)).trans (HB0.block g hgl))).trans hw0; have d1 := (World.cell?_of_block (w := w) ((HT.far g (by have := HB0.size; omega) (fun e => by have := hLo g e; omega)).trans (HB0.block g hgl))).trans hw1))))
      go_wp2_with fail
      refine hK.out _ _ ?_ (fun hNew => ?_)
      · (first | exact ⟨d0, d1⟩ | assumption)
      clear hK K hHeld
      have hHeld := hNew
      clear hNew
      try simp only [Act.put, pz1, pz2, pz3]
      refine wpAnyH_ready (rs := [8]) (by kernel_rfl) (by simp) ?_
      refine AllReadyH.cons (o := ⟨some 50, .call { callee := .value (.func 12), args := #[.tmp 49], argTypes := #[33] }, 3, "law.go:73", #[⟨7, .data⟩, ⟨7, .chain⟩], none⟩) rfl (fun K hK => ?_) AllReadyH.nil
      go_simp
      (first | (go_at_call 12; go_loud (((with_reducible refine (num_any _ _).mono ?_); rintro e' wN ⟨rfl, rfl⟩; skip))) | (go_at_call 30; go_loud (((with_reducible refine (tw_progR L m gx gb AF fs.length cf mR gB gN gW gD AF2 fs.length cf2 a b c d e fs px py bs gA cA Q (20 + 3 * (i : Int)) _ S S (by first | exact h | exact Two.drew h) HK.out.1.fine (by omega) HBL.out (by first | exact hrA | exact RowT.like_ hrA) HnA.1 hcA hcA2 Z S2 HZ).mono ?_); rintro e' wN ⟨rfl, h, hT⟩; replace HT := (by first | exact HT.trans (tw_c hT) | exact HT.trans (tw_c hT.like0)); have hrA := hrA.keep (hT.far gA hrA.lt HnA.1); have d0 := (World.cell?_of_block (w := w) ((HT.far g (by have := HB0.size; omega) (fun e => by have := hLo g e; omega)).trans (HB0.block g hgl))).trans hw0; have d1 := (World.cell?_of_block (w := w) ((HT.far g (by have := HB0.size; omega) (fun e => by have := hLo g e; omega)).trans (HB0.block g hgl))).trans hw1))) | (go_at_call 33; go_loud (((with_reducible refine (tw_rprog L m gx gb AF fs.length cf mR gB gN gW gD AF2 fs.length cf2 a b c d e fs px py bs gA cA Q (20 + 3 * (i : Int)) _ S2 S (by first | exact h | exact Two.drew h) HK.out.1.fine (by omega) HK.out.1.wt HBL.out (by first | exact hrA | exact RowT.like_ hrA) hcA HnA.2 Z S2 HZ).mono ?_); rintro e' wN ⟨rfl, h, hT, -⟩; replace HT := (by first | exact HT.trans (tw_f hT) | exact HT.trans (tw_f hT.like0)); have d0 := (World.cell?_of_block (w := w) ((HT.far g (by have := HB0.size; omega) (fun e => by have := hLo g e; omega)).trans (HB0.block g hgl))).trans hw0; have d1 := (World.cell?_of_block (w := w) ((HT.far g (by have := HB0.size; omega) (fun e => by have := hLo g e; omega)).trans (HB0.block g hgl))).trans hw1))))
      go_wp2_with fail
      refine hK.out _ _ ?_ (fun hNew => ?_)
      · (first | exact ⟨d0, d1⟩ | assumption)
      clear hK K hHeld
      have hHeld := hNew
      clear hNew
      try simp only [Act.put, pz1, pz2, pz3]
      refine wpAnyH_ready (rs := [16]) (by kernel_rfl) (by simp) ?_
      refine AllReadyH.cons (o := ⟨some 58, .call { callee := .value (.func 33), args := #[.tmp 51, .tmp 56, .tmp 57], argTypes := #[30, 27, 38] }, 3, "law.go:73", #[⟨9, .data⟩, ⟨14, .data⟩, ⟨15, .data⟩, ⟨8, .chain⟩], none⟩) rfl (fun K hK => ?_) AllReadyH.nil
      go_simp
      (first | (go_at_call 12; go_loud (((with_reducible refine (num_any _ _).mono ?_); rintro e' wN ⟨rfl, rfl⟩; skip))) | (go_at_call 30; go_loud (((with_reducible refine (tw_progR L m gx gb AF fs.length cf mR gB gN gW gD AF2 fs.length cf2 a b c d e fs px py bs gA cA Q (20 + 3 * (i : Int)) _ S S (by first | exact h | exact Two.drew h) HK.out.1.fine (by omega) HBL.out (by first | exact hrA | exact RowT.like_ hrA) HnA.1 hcA hcA2 Z S2 HZ).mono ?_); rintro e' wN ⟨rfl, h, hT⟩; replace HT := (by first | exact HT.trans (tw_c hT) | exact HT.trans (tw_c hT.like0)); have hrA := hrA.keep (hT.far gA hrA.lt HnA.1); have d0 := (World.cell?_of_block (w := w) ((HT.far g (by have := HB0.size; omega) (fun e => by have := hLo g e; omega)).trans (HB0.block g hgl))).trans hw0; have d1 := (World.cell?_of_block (w := w) ((HT.far g (by have := HB0.size; omega) (fun e => by have := hLo g e; omega)).trans (HB0.block g hgl))).trans hw1))) | (go_at_call 33; go_loud (((with_reducible refine (tw_rprog L m gx gb AF fs.length cf mR gB gN gW gD AF2 fs.length cf2 a b c d e fs px py bs gA cA Q (20 + 3 * (i : Int)) _ S2 S (by first | exact h | exact Two.drew h) HK.out.1.fine (by omega) HK.out.1.wt HBL.out (by first | exact hrA | exact RowT.like_ hrA) hcA HnA.2 Z S2 HZ).mono ?_); rintro e' wN ⟨rfl, h, hT, -⟩; replace HT := (by first | exact HT.trans (tw_f hT) | exact HT.trans (tw_f hT.like0)); have d0 := (World.cell?_of_block (w := w) ((HT.far g (by have := HB0.size; omega) (fun e => by have := hLo g e; omega)).trans (HB0.block g hgl))).trans hw0; have d1 := (World.cell?_of_block (w := w) ((HT.far g (by have := HB0.size; omega) (fun e => by have := hLo g e; omega)).trans (HB0.block g hgl))).trans hw1))))
      go_wp2_with fail
      refine hK.out _ _ ?_ (fun hNew => ?_)
      · (first | exact ⟨d0, d1⟩ | assumption)
      clear hK K hHeld
      have hHeld := hNew
      clear hNew
      try simp only [Act.put, pz1, pz2, pz3]
      refine tk 17 ⟨some 59, .binOp .neq 3 (.tmp 50) (.tmp 58) 3, 4, "law.go:73", #[⟨8, .data⟩, ⟨16, .data⟩], none⟩ ?_; try simp only [Act.put, pz1, pz2, pz3]
      refine wpAnyH_done (by kernel_rfl) ?_ _
      refine NoPanic.normal ?_
      clear hHeld
      go_wp2_with fail
      exact ⟨⟨i + 1, S2, by omega, by go_num, h, Lib.hid ⟨HK2.out.1.mono (by omega), HK2.out.2⟩, HT⟩, by simp [iV]; omega⟩
      
    · have hil : i = len := by omega
      subst hil
      go_wp2_with fail
      refine bodyPost_ret (v := .tuple #[.pointer (some ⟨m, 0, none⟩), .pointer (some ⟨mR, 0, none⟩), .bool true]) (by simp [results, Try.results7, go_sem]) rfl ⟨Or.inr ⟨L, m, gx, gb, AF, cf, mR, gB, gN, gW, gD, AF2, cf2, S, rfl, h, HK.out.1, HK.out.2, hLo⟩, HB0.trans (HT.below HB0.size (fun g hg => Nat.le_of_lt (hLo g hg)))⟩
end Go.Proofs.Ytcpniplfkillbaa
