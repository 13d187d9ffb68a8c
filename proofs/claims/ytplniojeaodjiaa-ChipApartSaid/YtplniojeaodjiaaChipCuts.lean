/- ChipCuts: the walk. -/
import Derived.Test.YtplniojeaodjiaaChV
import Derived.Test.YtplniojeaodjiaaChipOnce
namespace Go.Proofs.Ytplniojeaodjiaa
open Go.ChangeShapes Go.WideShapes Go.ChangeAt Go.RowKit
set_option linter.unusedSimpArgs false
set_option linter.unusedVariables false

theorem cells3 {w : World} {g : Nat} {t : TypeId} {u0 u1 u2 : Value} (h : Blk w g t #[u0, u1, u2]) : w.cell? ⟨g, 0, none⟩ = some u0 ∧ w.cell? ⟨g, 1, none⟩ = some u1 ∧ w.cell? ⟨g, 2, none⟩ = some u2 := ⟨h.cell_ 0, h.cell_ 1, h.cell_ 2⟩
theorem ChipW.other {w w' : World} {m gx gb : Nat} {a b c d e : Int} {s : ChS} (h : ChipW w m gx gb none 0 0 a b c d e [] s) {S : Nat → Prop} (hT : Tch S w w') (h1 : ¬ S m) (h2 : ¬ S gx) (h3 : ¬ S gb) : ChipW w' m gx gb none 0 0 a b c d e [] s := by
  have hl := h.lt
  obtain ⟨⟨cx, cb, NX, NB, hX, hN, hcx, hB⟩, r1, r2, r3, n1, n2, n3, l1, l2, l3, l4⟩ := h
  exact ⟨⟨cx, cb, NX, NB, hX, hN, hcx, (hT.far _ hl.1 h1).trans hB⟩, r1.keep (hT.far _ hl.2.1 h2), r2.keep (hT.far _ hl.2.2 h3), Or.inl rfl, n1, n2, n3, l1, l2, l3, l4⟩
/-- A chip whose cut waits: so many operations, what stands on the first page of block 1, what on those of block 2. -/
structure Waits (s : ChS) (b c : Int) (k Q f j : Nat) : Prop where
  on : s.on = true
  armed : s.armed = true
  turn : s.turn = 2 + (k : Int)
  ops : s.ops = (j : Int)
  cuts : s.cuts = 0
  cby : s.cby = (Q : Int)
  fill : s.fill = f
  bnd : s.Bnd (50 + 3 * (j : Int))
  k0 : s.k ((2 : Nat) : Int) 0 = (j : Int) - 1
  p1 : ∀ N RW : Nat, (RW : Int) = c + 16 → (N : Int) = b → s.pageOf N RW = bytesL 3 RW
  p2 : ∀ N l RW : Nat, (RW : Int) = c + 16 → j ≤ l + 1 → (l : Int) < b → (N : Int) = 2 * b + (l : Int) → s.pageOf N RW = List.replicate RW 255
theorem Waits.go {s : ChS} {b c : Int} {k Q f j : Nat} (h : Waits s b c k Q f j) (hj : j ≤ k) : Go s (50 + 3 * (j : Int)) :=
  ⟨h.on, by unfold ChS.cutB; rw [h.turn, h.ops, decide_eq_false (by omega)]; simp, h.bnd⟩
theorem Waits.cut {s : ChS} {b c : Int} {k Q f j : Nat} (h : Waits s b c k Q f j) (hj : j = k + 1) : GoCut s (50 + 3 * (j : Int)) :=
  ⟨h.on, by unfold ChS.cutB; rw [h.armed, h.turn, h.ops, decide_eq_true (by omega)]; rfl, h.bnd⟩
theorem Waits.next {s S : ChS} {b c : Int} {k Q f j N RW : Nat} {bs : List Nat} (h : Waits s b c k Q f j) (ht : Tickd s S) (hp : Progd s S (50 + 3 * (j : Int)) 2 N RW bs) (hj : 1 ≤ j) (hjb : (j : Int) - 1 < b) (hrw : (RW : Int) = c + 16) (hN : (N : Int) = 2 * b + ((j : Int) - 1)) : Waits S b c k Q f (j + 1) := by
  refine ⟨by rw [ht.on]; exact h.on, by rw [ht.armed]; exact h.armed, by rw [ht.turn]; exact h.turn, by rw [ht.ops, h.ops]; omega, by rw [ht.cuts]; exact h.cuts, by rw [ht.cby]; exact h.cby, by rw [ht.fill]; exact h.fill, bnd_mono hp.bnd (by omega), ?_, fun N' RW' h1 h2 => ?_, fun N' l RW' h1 h2 h3 h4 => ?_⟩
  · rw [hp.k0, h.k0]
    omega
  · obtain rfl : RW' = RW := by omega
    rw [hp.po N' (by omega)]
    exact h.p1 N' RW' h1 h2
  · obtain rfl : RW' = RW := by omega
    rw [hp.po N' (by omega)]
    exact h.p2 N' l RW' h1 (by omega) h3 h4
/-- What is there behind the cut. -/
structure Over (s : ChS) (b c : Int) (k : Nat) (PG : List Nat) : Prop where
  on : s.on = false
  armed : s.armed = false
  ops : s.ops = 1 + (k : Int) + 1
  cuts : s.cuts = 1
  bnd : s.Bnd 200
  p1 : ∀ N RW : Nat, (RW : Int) = c + 16 → (N : Int) = b → s.pageOf N RW = bytesL 3 RW
  p2 : ∀ N RW : Nat, (RW : Int) = c + 16 → (N : Int) = 2 * b + (k : Int) → s.pageOf N RW = PG
theorem Over.erased {s S : ChS} {b c : Int} {k Q f j RW : Nat} (h : Waits s b c k Q f j) (hj : j = k + 1) (ht : Cutd s S) (hp : Wiped s S (50 + 3 * (j : Int)) b c 2 s.fill) (hk : (k : Int) < b - 1) (hb : b ≤ 8) (hrw : (RW : Int) = c + 16) : Over S b c k (List.replicate RW f) := by
  refine ⟨ht.on, ht.armed, by rw [ht.ops, h.ops]; omega, by rw [ht.cuts, h.cuts]; rfl, bnd_mono hp.bnd (by omega), fun N RW' h1 h2 => ?_, fun N RW' h1 h2 => ?_⟩
  · obtain rfl : RW' = RW := by omega
    rw [hp.po 1 0 RW' N (by omega) h1 (by omega) (by omega)]
    exact h.p1 N RW' h1 h2
  · obtain rfl : RW' = RW := by omega
    rw [hp.pg k RW' N h1 (by omega) (by omega), h.fill]
theorem Over.put {s S : ChS} {b c : Int} {k Q f j N RW : Nat} (h : Waits s b c k Q f j) (hj : j = k + 1) (ht : Cutd s S) (hp : Progd s S (50 + 3 * (j : Int)) 2 N RW ((bytesL 5 RW).take (min RW s.cby.toNat) ++ (s.pageOf N RW).drop (min RW s.cby.toNat))) (hk : (k : Int) < b - 1) (hb : b ≤ 8) (hrw : (RW : Int) = c + 16) (hN : (N : Int) = 2 * b + (k : Int)) : Over S b c k ((bytesL 5 RW).take (min RW Q) ++ (List.replicate RW 255).drop (min RW Q)) := by
  have e1 := h.p2 N k RW hrw (by omega) (by omega) hN
  rw [e1, h.cby, Int.toNat_natCast] at hp
  refine ⟨ht.on, ht.armed, by rw [ht.ops, h.ops]; omega, by rw [ht.cuts, h.cuts]; rfl, bnd_mono hp.bnd (by omega), fun N' RW' h1 h2 => ?_, fun N' RW' h1 h2 => ?_⟩
  · obtain rfl : RW' = RW := by omega
    rw [hp.po N' (by omega)]
    exact h.p1 N' RW' h1 h2
  · obtain rfl : RW' = RW := by omega
    obtain rfl : N' = N := by omega
    exact hp.pg
structure Back (s : ChS) (b c : Int) (k : Nat) (PG : List Nat) : Prop where
  on : s.on = true
  armed : s.armed = false
  cuts : s.cuts = 1
  bnd : s.Bnd 300
  p1 : ∀ N RW : Nat, (RW : Int) = c + 16 → (N : Int) = b → s.pageOf N RW = bytesL 3 RW
  p2 : ∀ N RW : Nat, (RW : Int) = c + 16 → (N : Int) = 2 * b + (k : Int) → s.pageOf N RW = PG
theorem Back.go {s : ChS} {b c : Int} {k : Nat} {PG : List Nat} (h : Back s b c k PG) : Go s 300 := ⟨h.on, unarmed h.armed, h.bnd⟩
theorem Back.tick {s : ChS} {b c : Int} {k : Nat} {PG : List Nat} (h : Back s b c k PG) (hb : s.ops + 1 ≤ 300 := by omega) : Back { s with ops := s.ops + 1 } b c k PG :=
  ⟨h.on, h.armed, h.cuts, ⟨by have := h.bnd.o0; dsimp only; omega, hb, h.bnd.c0, h.bnd.c1, h.bnd.k0, h.bnd.k1⟩, h.p1, h.p2⟩
theorem on_z (m gx gb : Nat) (a b c d e : Int) (z : Bool) (w : World) (s : ChS) (hC : ChipW w m gx gb none 0 0 a b c d e [] s) (hz : s.on = z) : Calls Try.prog 25 #[.pointer (some ⟨m, 0, none⟩)] w fun e' w' => e' = .returned (.bool z) ∧ w = w' := by
  have := on_any m gx gb none 0 0 a b c d e [] w s hC
  rwa [hz] at this
theorem ops_z (m gx gb : Nat) (a b c d e : Int) (z : Int) (w : World) (s : ChS) (hC : ChipW w m gx gb none 0 0 a b c d e [] s) (hz : s.ops = z) : Calls Try.prog 26 #[.pointer (some ⟨m, 0, none⟩)] w fun e' w' => e' = .returned (.int .i64 z) ∧ w = w' := by
  have := ops_any m gx gb none 0 0 a b c d e [] w s hC
  rwa [hz] at this
theorem cuts_z (m gx gb : Nat) (a b c d e : Int) (z : Int) (w : World) (s : ChS) (hC : ChipW w m gx gb none 0 0 a b c d e [] s) (hz : s.cuts = z) : Calls Try.prog 28 #[.pointer (some ⟨m, 0, none⟩)] w fun e' w' => e' = .returned (.int .i64 z) ∧ w = w' := by
  have := cuts_any m gx gb none 0 0 a b c d e [] w s hC
  rwa [hz] at this
theorem boot_over (m gx gb : Nat) (a b c d e : Int) (k : Nat) (PG : List Nat) (w : World) (s : ChS) (hC : ChipW w m gx gb none 0 0 a b c d e [] s) (h : Over s b c k PG) : Calls Try.prog 27 #[.pointer (some ⟨m, 0, none⟩)] w fun e' w' => e' = .returned (.int .i64 0) ∧ (∃ S, ChipW w' m gx gb none 0 0 a b c d e [] S ∧ Hid (Back S b c k PG ∧ S.ops ≤ 200)) ∧ Tch (chB m gx gb) w w' := by
  refine (boot_any m gx gb none 0 0 a b c d e [] w s hC).mono ?_
  rintro e' w' ⟨rfl, hC', hT⟩
  have h1 : s.bootC = 0 := by simp [ChS.bootC, h.on]
  have h2 : s.boot = { s with on := true, armed := false } := by simp [ChS.boot, h.on]
  rw [h2] at hC'
  rw [h1]
  obtain ⟨o0, o1, c0, c1, k0, k1⟩ := h.bnd
  exact ⟨rfl, ⟨_, hC', Lib.hid ⟨⟨rfl, rfl, h.cuts, ⟨o0, by dsimp only; omega, c0, by dsimp only; omega, k0, fun j => by have := k1 j; dsimp only; omega⟩, h.p1, h.p2⟩, o1⟩⟩, hT⟩
theorem boot_twice (m gx gb : Nat) (a b c d e : Int) (w : World) (s : ChS) (hC : ChipW w m gx gb none 0 0 a b c d e [] s) (h : s.on = true) : Calls Try.prog 27 #[.pointer (some ⟨m, 0, none⟩)] w fun e' w' => e' = .returned (.int .i64 7) ∧ ChipW w' m gx gb none 0 0 a b c d e [] s ∧ Tch (chB m gx gb) w w' := by
  refine (boot_any m gx gb none 0 0 a b c d e [] w s hC).mono ?_
  rintro e' w' ⟨rfl, hC', hT⟩
  have h1 : s.bootC = 7 := by simp [ChS.bootC, h]
  have h2 : s.boot = s := by simp [ChS.boot, h]
  rw [h2] at hC'
  rw [h1]
  exact ⟨rfl, hC', hT⟩
theorem bytesL_at (n Q i : Nat) (h : i < Q) : (bytesL n Q)[i]? = some ((n + i * 7) % 256) := by
  unfold bytesL
  rw [List.getElem?_map, List.getElem?_range h]
  rfl
set_option maxRecDepth 100000 in
set_option maxHeartbeats 8000000 in
theorem ccuts_walk (a b c d e t0 xo xb : Int) (xf : Nat) (er : Bool) (w : World) (_ : i64in a ∧ i64in b ∧ i64in c ∧ i64in d ∧ i64in e) (_ : i64in t0) (hcut : i64in xo ∧ i64in xb ∧ xf < 256) :
    Calls Try.prog 5 #[.agg #[.int .i64 a, .int .i64 b, .int .i64 c, .int .i64 d, .int .i64 e], .int .i64 t0, .agg #[.int .i64 xo, .int .i64 xb, .int .u8 (xf : Int)], .bool er] w fun e' w' => e' = .returned (.bool true) ∧ Below w.heap.size w w' := by
  have HA0 : Below w.heap.size w (w.alloc (.cells #[.int .i64 a, .int .i64 b, .int .i64 c, .int .i64 d, .int .i64 e] 23)) := (Below.refl _ _).alloc (Nat.le_refl _) _
  have HB0 : Below w.heap.size w ((w.alloc (.cells #[.int .i64 a, .int .i64 b, .int .i64 c, .int .i64 d, .int .i64 e] 23)).alloc (.cells #[.int .i64 xo, .int .i64 xb, .int .u8 (xf : Int)] 35)) := HA0.alloc HA0.size _
  have G1 : Blk ((w.alloc (.cells #[.int .i64 a, .int .i64 b, .int .i64 c, .int .i64 d, .int .i64 e] 23)).alloc (.cells #[.int .i64 xo, .int .i64 xb, .int .u8 (xf : Int)] 35)) w.heap.size 23 #[.int .i64 a, .int .i64 b, .int .i64 c, .int .i64 d, .int .i64 e] := (Blk.new_ _ _ _).alloc_ _
  have G2 : Blk ((w.alloc (.cells #[.int .i64 a, .int .i64 b, .int .i64 c, .int .i64 d, .int .i64 e] 23)).alloc (.cells #[.int .i64 xo, .int .i64 xb, .int .u8 (xf : Int)] 35)) (w.alloc (.cells #[.int .i64 a, .int .i64 b, .int .i64 c, .int .i64 d, .int .i64 e] 23)).heap.size 35 #[.int .i64 xo, .int .i64 xb, .int .u8 (xf : Int)] := Blk.new_ _ _ _
  have hsz1 : (w.alloc (.cells #[.int .i64 a, .int .i64 b, .int .i64 c, .int .i64 d, .int .i64 e] 23)).heap.size = w.heap.size + 1 := by first | exact Array.size_push _ | rfl
  rw [hsz1] at G2
  have HY := cells5 G1
  have HX := cells3 G2
  have HF := G2.free
  have hxf : xf < 256 := hcut.2.2
  clear hcut
  rcases (by cases hq : mayB a b c d e <;> simp : mayB a b c d e = false ∨ mayB a b c d e = true) with hmm | hmm
  · have HM := Lib.hid hmm
    clear G1 G2 HY HX HF hmm
    go_enter Try.func5, Try.ntmps5
    go_wp2_with (first
      | (go_at_call 11; ((with_reducible refine (new0_no _ _ _ _ _ _ HM).mono ?_); rintro e' wN ⟨rfl, hb⟩; replace HB0 := btr HB0 HB0.size hb))
      | (go_at_call 10; ((with_reducible refine (awake_any _).mono ?_); rintro e' wN ⟨rfl, hb⟩; replace HB0 := btr HB0 HB0.size hb)))
    go_ret
    exact ⟨rfl, HB0⟩
  have HM := Lib.hid hmm
  clear hmm
  obtain ⟨q1, q2, q3, q4, q5, q6, -⟩ := may_bd HM.out
  obtain ⟨k, hkk⟩ : ∃ k : Nat, lowI t0 (b - 1) = (k : Int) := ⟨(lowI t0 (b - 1)).toNat, by have := lowI_bd t0 (b - 1) (by omega); omega⟩
  have hk : (k : Int) < b - 1 := by have := lowI_bd t0 (b - 1) (by omega); omega
  obtain ⟨Q, hqq⟩ : ∃ k : Nat, lowI xb 100 = (k : Int) := ⟨(lowI xb 100).toNat, by have := lowI_bd xb 100 (by omega); omega⟩
  have hQ : Q < 100 := by have := lowI_bd xb 100 (by omega); omega
  obtain ⟨RW, hRW⟩ : ∃ RW : Nat, (RW : Int) = c + 16 := ⟨(c + 16).toNat, by omega⟩
  have HRW := Lib.hid hRW
  have hrw' : c + 16 = (RW : Int) := hRW.symm
  have r1 : 40 ≤ RW := by omega
  have r2 : RW ≤ 80 := by omega
  clear hRW
  go_enter Try.func5, Try.ntmps5
  go_upto_region 7 with (first
    | (go_at_call 11; ((with_reducible refine (new_go _ _ _ _ _ _ HM).mono ?_); rintro e' wN ⟨⟨m, gx, gb, S0, rfl, hC, hSt, hK0, hX0, hO0, hU0, hm, hgx, hgb⟩, hb⟩; have hl0 := hC.lt; replace HB0 := btr HB0 HB0.size hb; replace G1 := G1.below hb G1.lt; replace G2 := G2.below hb G2.lt; (try clear HY); have HY := cells5 G1; (try clear HX); have HX := cells3 G2; (try clear HF); have HF := G2.free))
    | (go_at_call 15; ((with_reducible refine (rmay_b _ _ _ _ _ _ _ HM).mono ?_); rintro e' wN ⟨rfl, hb⟩; replace hC := hC.below hb; replace HB0 := btr HB0 HB0.size hb; replace G1 := G1.below hb G1.lt; replace G2 := G2.below hb G2.lt; (try clear HY); have HY := cells5 G1; (try clear HX); have HX := cells3 G2; (try clear HF); have HF := G2.free))
    | (go_at_call 16; ((with_reducible refine (low_any _ _ _ (by omega) (by omega)).mono ?_); rintro e' wN ⟨rfl, rfl⟩; skip)))
  have hl1 : w.heap.size + 1 < m ∧ w.heap.size + 1 < gx ∧ w.heap.size + 1 < gb := by simp at hm hgx hgb; omega
  obtain ⟨w1, hw1⟩ : ∃ V : World, V = ((wN.setCell { block := w.heap.size + 1, off := 0 } (Value.int IntKind.i64 (1 + (k : Int)))).setCell { block := w.heap.size + 1, off := 1 } (Value.int IntKind.i64 (Q : Int))) := ⟨_, rfl⟩
  have hTa : Tch (fun g => g = w.heap.size + 1) wN w1 := by
    rw [hw1]
    exact (Tch.setm wN (w.heap.size + 1) 0 _).trans (Tch.setm _ (w.heap.size + 1) 1 _)
  replace hC := hC.other hTa (by omega) (by omega) (by omega)
  replace HB0 : Below w.heap.size w w1 := by
    rw [hw1]
    exact (HB0.setCell (p := ⟨w.heap.size + 1, 0, none⟩) (by simp) _).setCell (p := ⟨w.heap.size + 1, 1, none⟩) (by simp) _
  replace G2 : Blk w1 (w.heap.size + 1) 35 #[.int .i64 (1 + (k : Int)), .int .i64 (Q : Int), .int .u8 (xf : Int)] := by
    rw [hw1]
    have := (G2.set_ 0 (.int .i64 (1 + (k : Int)))).set_ 1 (.int .i64 (Q : Int))
    simpa using this
  rw [← hw1]
  clear hw1 hTa hb G1 HY HX HF
  have HX := cells3 G2
  have hnb : ¬ chB m gx gb (w.heap.size + 1) := by unfold chB; omega
  have HT : Tch (chB m gx gb) w1 w1 := Tch.refl _
  have GR := G2
  obtain ⟨N1, hN1⟩ : ∃ N : Nat, (N : Int) = ((1 : Nat) : Int) * b + ((0 : Nat) : Int) := ⟨b.toNat, by omega⟩
  have HN1 := Lib.hid hN1
  clear hN1
  have hP0 : Hid (∀ N RW l k : Nat, (RW : Int) = c + 16 → (k : Int) < a → (l : Int) < b → (N : Int) = (k : Int) * b + (l : Int) → S0.pageOf N RW = List.replicate RW 255) := Lib.hid (fun N RW' l k hr h1 h2 h3 => by
    obtain ⟨N', RW2, hnum, hrw, hfit, z1, z2, hN2, hNN⟩ := page_ok hC h1 h2
    obtain rfl : RW2 = RW' := by omega
    obtain rfl : N' = N := by omega
    exact page_new hX0 hfit)
  clear hX0
  go_wp2_with (first
    | (go_at_call 18; ((with_reducible refine (bytesZ _ 3 RW _ (by omega) (by omega) (by omega) (by omega)).mono ?_); rintro e' wN ⟨⟨gA, rfl, hRgA, hggA⟩, hb⟩; have hngA : ¬ chB m gx gb gA := (by have := hC.lt; unfold chB; omega); replace hC := hC.below hb; replace HT := HT.then hb; clear hb hggA))
    | (go_at_call 17; ((with_reducible refine (progI _ _ _ _ _ _ _ _ _ _ _ _ 1 0 N1 RW gA _ (bytesL 3 RW) _ _ (by omega) (by omega) (by omega) (by omega) _ S0 hC hSt.go (by omega) HRW HN1 (failed_none _ _ _) (hK0 _ _) hRgA hngA (bytesL_len 3 RW)).mono ?_); rintro e' wN ⟨rfl, ⟨S1, hC1, HS1⟩, hT⟩; clear hC; have hC := hC1; clear hC1; replace HT := HT.trans hT; clear hT; clear GR HX; have GR := HT.blk G2 hnb; have HX := cells3 GR))
    | (go_at_call 24; ((with_reducible refine (arm_yes _ _ _ _ _ _ _ _ _ _ _ _ (1 + (k : Int)) (Q : Int) xf (0 + 3) _ S1 hC HS1.out.2.1.bnd (by omega) (by rw [HS1.out.1.on]; exact hSt.on) (by omega) (by omega) (by omega) (by omega)).mono ?_); rintro e' wN ⟨rfl, hC1, hT⟩; clear hC; have hC := hC1; clear hC1; replace HT := HT.trans hT; clear hT; clear GR HX; have GR := HT.blk G2 hnb; have HX := cells3 GR)))
  obtain ⟨SW, hSW⟩ : ∃ SW : ChS, SW = { S1 with armed := true, turn := S1.ops + (1 + (k : Int)), cop := (1 + (k : Int)), cby := (Q : Int), fill := xf } := ⟨_, rfl⟩
  rw [← hSW] at hC
  have HW : Hid (Waits SW b c k Q xf 1) := Lib.hid (by
    have h1 := HS1.out.1
    have h2 := HS1.out.2.1
    have h3 := h1.ops
    rw [hO0] at h3
    have h4 := h2.bnd
    subst hSW
    refine ⟨by rw [← hSt.on, ← h1.on], rfl, by show S1.ops + (1 + (k : Int)) = _; rw [h3]; omega, h3, by show S1.cuts = 0; rw [h1.cuts, hU0], rfl, rfl, ?_, ?_, fun N RW' q1 q2 => ?_, fun N l RW' q1 q2 q3 q4 => ?_⟩
    · exact ⟨h4.o0, by have := h4.o1; dsimp only; omega, h4.c0, by have := h4.c1; dsimp only; omega, h4.k0, fun j => by have := h4.k1 j; dsimp only; omega⟩
    · show S1.k _ 0 = _
      rw [h2.ko 2 0 (by omega) (by omega), hK0]
      rfl
    · obtain rfl : RW' = RW := by have := HRW.out; omega
      obtain rfl : N = N1 := by have := HN1.out; omega
      exact h2.pg
    · obtain rfl : RW' = RW := by have := HRW.out; omega
      have := h2.po N (by have := HN1.out; omega)
      exact this.trans (hP0.out N RW' l 2 q1 (by omega) q3 q4))
  clear hSW HS1 hP0 hO0 hU0 hK0 hSt hRgA
  obtain ⟨w2, hw2⟩ : ∃ V : World, V = wN := ⟨_, rfl⟩
  rw [← hw2] at HT hC ⊢
  clear hw2 HX GR
  go_loopw [11] (fun s11 wr => ∃ (j : Nat) (S : ChS), 1 ≤ j ∧ j ≤ k + 1 ∧ s11 = .int .i64 (j : Int) ∧ ChipW wr m gx gb none 0 0 a b c d e [] S ∧ Hid (Waits S b c k Q xf j) ∧ Tch (chB m gx gb) w1 wr) (fun s11 _ => k + 1 - (intOf s11).toNat)
  case atStart => exact ⟨1, SW, Nat.le_refl _, by omega, rfl, (by first | exact hC | exact hC.drew), HW, (by first | exact HT | exact HT.like)⟩
  case round =>
    clear hC HW HT
    obtain ⟨j, S, hj1, hj2, rfl, hC, HW, HT⟩ := hrel
    have GR := HT.blk G2 hnb
    have HX := cells3 GR
    by_cases hjk : j < k + 1
    · have j0 : (j : Int) < 1 + (k : Int) := by omega
      obtain ⟨N2, hN2⟩ : ∃ N : Nat, (N : Int) = ((2 : Nat) : Int) * b + ((j - 1 : Nat) : Int) := ⟨(2 * b + ((j - 1 : Nat) : Int)).toNat, by omega⟩
      have HN2 := Lib.hid hN2
      clear hN2
      go_wp2_with (first
        | (go_at_call 18; ((with_reducible refine (bytesZ _ 5 RW _ (by omega) (by omega) (by omega) (by omega)).mono ?_); rintro e' wN ⟨⟨gB, rfl, hRgB, hggB⟩, hb⟩; have hngB : ¬ chB m gx gb gB := (by have := hC.lt; unfold chB; omega); replace hC := hC.below hb; replace HT := HT.then hb; clear hb hggB))
        | (go_at_call 17; ((with_reducible refine (progI _ _ _ _ _ _ _ _ _ _ _ _ 2 (j - 1) N2 RW gB _ (bytesL 5 RW) _ _ (by omega) (by omega) (by omega) (by omega) _ S hC (HW.out.go (by omega)) (by omega) HRW HN2 (failed_none _ _ _) (by have := HW.out.k0; rw [this]; omega) hRgB hngB (bytesL_len 5 RW)).mono ?_); rintro e' wN ⟨rfl, ⟨S2, hC1, HS2⟩, hT⟩; clear hC; have hC := hC1; clear hC1; replace HT := HT.trans hT; clear hT; clear GR HX; have GR := HT.blk G2 hnb; have HX := cells3 GR)))
      go_roundw
      case rel => exact ⟨j + 1, S2, by omega, by omega, by go_num, hC, Lib.hid (HW.out.next HS2.out.1 HS2.out.2.1 hj1 (by omega) HRW.out (by have := HN2.out; omega)), HT⟩
      case measure => simp [intOf]; omega
    · obtain rfl : j = k + 1 := by omega
      have j0 : ¬ ((k + 1 : Nat) : Int) < 1 + (k : Int) := by omega
      obtain ⟨N2, hN2⟩ : ∃ N : Nat, (N : Int) = ((2 : Nat) : Int) * b + (k : Int) := ⟨(2 * b + (k : Int)).toNat, by omega⟩
      have HN2 := Lib.hid hN2
      clear hN2
      cases er
      · obtain ⟨PG, hPG⟩ : ∃ PG : List Nat, (bytesL 5 RW).take (min RW Q) ++ (List.replicate RW 255).drop (min RW Q) = PG := ⟨_, rfl⟩
        have HPG : Hid ((bytesL 5 RW).take (min RW Q) ++ (List.replicate RW 255).drop (min RW Q) = PG) := Lib.hid hPG
        clear hPG
        go_wp2_with (first
          | (go_at_call 18; ((with_reducible refine (bytesZ _ 5 RW _ (by omega) (by omega) (by omega) (by omega)).mono ?_); rintro e' wN ⟨⟨gB, rfl, hRgB, hggB⟩, hb⟩; have hngB : ¬ chB m gx gb gB := (by have := hC.lt; unfold chB; omega); replace hC := hC.below hb; replace HT := HT.then hb; clear hb hggB))
          | (go_at_call 17; ((with_reducible refine (progCutI _ _ _ _ _ _ _ _ _ _ _ _ 2 k N2 RW gB _ (bytesL 5 RW) _ _ (by omega) (by omega) (by omega) (by omega) _ S hC (HW.out.cut rfl) (by omega) (by rw [HW.out.cby]; omega) HRW HN2 (failed_none _ _ _) (by have := HW.out.k0; rw [this]; omega) hRgB hngB (bytesL_len 5 RW)).mono ?_); rintro e' wN ⟨rfl, ⟨S2, hC1, HS2⟩, hT⟩; clear hC; have hC := hC1; clear hC1; have HO : Hid (Over S2 b c k PG) := Lib.hid (by rw [← HPG.out]; exact Over.put HW.out rfl HS2.out.1 HS2.out.2.1 hk (by omega) HRW.out HN2.out); clear HS2 HW; replace HT := HT.trans hT; clear hT; clear GR HX; have GR := HT.blk G2 hnb; have HX := cells3 GR))
          | (go_at_call 19; ((with_reducible refine (read_off _ _ _ _ _ _ _ _ _ _ _ _ _ _ _ S2 hC HO.out.on).mono ?_); rintro e' wN ⟨rfl, hb⟩; replace hC := hC.below hb; replace HT := HT.then hb; clear hb; clear GR HX; have GR := HT.blk G2 hnb; have HX := cells3 GR))
          | (go_at_call 22; ((with_reducible refine (erase_off _ _ _ _ _ _ _ _ _ _ _ _ _ _ S2 hC HO.out.on).mono ?_); rintro e' wN ⟨rfl, rfl⟩; skip))
          | (go_at_call 25; ((with_reducible refine (on_z _ _ _ _ _ _ _ _ false _ S2 hC HO.out.on).mono ?_); rintro e' wN ⟨rfl, rfl⟩; skip))
          | (go_at_call 24; ((with_reducible refine (arm_off _ _ _ _ _ _ _ _ _ _ _ _ _ _ xf _ S2 hC HO.out.on).mono ?_); rintro e' wN ⟨rfl, hb⟩; replace hC := hC.below hb; replace HT := HT.then hb; clear hb; clear GR HX; have GR := HT.blk G2 hnb; have HX := cells3 GR))
          | (go_at_call 26; ((with_reducible refine (ops_z _ _ _ _ _ _ _ _ (1 + (k : Int) + 1) _ S2 hC HO.out.ops).mono ?_); rintro e' wN ⟨rfl, rfl⟩; skip))
          | (go_at_call 27; ((with_reducible refine (boot_over _ _ _ _ _ _ _ _ k PG _ S2 hC HO.out).mono ?_); rintro e' wN ⟨rfl, ⟨S3, hC1, HB1⟩, hT⟩; clear hC; have hC := hC1; clear hC1; clear HO; replace HT := HT.trans hT; clear hT; clear GR HX; have GR := HT.blk G2 hnb; have HX := cells3 GR))
          | (go_at_call 27; ((with_reducible refine (boot_twice _ _ _ _ _ _ _ _ _ S3 hC HB1.out.1.on).mono ?_); rintro e' wN ⟨rfl, hC1, hT⟩; clear hC; have hC := hC1; clear hC1; replace HT := HT.trans hT; clear hT; clear GR HX; have GR := HT.blk G2 hnb; have HX := cells3 GR))
          | (go_at_call 25; ((with_reducible refine (on_z _ _ _ _ _ _ _ _ true _ S3 hC HB1.out.1.on).mono ?_); rintro e' wN ⟨rfl, rfl⟩; skip))
          | (go_at_call 28; ((with_reducible refine (cuts_z _ _ _ _ _ _ _ _ 1 _ S3 hC HB1.out.1.cuts).mono ?_); rintro e' wN ⟨rfl, rfl⟩; skip))
          | (go_at_call 19; ((with_reducible refine (readI _ _ _ _ _ _ _ _ _ _ _ _ 1 0 N1 RW _ _ _ (by omega) (by omega) (by omega) (by omega) _ S3 hC HB1.out.1.go (by omega) HRW HN1).mono ?_); rintro e' wN ⟨⟨g8, c8, rfl, hR8, hg8⟩, hC1, -, hT⟩; have hn8 : ¬ chB m gx gb g8 := (by have := hC.lt; unfold chB; omega); clear hC hg8; have hC := hC1; clear hC1; rw [HB1.out.1.p1 N1 RW HRW.out (by rw [HN1.out]; simp)] at hR8; have HB2 := Lib.hid (HB1.out.1.tick (by have := HB1.out.2; omega)); clear HB1; replace HT := HT.trans hT; clear hT; clear GR HX; have GR := HT.blk G2 hnb; have HX := cells3 GR))
          | (go_at_call 19; ((with_reducible refine (readI _ _ _ _ _ _ _ _ _ _ _ _ 2 k N2 RW _ _ _ (by omega) (by omega) (by omega) (by omega) _ _ hC HB2.out.go (by omega) HRW HN2).mono ?_); rintro e' wN ⟨⟨g9, c9, rfl, hR9, -⟩, hC1, -, hT⟩; clear hC; have hC := hC1; clear hC1; rw [HB2.out.p2 N2 RW HRW.out HN2.out] at hR9; replace hR8 := hR8.keep (hT.far _ hR8.lt hn8); clear HB2; replace HT := HT.trans hT; clear hT; clear GR HX; have GR := HT.blk G2 hnb; have HX := cells3 GR))
          | (go_at_call 18; ((with_reducible refine (bytesZ _ 3 RW _ (by omega) (by omega) (by omega) (by omega)).mono ?_); rintro e' wN ⟨⟨gC, rfl, hRC, -⟩, hb⟩; replace hR8 := hR8.below hb; replace hR9 := hR9.below hb; replace hC := hC.below hb; replace HT := HT.then hb; clear hb; clear GR HX; have GR := HT.blk G2 hnb; have HX := cells3 GR))
          | (go_at_call 20; ((with_reducible refine (sameB_row (bytesL 3 RW) RW g8 _ gC _ hR8 hRC (bytesL_len _ RW) (by omega)).mono ?_); rintro e' wN ⟨rfl, hb⟩; replace hR9 := hR9.below hb; clear hR8 hRC; replace hC := hC.below hb; replace HT := HT.then hb; clear hb; clear GR HX; have GR := HT.blk G2 hnb; have HX := cells3 GR)))
        all_goals (
         obtain ⟨w8, hw8⟩ : ∃ V : World, V = wN := ⟨_, rfl⟩
         rw [← hw8] at HT hC hR9 GR ⊢
         clear hw8 HX
         go_loopw [21] (fun s21 wr => ∃ i : Nat, i ≤ RW ∧ s21 = .int .i64 (i : Int) ∧ Below w8.heap.size w8 wr) (fun s21 _ => RW - (intOf s21).toNat)
         case atStart => exact ⟨0, Nat.zero_le _, rfl, by first | exact Below.refl _ _ | exact (Below.refl _ _).like⟩
         case round =>
           obtain ⟨i, hi, rfl, hB⟩ := hrel
           by_cases hir : i < RW
           · have i0 : (0 : Int) ≤ (i : Int) := by omega
             have i1 : (i : Int) < (RW : Int) := by omega
             have hRr := hR9.below hB
             have HX := cells3 (GR.below hB GR.lt)
             have hml : ((bytesL 5 RW).take (min RW Q)).length = min RW Q := by rw [List.length_take, bytesL_len]; omega
             by_cases hiq : i < min RW Q
             · have i2 : (i : Int) < (Q : Int) := by omega
               have h5v : ((bytesL 5 RW).map byteV)[i]? = some (byteV ((5 + i * 7) % 256)) := by rw [List.getElem?_map, bytesL_at 5 RW i hir]; rfl
               have hcv : (PG.map byteV)[i]? = some (byteV ((5 + i * 7) % 256)) := by rw [← HPG.out, List.getElem?_map, List.getElem?_append_left (by rw [hml]; omega), List.getElem?_take, if_pos (by omega), bytesL_at 5 RW i hir]; rfl
               have H5 := Lib.hid h5v
               clear hml
               go_wp2_with (go_at_call 18; ((with_reducible refine (bytesZ _ 5 RW _ (by omega) (by omega) (by omega) (by omega)).mono ?_); rintro e' wN ⟨⟨gC, rfl, hRC, -⟩, hb⟩; have cE := hRC.cell_ h5v; have cD := (hRr.below hb).cell_ hcv; replace hB := btr hB hB.size hb; clear hb hRr hRC; unfold byteV at cE cD))
               go_roundw
               case rel => exact ⟨i + 1, by omega, by go_num, hB⟩
               case measure => simp [intOf]; omega
             · first
               | (exfalso; omega)
               | (have hQR : ¬ RW < Q := by omega
                  have i2 : ¬ (i : Int) < (Q : Int) := by omega
                  have cD := hRr.cell_ (i := i) (v := byteV 255) (by rw [← HPG.out, List.getElem?_map, List.getElem?_append_right (by rw [hml]; omega), hml, List.getElem?_drop, List.getElem?_replicate, if_pos (by omega)]; rfl)
                  unfold byteV at cD
                  clear hRr hml
                  go_wp2_with fail
                  go_roundw
                  case rel => exact ⟨i + 1, by omega, by go_num, hB⟩
                  case measure => simp [intOf]; omega)
           · have i1 : ¬ (i : Int) < (RW : Int) := by omega
             replace HT := HT.then hB
             go_wp2_with (go_at_call 10; ((with_reducible refine (awake_any _).mono ?_); rintro e' wN ⟨rfl, hb⟩; replace HT := HT.then hb))
             go_ret
             exact ⟨rfl, HB0.trans (HT.below HB0.size (fun g hg => by unfold chB at hg; omega))⟩)
      · obtain ⟨PG, hPG⟩ : ∃ PG : List Nat, List.replicate RW xf = PG := ⟨_, rfl⟩
        have HPG : Hid (List.replicate RW xf = PG) := Lib.hid hPG
        clear hPG
        go_wp2_with (first
          | (go_at_call 22; ((with_reducible refine (eraseCutI _ _ _ _ _ _ _ _ _ _ _ _ 2 _ _ (by omega) (by omega) _ S hC (HW.out.cut rfl) (by omega) (by omega) (by rw [HW.out.fill]; exact hxf) (failed_none _ _ _)).mono ?_); rintro e' wN ⟨rfl, ⟨S2, hC1, HS2⟩, hT⟩; clear hC; have hC := hC1; clear hC1; have HO : Hid (Over S2 b c k PG) := Lib.hid (by rw [← HPG.out]; exact Over.erased HW.out rfl HS2.out.1 HS2.out.2 hk (by omega) HRW.out); clear HS2 HW; replace HT := HT.trans hT; clear hT; clear GR HX; have GR := HT.blk G2 hnb; have HX := cells3 GR))
          | (go_at_call 19; ((with_reducible refine (read_off _ _ _ _ _ _ _ _ _ _ _ _ _ _ _ S2 hC HO.out.on).mono ?_); rintro e' wN ⟨rfl, hb⟩; replace hC := hC.below hb; replace HT := HT.then hb; clear hb; clear GR HX; have GR := HT.blk G2 hnb; have HX := cells3 GR))
          | (go_at_call 22; ((with_reducible refine (erase_off _ _ _ _ _ _ _ _ _ _ _ _ _ _ S2 hC HO.out.on).mono ?_); rintro e' wN ⟨rfl, rfl⟩; skip))
          | (go_at_call 25; ((with_reducible refine (on_z _ _ _ _ _ _ _ _ false _ S2 hC HO.out.on).mono ?_); rintro e' wN ⟨rfl, rfl⟩; skip))
          | (go_at_call 24; ((with_reducible refine (arm_off _ _ _ _ _ _ _ _ _ _ _ _ _ _ xf _ S2 hC HO.out.on).mono ?_); rintro e' wN ⟨rfl, hb⟩; replace hC := hC.below hb; replace HT := HT.then hb; clear hb; clear GR HX; have GR := HT.blk G2 hnb; have HX := cells3 GR))
          | (go_at_call 26; ((with_reducible refine (ops_z _ _ _ _ _ _ _ _ (1 + (k : Int) + 1) _ S2 hC HO.out.ops).mono ?_); rintro e' wN ⟨rfl, rfl⟩; skip))
          | (go_at_call 27; ((with_reducible refine (boot_over _ _ _ _ _ _ _ _ k PG _ S2 hC HO.out).mono ?_); rintro e' wN ⟨rfl, ⟨S3, hC1, HB1⟩, hT⟩; clear hC; have hC := hC1; clear hC1; clear HO; replace HT := HT.trans hT; clear hT; clear GR HX; have GR := HT.blk G2 hnb; have HX := cells3 GR))
          | (go_at_call 27; ((with_reducible refine (boot_twice _ _ _ _ _ _ _ _ _ S3 hC HB1.out.1.on).mono ?_); rintro e' wN ⟨rfl, hC1, hT⟩; clear hC; have hC := hC1; clear hC1; replace HT := HT.trans hT; clear hT; clear GR HX; have GR := HT.blk G2 hnb; have HX := cells3 GR))
          | (go_at_call 25; ((with_reducible refine (on_z _ _ _ _ _ _ _ _ true _ S3 hC HB1.out.1.on).mono ?_); rintro e' wN ⟨rfl, rfl⟩; skip))
          | (go_at_call 28; ((with_reducible refine (cuts_z _ _ _ _ _ _ _ _ 1 _ S3 hC HB1.out.1.cuts).mono ?_); rintro e' wN ⟨rfl, rfl⟩; skip))
          | (go_at_call 19; ((with_reducible refine (readI _ _ _ _ _ _ _ _ _ _ _ _ 1 0 N1 RW _ _ _ (by omega) (by omega) (by omega) (by omega) _ S3 hC HB1.out.1.go (by omega) HRW HN1).mono ?_); rintro e' wN ⟨⟨g8, c8, rfl, hR8, hg8⟩, hC1, -, hT⟩; have hn8 : ¬ chB m gx gb g8 := (by have := hC.lt; unfold chB; omega); clear hC hg8; have hC := hC1; clear hC1; rw [HB1.out.1.p1 N1 RW HRW.out (by rw [HN1.out]; simp)] at hR8; have HB2 := Lib.hid (HB1.out.1.tick (by have := HB1.out.2; omega)); clear HB1; replace HT := HT.trans hT; clear hT; clear GR HX; have GR := HT.blk G2 hnb; have HX := cells3 GR))
          | (go_at_call 19; ((with_reducible refine (readI _ _ _ _ _ _ _ _ _ _ _ _ 2 k N2 RW _ _ _ (by omega) (by omega) (by omega) (by omega) _ _ hC HB2.out.go (by omega) HRW HN2).mono ?_); rintro e' wN ⟨⟨g9, c9, rfl, hR9, -⟩, hC1, -, hT⟩; clear hC; have hC := hC1; clear hC1; rw [HB2.out.p2 N2 RW HRW.out HN2.out] at hR9; replace hR8 := hR8.keep (hT.far _ hR8.lt hn8); clear HB2; replace HT := HT.trans hT; clear hT; clear GR HX; have GR := HT.blk G2 hnb; have HX := cells3 GR))
          | (go_at_call 18; ((with_reducible refine (bytesZ _ 3 RW _ (by omega) (by omega) (by omega) (by omega)).mono ?_); rintro e' wN ⟨⟨gC, rfl, hRC, -⟩, hb⟩; replace hR8 := hR8.below hb; replace hR9 := hR9.below hb; replace hC := hC.below hb; replace HT := HT.then hb; clear hb; clear GR HX; have GR := HT.blk G2 hnb; have HX := cells3 GR))
          | (go_at_call 20; ((with_reducible refine (sameB_row (bytesL 3 RW) RW g8 _ gC _ hR8 hRC (bytesL_len _ RW) (by omega)).mono ?_); rintro e' wN ⟨rfl, hb⟩; replace hR9 := hR9.below hb; clear hR8 hRC; replace hC := hC.below hb; replace HT := HT.then hb; clear hb; clear GR HX; have GR := HT.blk G2 hnb; have HX := cells3 GR)))
        all_goals (
         obtain ⟨w8, hw8⟩ : ∃ V : World, V = wN := ⟨_, rfl⟩
         rw [← hw8] at HT hC hR9 GR ⊢
         clear hw8 HX
         go_loopw [21] (fun s21 wr => ∃ i : Nat, i ≤ RW ∧ s21 = .int .i64 (i : Int) ∧ Below w8.heap.size w8 wr) (fun s21 _ => RW - (intOf s21).toNat)
         case atStart => exact ⟨0, Nat.zero_le _, rfl, by first | exact Below.refl _ _ | exact (Below.refl _ _).like⟩
         case round =>
           obtain ⟨i, hi, rfl, hB⟩ := hrel
           by_cases hir : i < RW
           · have i0 : (0 : Int) ≤ (i : Int) := by omega
             have i1 : (i : Int) < (RW : Int) := by omega
             have hRr := hR9.below hB
             have HX := cells3 (GR.below hB GR.lt)
             have cD := hRr.cell_ (i := i) (v := byteV xf) (by rw [← HPG.out, List.getElem?_map, List.getElem?_replicate, if_pos hir]; rfl)
             unfold byteV at cD
             clear hRr
             go_wp2_with fail
             go_roundw
             case rel => exact ⟨i + 1, by omega, by go_num, hB⟩
             case measure => simp [intOf]; omega
           · have i1 : ¬ (i : Int) < (RW : Int) := by omega
             replace HT := HT.then hB
             go_wp2_with (go_at_call 10; ((with_reducible refine (awake_any _).mono ?_); rintro e' wN ⟨rfl, hb⟩; replace HT := HT.then hb))
             go_ret
             exact ⟨rfl, HB0.trans (HT.below HB0.size (fun g hg => by unfold chB at hg; omega))⟩)
end Go.Proofs.Ytplniojeaodjiaa
