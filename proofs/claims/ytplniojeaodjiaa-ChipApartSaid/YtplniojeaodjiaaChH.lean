/- Program of a chip. -/
import Derived.Test.YtplniojeaodjiaaChG
import Derived.StillTailTactics
namespace Go.Proofs.Ytplniojeaodjiaa
open Go.ChangeShapes Go.WideShapes Go.ChangeAt Go.RowKit
set_option linter.unusedSimpArgs false
set_option linter.unusedVariables false

def putX (X : List Nat) (F : Nat) (vs : List Nat) : List Nat := X.take F ++ vs ++ X.drop (F + vs.length)
theorem putX_len {X : List Nat} {F : Nat} {vs : List Nat} (h : F + vs.length ≤ X.length) : (putX X F vs).length = X.length := by
  simp [putX]
  omega
theorem copy_chip {w : World} {m gx gb : Nat} {Af : Option Addr} {nf cf : Nat} {a b c d e : Int} {fs : List Flt} {s : ChS} (hC : ChipW w m gx gb Af nf cf a b c d e fs s) {F RW q : Nat} (ad : Addr) (nv cv : Nat) (vs : List Nat) (hF : F + RW ≤ s.X.length) (hv : vs.length = min nv RW) (hread : ∀ j u, (vs.map byteV)[j]? = some u → w.cell? (ad.add j) = some u) :
    ∃ w', (Builtin.copy_ #[48, 48] 3 #[.slice (some ⟨gx, F, none⟩) RW q, .slice (some ad) nv cv]).run Try.prog w = .ok (.int .i64 (vs.length : Nat)) w' ∧ ChipW w' m gx gb Af nf cf a b c d e fs { s with X := putX s.X F vs } ∧ Tch (chB m gx gb) w w' := by
  obtain ⟨⟨cx, cb, NX, NB, hX, hN, hcx, hB⟩, ⟨r, rX⟩, rK, rF, n1, n2, n3, l1, l2, l3, l4⟩ := hC
  have hrun := run_copy_row (P := Try.prog) w 48 48 3 5 gx F RW q ad nv cv (s.X.map byteV ++ r).toArray 5 (vs.map byteV) Try.underlying48 infoByteSz rX (by rw [List.length_map]; exact hv) hread (by simp; omega) (oneB vs)
  obtain ⟨A2, hA2⟩ : ∃ A2, spl (s.X.map byteV ++ r).toArray F (vs.map byteV) = A2 := ⟨_, rfl⟩
  have hrun2 : (Builtin.copy_ #[48, 48] 3 #[.slice (some ⟨gx, F, none⟩) RW q, .slice (some ad) nv cv]).run Try.prog w = .ok (.int .i64 (vs.length : Nat)) (w.setRow gx A2) := by
    rw [← hA2]
    refine hrun.trans ?_
    rw [List.length_map]
    simp only [spl, List.length_map]
    rfl
  refine ⟨_, hrun2, ?_, Tch.setRow w gx _ chB_x⟩
  have hT := Tch.setRow (S := fun g => g = gx) w gx A2 rfl
  have hK := setRow_heap w gx _ A2 5 _ rX
  refine ⟨⟨cx, cb, NX, NB, by rw [putX_len (by omega)]; exact hX, hN, hcx, hT.blk hB (fun e => n1 e)⟩, ⟨r, hK.trans ?_⟩, rK.keep (hT.far _ rK.lt (fun e => n3 e.symm)), rF.keep hT.size (fun g hg g1 g2 g3 => hT.far g hg g2), n1, n2, n3, by rw [putX_len (by omega)]; exact l1, l2, l3, l4⟩
  rw [← hA2]
  congr 2
  simp only [spl, putX, List.map_append, List.map_take, List.map_drop, List.length_map]
  rw [List.take_append_of_le_length (by simp; omega), List.drop_append_of_le_length (by simp; omega)]
  simp
theorem setK_chip {w : World} {m gx gb : Nat} {Af : Option Addr} {nf cf : Nat} {a b c d e : Int} {fs : List Flt} {s : ChS} (hC : ChipW w m gx gb Af nf cf a b c d e fs s) {i : Nat} (hi : i < s.K.length) (v : Int) : ChipW (w.setCell ⟨gb, i, none⟩ (.int .i64 v)) m gx gb Af nf cf a b c d e fs { s with K := s.K.set i v } ∧ Tch (chB m gx gb) w (w.setCell ⟨gb, i, none⟩ (.int .i64 v)) := by
  obtain ⟨⟨cx, cb, NX, NB, hX, hN, hcx, hB⟩, rX, rK, rF, n1, n2, n3, l1, l2, l3, l4⟩ := hC
  refine ⟨⟨⟨cx, cb, NX, NB, hX, hN, hcx, hB.far n2 _⟩, rX.far n3 _, ?_, ?_, n1, n2, n3, l1, by simp; exact l2, l3, l4⟩, Tch.set w ⟨gb, i, none⟩ (.int .i64 v) chB_b⟩
  · have := rK.set_ (i := i) (by simpa using hi) (.int .i64 v)
    rw [← List.map_set] at this
    exact this
  · have hT := Tch.setm w gb i (.int .i64 v)
    exact rF.keep hT.size (fun g hg g1 g2 g3 => hT.far g hg g3)
theorem chip_k {w : World} {m gx gb : Nat} {Af : Option Addr} {nf cf : Nat} {a b c d e : Int} {fs : List Flt} {s : ChS} (hC : ChipW w m gx gb Af nf cf a b c d e fs s) {k j : Nat} (hk : (k : Int) < a) (hj : j < 3) : ∃ cb NB : Nat, (k : Int) < (NB : Int) ∧ w.cell? ⟨m, 7, none⟩ = some (.slice (some ⟨gb, 0, none⟩) NB cb) ∧ w.cell? ⟨gb, k * 3 + j, none⟩ = some (.int .i64 (s.k (k : Int) j)) ∧ (∀ i, w.frozen? ⟨gb, i, none⟩ = false) ∧ k * 3 + j < s.K.length := by
  obtain ⟨cx, cb, NX, NB, hNX, hNB, y0, y1, y2, y3, y4, y5, y6, y7, y8, y9, y10, y11, y12, y13, y14, y15, yx, yb, fm, fx, fb⟩ := hC.get
  have h1 := hNB.out
  have h2 := hC.lenK
  refine ⟨cb, NB, by omega, y7, ?_, fb, by omega⟩
  rw [yb _ (by omega)]
  unfold ChS.k
  rw [Int.toNat_natCast, Nat.mul_comm]
theorem cell14 {w : World} {m gx gb : Nat} {Af : Option Addr} {nf cf : Nat} {a b c d e : Int} {fs : List Flt} {s : ChS} (h : ChipW w m gx gb Af nf cf a b c d e fs s) : w.cell? ⟨m, 14, none⟩ = some (.int .i64 s.cby) := by
  obtain ⟨cx, cb, NX, NB, hX, hN, hcx, hB⟩ := h.blk
  exact hB.cell_ 14
def ChS.inc (s : ChS) (k j : Nat) : ChS := { s with K := s.K.set (k * 3 + j) (s.k (k : Int) j + 1) }
theorem wrong_tick (s : ChS) (a : Int) (fs : List Flt) (k l : Nat) : s.tick.wrong a fs k l = s.wrong a fs k l := by
  unfold ChS.wrong failedB ChS.k
  rw [tick_K]
theorem refusal_b (m gx gb : Nat) (Af : Option Addr) (nf cf : Nat) (a b c d e : Int) (fs : List Flt) (k l : Nat) (z : Int) (w : World) (s : ChS) (hC : ChipW w m gx gb Af nf cf a b c d e fs s) (hk : (k : Int) < a) (hz : Hid (s.wrong a fs k l = z)) : Calls Try.prog 55 #[.pointer (some ⟨m, 0, none⟩), .agg #[.int .i64 (k : Int), .int .i64 (l : Int)]] w fun e' w' => e' = .returned (.int .i64 z) ∧ Below w.heap.size w w' := by
  have := refusal_any m gx gb Af nf cf a b c d e fs k l w s hC hk
  rwa [hz.out] at this
theorem prog_off (m gx gb : Nat) (Af : Option Addr) (nf cf : Nat) (a b c d e : Int) (fs : List Flt) (x y : Int) (A : Option Addr) (nb cA : Nat) (w : World) (s : ChS) (hC : ChipW w m gx gb Af nf cf a b c d e fs s) (ho : s.on = false) : Calls Try.prog 17 #[.pointer (some ⟨m, 0, none⟩), .agg #[.int .i64 x, .int .i64 y], .slice A nb cA] w fun e' w' => e' = .returned (.int .i64 9) ∧ Below w.heap.size w w' := by
  have HB0 : Below w.heap.size w (w.alloc (.cells #[.int .i64 x, .int .i64 y] 33)) := (Below.refl _ _).alloc (Nat.le_refl _) _
  have G1 : Blk (w.alloc (.cells #[.int .i64 x, .int .i64 y] 33)) w.heap.size 33 #[.int .i64 x, .int .i64 y] := Blk.new_ _ _ _
  have z0 : (w.alloc (.cells #[.int .i64 x, .int .i64 y] 33)).cell? ⟨w.heap.size, 0, none⟩ = some (.int .i64 x) := G1.cell_ 0
  have z1 : (w.alloc (.cells #[.int .i64 x, .int .i64 y] 33)).cell? ⟨w.heap.size, 1, none⟩ = some (.int .i64 y) := G1.cell_ 1
  have hC := hC.below HB0
  have y10 := cell10 hC
  rw [ho] at y10
  clear ho
  clear hC
  go_enter Try.func17, Try.ntmps17
  go_wp2_with fail
  go_ret
  exact ⟨rfl, HB0⟩
theorem raw_bb (a b c d e : Int) (RW : Nat) (w : World) (hm : Hid (mayB a b c d e = true)) (hr : Hid ((RW : Int) = c + 16)) :
    Calls Try.prog 34 #[.agg #[.int .i64 a, .int .i64 b, .int .i64 c, .int .i64 d, .int .i64 e]] w fun e' w' => e' = .returned (.int .i64 (RW : Int)) ∧ Below w.heap.size w w' := by
  have q := raw_b a b c d e w hm
  rwa [← hr.out] at q
set_option maxHeartbeats 4000000 in
theorem prog_cutbad (m gx gb : Nat) (Af : Option Addr) (nf cf : Nat) (a b c d e : Int) (fs : List Flt) (k l N RW : Nat) (n : Int) (bs : List Nat) (gA oA cA : Nat) (w : World) (s : ChS) (hC : ChipW w m gx gb Af nf cf a b c d e fs s) (hbn : s.Bnd n) (hn : n ≤ 1000000000) (ho : s.on = true) (hk : (k : Int) < a) (hl : (l : Int) < b) (hnum : Hid (numberI a b (k : Int) (l : Int) = (N : Int))) (HRW : Hid ((RW : Int) = c + 16)) (hfit0 : Hid (N * RW + RW ≤ s.X.length)) (r1 : 40 ≤ RW) (r2 : RW ≤ 80) (hN2 : N < 200) (hsl : ∀ j u, (bs.map byteV)[j]? = some u → w.cell? ⟨gA, oA + j, none⟩ = some u) (hgA : gA < w.heap.size) (hgn : ¬ chB m gx gb gA) (hbl : bs.length = RW) (hcu : Hid (s.cutB = true)) (z : Int) (hwr0 : s.wrong a fs k l = z) (hz : z ≠ 0) : Calls Try.prog 17 #[.pointer (some ⟨m, 0, none⟩), .agg #[.int .i64 (k : Int), .int .i64 (l : Int)], .slice (some ⟨gA, oA, none⟩) RW cA] w fun e' w' => e' = .returned (.int .i64 9) ∧ ChipW w' m gx gb Af nf cf a b c d e fs s.tick ∧ Tch (chB m gx gb) w w' := by
  have hnb : ¬ chB m gx gb w.heap.size := by have := hC.lt; unfold chB; omega
  have ht : Hid (thereB a b (k : Int) (l : Int) = true) := Lib.hid (by unfold thereB withinB; simp; omega)
  have HM := Lib.hid (planMay_bd hC.may).1
  have hwr : Hid (s.tick.wrong a fs k l = z) := Lib.hid (by rw [wrong_tick]; exact hwr0)
  have hfit : Hid (N * RW + RW ≤ s.tick.X.length) := Lib.hid (by rw [tick_X]; exact hfit0.out)
  have HSL := Lib.hid hsl
  have HBL := Lib.hid hbl
  clear hsl hbl hwr0
  have HB0 : Below w.heap.size w (w.alloc (.cells #[.int .i64 (k : Int), .int .i64 (l : Int)] 33)) := (Below.refl _ _).alloc (Nat.le_refl _) _
  have G1 : Blk (w.alloc (.cells #[.int .i64 (k : Int), .int .i64 (l : Int)] 33)) w.heap.size 33 #[.int .i64 (k : Int), .int .i64 (l : Int)] := Blk.new_ _ _ _
  have z0 : (w.alloc (.cells #[.int .i64 (k : Int), .int .i64 (l : Int)] 33)).cell? ⟨w.heap.size, 0, none⟩ = some (.int .i64 (k : Int)) := G1.cell_ 0
  have z1 : (w.alloc (.cells #[.int .i64 (k : Int), .int .i64 (l : Int)] 33)).cell? ⟨w.heap.size, 1, none⟩ = some (.int .i64 (l : Int)) := G1.cell_ 1
  have hC := hC.below HB0
  have y10 := cell10 hC
  rw [ho] at y10
  clear ho
  have hzz : (z == 0) = false := by simp [hz]
  clear hz
  go_enter Try.func17, Try.ntmps17
  go_wp2_with (first
    | (go_at_call 53; ((with_reducible refine (hasPage_b _ _ _ _ _ _ _ _ _ _ _ _ _ _ _ _ _ hC ht).mono ?_); rintro e' wN ⟨rfl, hb⟩; replace hC := hC.below hb; replace HB0 := btr HB0 HB0.size hb; replace G1 := G1.below hb G1.lt; clear z0 z1 y10; have z0 := G1.cell_ 0; have z1 := G1.cell_ 1; simp at z0 z1; obtain ⟨y0, y1, y2, y3, y4⟩ := geo5 hC))
    | (go_at_call 34; ((with_reducible refine (raw_bb _ _ _ _ _ RW _ HM HRW).mono ?_); rintro e' wN ⟨rfl, hb⟩; replace hC := hC.below hb; replace HB0 := btr HB0 HB0.size hb; replace G1 := G1.below hb G1.lt; clear z0 z1 y0 y1 y2 y3 y4; have z0 := G1.cell_ 0; have z1 := G1.cell_ 1; simp at z0 z1))
    | (go_at_call 54; ((with_reducible refine (begin_b _ _ _ _ _ _ _ _ _ _ _ _ _ _ _ _ hC hbn hn hcu).mono ?_); rintro e' wN ⟨rfl, hC2, hT⟩; have HT := (Tch.of_below (S := chB m gx gb) HB0).trans hT; have hlt0 := hT.far w.heap.size G1.lt hnb; replace G1 : Blk wN w.heap.size _ _ := hlt0.trans G1; clear hlt0 hC; have hC := hC2; clear hC2 z0 z1; have z0 := G1.cell_ 0; have z1 := G1.cell_ 1; simp at z0 z1))
    | (go_at_call 55; ((with_reducible refine (refusal_b _ _ _ _ _ _ _ _ _ _ _ _ k l _ _ _ hC hk hwr).mono ?_); rintro e' wN ⟨rfl, hb⟩; (try have hb := undrew hb); replace hC := ChipW.likeB hC hb; replace HT := HT.then hb; replace G1 := G1.below hb G1.lt; clear z0 z1; have z0 := G1.cell_ 0; have z1 := G1.cell_ 1; simp at z0 z1)))
  go_ret
  exact ⟨rfl, hC, HT⟩
set_option maxHeartbeats 4000000 in
theorem prog_err (m gx gb : Nat) (Af : Option Addr) (nf cf : Nat) (a b c d e : Int) (fs : List Flt) (k l N RW : Nat) (n : Int) (bs : List Nat) (gA oA cA : Nat) (w : World) (s : ChS) (hC : ChipW w m gx gb Af nf cf a b c d e fs s) (hbn : s.Bnd n) (hn : n ≤ 1000000000) (ho : s.on = true) (hk : (k : Int) < a) (hl : (l : Int) < b) (hnum : Hid (numberI a b (k : Int) (l : Int) = (N : Int))) (HRW : Hid ((RW : Int) = c + 16)) (hfit0 : Hid (N * RW + RW ≤ s.X.length)) (r1 : 40 ≤ RW) (r2 : RW ≤ 80) (hN2 : N < 200) (hsl : ∀ j u, (bs.map byteV)[j]? = some u → w.cell? ⟨gA, oA + j, none⟩ = some u) (hgA : gA < w.heap.size) (hgn : ¬ chB m gx gb gA) (hbl : bs.length = RW) (hcu : Hid (s.cutB = false)) (z : Int) (hwr0 : s.wrong a fs k l = z) (hz : z ≠ 0) : Calls Try.prog 17 #[.pointer (some ⟨m, 0, none⟩), .agg #[.int .i64 (k : Int), .int .i64 (l : Int)], .slice (some ⟨gA, oA, none⟩) RW cA] w fun e' w' => e' = .returned (.int .i64 z) ∧ ChipW w' m gx gb Af nf cf a b c d e fs s.tick ∧ Tch (chB m gx gb) w w' := by
  have hnb : ¬ chB m gx gb w.heap.size := by have := hC.lt; unfold chB; omega
  have ht : Hid (thereB a b (k : Int) (l : Int) = true) := Lib.hid (by unfold thereB withinB; simp; omega)
  have HM := Lib.hid (planMay_bd hC.may).1
  have hwr : Hid (s.tick.wrong a fs k l = z) := Lib.hid (by rw [wrong_tick]; exact hwr0)
  have hfit : Hid (N * RW + RW ≤ s.tick.X.length) := Lib.hid (by rw [tick_X]; exact hfit0.out)
  have HSL := Lib.hid hsl
  have HBL := Lib.hid hbl
  clear hsl hbl hwr0
  have HB0 : Below w.heap.size w (w.alloc (.cells #[.int .i64 (k : Int), .int .i64 (l : Int)] 33)) := (Below.refl _ _).alloc (Nat.le_refl _) _
  have G1 : Blk (w.alloc (.cells #[.int .i64 (k : Int), .int .i64 (l : Int)] 33)) w.heap.size 33 #[.int .i64 (k : Int), .int .i64 (l : Int)] := Blk.new_ _ _ _
  have z0 : (w.alloc (.cells #[.int .i64 (k : Int), .int .i64 (l : Int)] 33)).cell? ⟨w.heap.size, 0, none⟩ = some (.int .i64 (k : Int)) := G1.cell_ 0
  have z1 : (w.alloc (.cells #[.int .i64 (k : Int), .int .i64 (l : Int)] 33)).cell? ⟨w.heap.size, 1, none⟩ = some (.int .i64 (l : Int)) := G1.cell_ 1
  have hC := hC.below HB0
  have y10 := cell10 hC
  rw [ho] at y10
  clear ho
  have hzz : (z != 0) = true := by simp [hz]
  clear hz
  go_enter Try.func17, Try.ntmps17
  go_wp2_with (first
    | (go_at_call 53; ((with_reducible refine (hasPage_b _ _ _ _ _ _ _ _ _ _ _ _ _ _ _ _ _ hC ht).mono ?_); rintro e' wN ⟨rfl, hb⟩; replace hC := hC.below hb; replace HB0 := btr HB0 HB0.size hb; replace G1 := G1.below hb G1.lt; clear z0 z1 y10; have z0 := G1.cell_ 0; have z1 := G1.cell_ 1; simp at z0 z1; obtain ⟨y0, y1, y2, y3, y4⟩ := geo5 hC))
    | (go_at_call 34; ((with_reducible refine (raw_bb _ _ _ _ _ RW _ HM HRW).mono ?_); rintro e' wN ⟨rfl, hb⟩; replace hC := hC.below hb; replace HB0 := btr HB0 HB0.size hb; replace G1 := G1.below hb G1.lt; clear z0 z1 y0 y1 y2 y3 y4; have z0 := G1.cell_ 0; have z1 := G1.cell_ 1; simp at z0 z1))
    | (go_at_call 54; ((with_reducible refine (begin_b _ _ _ _ _ _ _ _ _ _ _ _ _ _ _ _ hC hbn hn hcu).mono ?_); rintro e' wN ⟨rfl, hC2, hT⟩; have HT := (Tch.of_below (S := chB m gx gb) HB0).trans hT; have hlt0 := hT.far w.heap.size G1.lt hnb; replace G1 : Blk wN w.heap.size _ _ := hlt0.trans G1; clear hlt0 hC; have hC := hC2; clear hC2 z0 z1; have z0 := G1.cell_ 0; have z1 := G1.cell_ 1; simp at z0 z1))
    | (go_at_call 55; ((with_reducible refine (refusal_b _ _ _ _ _ _ _ _ _ _ _ _ k l _ _ _ hC hk hwr).mono ?_); rintro e' wN ⟨rfl, hb⟩; (try have hb := undrew hb); replace hC := ChipW.likeB hC hb; replace HT := HT.then hb; replace G1 := G1.below hb G1.lt; clear z0 z1; have z0 := G1.cell_ 0; have z1 := G1.cell_ 1; simp at z0 z1)))
  go_ret
  exact ⟨rfl, hC, HT⟩
end Go.Proofs.Ytplniojeaodjiaa
