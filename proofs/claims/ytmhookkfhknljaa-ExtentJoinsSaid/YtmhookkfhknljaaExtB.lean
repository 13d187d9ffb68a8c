/- Extents' Need, Index; the geometry of awake. -/
import Derived.Test.YtmhookkfhknljaaExtA
namespace Go.Proofs.Ytmhookkfhknljaa
open Go.ChangeShapes Go.WideShapes Go.ChangeAt Go.RowKit
set_option linter.unusedSimpArgs false
set_option linter.unusedVariables false
theorem eneed_any (a b c d e : Int) (ns : List Int) (n : Nat) (P : Int) (A : Option Addr) (k : Nat) (w : World) (hm : Hid (mayB a b c d e = true)) (hl : ns.length = n) (hn : n ≤ 100) (hb : ∀ z ∈ ns, 0 ≤ z ∧ z ≤ 1048576) (h1 : Sl w w.heap.size A (ns.map (Value.int .i64))) (hP : needI c ns = P) :
    Calls Try.prog 13 #[.agg #[.int .i64 a, .int .i64 b, .int .i64 c, .int .i64 d, .int .i64 e], .slice A n k] w fun e' w' => e' = .returned (.int .i64 P) ∧ Below w.heap.size w w' := by
  have hbd := may_bd hm.out
  have c1 : 24 ≤ c := hbd.2.2.2.2.1
  have c2 : c ≤ 64 := hbd.2.2.2.2.2.1
  clear hbd
  have hs := sumP_bd c (by omega) ns hb
  obtain ⟨S, hS⟩ : ∃ S, sumP c ns = S := ⟨_, rfl⟩
  obtain ⟨I, hI⟩ : ∃ S, idxI c ns = S := ⟨_, rfl⟩
  have hI2 : partsI (2 + 4 * (n : Int) + 2 * S) (c - 2) = I := by rw [← hI, ← hS, ← hl]; rfl
  have HI := Lib.hid hI2
  have I0 : 1 ≤ I := by rw [← hI]; exact parts_pos _ _
  rw [hS] at hs
  have s1 : 0 ≤ S := by omega
  have s2 : S ≤ 200000000 := by omega
  have I1 : I ≤ 400001000 := by rw [← hI2]; have := parts_bd (s := 2 + 4 * (n : Int) + 2 * S) (e := c - 2) (by omega) (by omega); omega
  have hp : S + I = P := by rw [← hP, ← hI]; unfold needI; rw [hS]
  have HSS := Lib.hid hS
  have HL := Lib.hid hl
  have HBD := Lib.hid hb
  have n0 : (0 : Int) ≤ (n : Int) := by omega
  have n1 : (n : Int) ≤ 100 := by omega
  subst hp
  clear hP hS hI hI2 hl hs hb
  have HB0 : Below w.heap.size w (w.alloc (.cells #[.int .i64 a, .int .i64 b, .int .i64 c, .int .i64 d, .int .i64 e] 23)) := (Below.refl _ _).alloc (Nat.le_refl _) _
  have G1 : Blk (w.alloc (.cells #[.int .i64 a, .int .i64 b, .int .i64 c, .int .i64 d, .int .i64 e] 23)) w.heap.size 23 #[.int .i64 a, .int .i64 b, .int .i64 c, .int .i64 d, .int .i64 e] := Blk.new_ _ _ _
  have H1 := h1.next HB0
  clear h1
  go_enter Try.func13, Try.ntmps13
  go_wp2_with (first
    | (go_at_call 21; ((with_reducible refine (ecount_any _ _ _ _ _ ns n S _ _ _ hm HL.out hn HBD.out H1 HSS.out).mono ?_); rintro e' wN ⟨rfl, hb⟩; have HB0 := btr HB0 HB0.size hb; have G1 := G1.below hb G1.lt; (try clear y0 y1 y2 y3 y4); have y0 := G1.cell_ 0; have y1 := G1.cell_ 1; have y2 := G1.cell_ 2; have y3 := G1.cell_ 3; have y4 := G1.cell_ 4; simp at y0 y1 y2 y3 y4; clear hb))
    | (go_at_call 22; ((with_reducible refine (eindex_any _ _ _ _ _ _ _ I _ hm (by omega) (by omega) (by omega) (by omega) HI.out).mono ?_); rintro e' wN ⟨rfl, hb⟩; have HB0 := btr HB0 HB0.size hb; have G1 := G1.below hb G1.lt; (try clear y0 y1 y2 y3 y4); have y0 := G1.cell_ 0; have y1 := G1.cell_ 1; have y2 := G1.cell_ 2; have y3 := G1.cell_ 3; have y4 := G1.cell_ 4; simp at y0 y1 y2 y3 y4; clear hb)))
  go_ret
  exact ⟨rfl, HB0⟩
theorem eidx_any (a b c d e : Int) (ns : List Int) (n : Nat) (P : Int) (A : Option Addr) (k : Nat) (w : World) (hm : Hid (mayB a b c d e = true)) (hl : ns.length = n) (hn : n ≤ 100) (hb : ∀ z ∈ ns, 0 ≤ z ∧ z ≤ 1048576) (h1 : Sl w w.heap.size A (ns.map (Value.int .i64))) (hP : idxI c ns = P) :
    Calls Try.prog 14 #[.agg #[.int .i64 a, .int .i64 b, .int .i64 c, .int .i64 d, .int .i64 e], .slice A n k] w fun e' w' => e' = .returned (.int .i64 P) ∧ Below w.heap.size w w' := by
  have hbd := may_bd hm.out
  have c1 : 24 ≤ c := hbd.2.2.2.2.1
  have c2 : c ≤ 64 := hbd.2.2.2.2.2.1
  clear hbd
  have hs := sumP_bd c (by omega) ns hb
  obtain ⟨S, hS⟩ : ∃ S, sumP c ns = S := ⟨_, rfl⟩
  obtain ⟨I, hI⟩ : ∃ S, idxI c ns = S := ⟨_, rfl⟩
  have hI2 : partsI (2 + 4 * (n : Int) + 2 * S) (c - 2) = I := by rw [← hI, ← hS, ← hl]; rfl
  have HI := Lib.hid hI2
  have I0 : 1 ≤ I := by rw [← hI]; exact parts_pos _ _
  rw [hS] at hs
  have s1 : 0 ≤ S := by omega
  have s2 : S ≤ 200000000 := by omega
  have I1 : I ≤ 400001000 := by rw [← hI2]; have := parts_bd (s := 2 + 4 * (n : Int) + 2 * S) (e := c - 2) (by omega) (by omega); omega
  have hp : I = P := by rw [← hP, ← hI]
  have HSS := Lib.hid hS
  have HL := Lib.hid hl
  have HBD := Lib.hid hb
  have n0 : (0 : Int) ≤ (n : Int) := by omega
  have n1 : (n : Int) ≤ 100 := by omega
  subst hp
  clear hP hS hI hI2 hl hs hb
  have HB0 : Below w.heap.size w (w.alloc (.cells #[.int .i64 a, .int .i64 b, .int .i64 c, .int .i64 d, .int .i64 e] 23)) := (Below.refl _ _).alloc (Nat.le_refl _) _
  have G1 : Blk (w.alloc (.cells #[.int .i64 a, .int .i64 b, .int .i64 c, .int .i64 d, .int .i64 e] 23)) w.heap.size 23 #[.int .i64 a, .int .i64 b, .int .i64 c, .int .i64 d, .int .i64 e] := Blk.new_ _ _ _
  have H1 := h1.next HB0
  clear h1
  go_enter Try.func14, Try.ntmps14
  go_wp2_with (first
    | (go_at_call 21; ((with_reducible refine (ecount_any _ _ _ _ _ ns n S _ _ _ hm HL.out hn HBD.out H1 HSS.out).mono ?_); rintro e' wN ⟨rfl, hb⟩; have HB0 := btr HB0 HB0.size hb; have G1 := G1.below hb G1.lt; (try clear y0 y1 y2 y3 y4); have y0 := G1.cell_ 0; have y1 := G1.cell_ 1; have y2 := G1.cell_ 2; have y3 := G1.cell_ 3; have y4 := G1.cell_ 4; simp at y0 y1 y2 y3 y4; clear hb))
    | (go_at_call 22; ((with_reducible refine (eindex_any _ _ _ _ _ _ _ I _ hm (by omega) (by omega) (by omega) (by omega) HI.out).mono ?_); rintro e' wN ⟨rfl, hb⟩; have HB0 := btr HB0 HB0.size hb; have G1 := G1.below hb G1.lt; (try clear y0 y1 y2 y3 y4); have y0 := G1.cell_ 0; have y1 := G1.cell_ 1; have y2 := G1.cell_ 2; have y3 := G1.cell_ 3; have y4 := G1.cell_ 4; simp at y0 y1 y2 y3 y4; clear hb)))
  go_ret
  exact ⟨rfl, HB0⟩
theorem small_any (w : World) :
    Calls Try.prog 18 #[] w fun e' w' => e' = .returned (.agg #[.int .i64 8, .int .i64 4, .int .i64 32, .int .i64 0, .int .i64 2]) ∧ Below w.heap.size w w' := by
  go_enter Try.func18, Try.ntmps18
  go_wp2
  exact bodyPost_ret (v := .agg #[.int .i64 8, .int .i64 4, .int .i64 32, .int .i64 0, .int .i64 2]) (by simp [results, Try.results18, go_sem]) rfl ⟨rfl, (Below.refl _ _).alloc (Nat.le_refl _) _⟩
end Go.Proofs.Ytmhookkfhknljaa
