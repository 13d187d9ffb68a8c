/- Extents' functions of ints, by contracts. -/
import Derived.Test.YtmhookkfhknljaaExtM
import Derived.Test.YtmhookkfhknljaaSameB
import Derived.Test.YtmhookkfhknljaaGeomB
import Derived.Test.YtmhookkfhknljaaGeomR6
import Derived.Test.YtmhookkfhknljaaOpenS2
namespace Go.Proofs.Ytmhookkfhknljaa
open Go.ChangeShapes Go.WideShapes Go.ChangeAt Go.RowKit
set_option linter.unusedSimpArgs false
set_option linter.unusedVariables false

theorem gmay_yes (a b c d e : Int) (w : World) (hm : Hid (mayB a b c d e = true)) :
    Calls Try.prog 15 #[.agg #[.int .i64 a, .int .i64 b, .int .i64 c, .int .i64 d, .int .i64 e]] w fun e' w' => e' = .returned (.bool true) ∧ Below w.heap.size w w' := by
  have q := may_any a b c d e w
  rwa [hm.out] at q
theorem emay_yes (a b c d e : Int) (z : Int) (w : World) (hm : Hid (mayB a b c d e = true)) (hz : 0 ≤ z) (hz2 : z ≤ 1048576) :
    Calls Try.prog 19 #[.agg #[.int .i64 a, .int .i64 b, .int .i64 c, .int .i64 d, .int .i64 e], .int .i64 z] w fun e' w' => e' = .returned (.bool true) ∧ Below w.heap.size w w' := by
  have HB0 : Below w.heap.size w (w.alloc (.cells #[.int .i64 a, .int .i64 b, .int .i64 c, .int .i64 d, .int .i64 e] 23)) := (Below.refl _ _).alloc (Nat.le_refl _) _
  have G1 : Blk (w.alloc (.cells #[.int .i64 a, .int .i64 b, .int .i64 c, .int .i64 d, .int .i64 e] 23)) w.heap.size 23 #[.int .i64 a, .int .i64 b, .int .i64 c, .int .i64 d, .int .i64 e] := Blk.new_ _ _ _
  go_enter Try.func19, Try.ntmps19
  go_wp2_with (go_at_call 15; ((with_reducible refine (gmay_yes _ _ _ _ _ _ hm).mono ?_); rintro e' wN ⟨rfl, hb⟩; have HB0 := btr HB0 HB0.size hb; have G1 := G1.below hb G1.lt; (try clear y0 y1 y2 y3 y4); have y0 := G1.cell_ 0; have y1 := G1.cell_ 1; have y2 := G1.cell_ 2; have y3 := G1.cell_ 3; have y4 := G1.cell_ 4; simp at y0 y1 y2 y3 y4; clear hb))
  go_ret
  exact ⟨rfl, HB0⟩
theorem eparts_any (s e : Int) (w : World) (hs : 0 ≤ s) (hs2 : s ≤ 1000000000) (he : 1 ≤ e) (he2 : e ≤ 1000) (P : Int) (hP : partsI s e = P) :
    Calls Try.prog 20 #[.int .i64 s, .int .i64 e] w fun e' w' => e' = .returned (.int .i64 P) ∧ w = w' := by
  have h1 : (s + e - 1).tdiv e = (s + e - 1) / e := Int.tdiv_eq_ediv_of_nonneg (by omega)
  have h2 : 0 ≤ (s + e - 1) / e := Int.ediv_nonneg (by omega) (by omega)
  have h3 : (s + e - 1) / e ≤ s + e - 1 := Int.ediv_le_self _ (by omega)
  unfold partsI at hP
  obtain ⟨q, hq⟩ : ∃ q, (s + e - 1) / e = q := ⟨_, rfl⟩
  rw [hq] at h1 h2 h3 hP
  have h4 : ¬ e = 0 := by omega
  clear hq
  go_enter Try.func20, Try.ntmps20
  go_wp2
  all_goals
    go_ret
    exact ⟨congrArg (fun z => Ending.returned (Value.int .i64 z)) (by omega), rfl⟩
theorem pages_any (a b c d e : Int) (z : Int) (P : Int) (w : World) (hm : Hid (mayB a b c d e = true)) (hz : 0 ≤ z) (hz2 : z ≤ 1048576) (hP : partsI z c = P) :
    Calls Try.prog 10 #[.agg #[.int .i64 a, .int .i64 b, .int .i64 c, .int .i64 d, .int .i64 e], .int .i64 z] w fun e' w' => e' = .returned (.int .i64 P) ∧ Below w.heap.size w w' := by
  have hbd := may_bd hm.out
  have c1 : 24 ≤ c := hbd.2.2.2.2.1
  have c2 : c ≤ 64 := hbd.2.2.2.2.2.1
  clear hbd
  have HP := Lib.hid hP
  clear hP
  have HB0 : Below w.heap.size w (w.alloc (.cells #[.int .i64 a, .int .i64 b, .int .i64 c, .int .i64 d, .int .i64 e] 23)) := (Below.refl _ _).alloc (Nat.le_refl _) _
  have G1 : Blk (w.alloc (.cells #[.int .i64 a, .int .i64 b, .int .i64 c, .int .i64 d, .int .i64 e] 23)) w.heap.size 23 #[.int .i64 a, .int .i64 b, .int .i64 c, .int .i64 d, .int .i64 e] := Blk.new_ _ _ _
  go_enter Try.func10, Try.ntmps10
  go_wp2_with (first
    | (go_at_call 19; ((with_reducible refine (emay_yes _ _ _ _ _ _ _ hm (by omega) (by omega)).mono ?_); rintro e' wN ⟨rfl, hb⟩; have HB0 := btr HB0 HB0.size hb; have G1 := G1.below hb G1.lt; (try clear y0 y1 y2 y3 y4); have y0 := G1.cell_ 0; have y1 := G1.cell_ 1; have y2 := G1.cell_ 2; have y3 := G1.cell_ 3; have y4 := G1.cell_ 4; simp at y0 y1 y2 y3 y4; clear hb))
    | (go_at_call 20; ((with_reducible refine (eparts_any _ _ _ (by omega) (by omega) (by omega) (by omega) _ HP.out).mono ?_); rintro e' wN ⟨rfl, rfl⟩; skip)))
  go_ret
  exact ⟨rfl, HB0⟩
theorem eindex_any (a b c d e : Int) (n p : Int) (P : Int) (w : World) (hm : Hid (mayB a b c d e = true)) (hn : 0 ≤ n) (hn2 : n ≤ 1000) (hp : 0 ≤ p) (hp2 : p ≤ 400000000) (hP : partsI (2 + 4 * n + 2 * p) (c - 2) = P) :
    Calls Try.prog 22 #[.agg #[.int .i64 a, .int .i64 b, .int .i64 c, .int .i64 d, .int .i64 e], .int .i64 n, .int .i64 p] w fun e' w' => e' = .returned (.int .i64 P) ∧ Below w.heap.size w w' := by
  have hbd := may_bd hm.out
  have c1 : 24 ≤ c := hbd.2.2.2.2.1
  have c2 : c ≤ 64 := hbd.2.2.2.2.2.1
  clear hbd
  have HP := Lib.hid hP
  clear hP
  have HB0 : Below w.heap.size w (w.alloc (.cells #[.int .i64 a, .int .i64 b, .int .i64 c, .int .i64 d, .int .i64 e] 23)) := (Below.refl _ _).alloc (Nat.le_refl _) _
  have G1 : Blk (w.alloc (.cells #[.int .i64 a, .int .i64 b, .int .i64 c, .int .i64 d, .int .i64 e] 23)) w.heap.size 23 #[.int .i64 a, .int .i64 b, .int .i64 c, .int .i64 d, .int .i64 e] := Blk.new_ _ _ _
  go_enter Try.func22, Try.ntmps22
  go_wp2_with (go_at_call 20; ((with_reducible refine (eparts_any _ _ _ (by omega) (by omega) (by omega) (by omega) _ HP.out).mono ?_); rintro e' wN ⟨rfl, rfl⟩; skip))
  go_ret
  exact ⟨rfl, HB0⟩
set_option maxRecDepth 100000 in
set_option maxHeartbeats 4000000 in
theorem ecount_any (a b c d e : Int) (ns : List Int) (n : Nat) (P : Int) (A : Option Addr) (k : Nat) (w : World) (hm : Hid (mayB a b c d e = true)) (hl : ns.length = n) (hn : n ≤ 100) (hb : ∀ z ∈ ns, 0 ≤ z ∧ z ≤ 1048576) (h1 : Sl w w.heap.size A (ns.map (Value.int .i64))) (hP : sumP c ns = P) :
    Calls Try.prog 21 #[.agg #[.int .i64 a, .int .i64 b, .int .i64 c, .int .i64 d, .int .i64 e], .slice A n k] w fun e' w' => e' = .returned (.tuple #[.int .i64 P, .bool true]) ∧ Below w.heap.size w w' := by
  have hbd := may_bd hm.out
  have c1 : 24 ≤ c := hbd.2.2.2.2.1
  clear hbd
  have HL := Lib.hid hl
  have HBD := Lib.hid hb
  have HP := Lib.hid hP
  clear hP hl hb
  have HB0 : Below w.heap.size w (w.alloc (.cells #[.int .i64 a, .int .i64 b, .int .i64 c, .int .i64 d, .int .i64 e] 23)) := (Below.refl _ _).alloc (Nat.le_refl _) _
  have G1 : Blk (w.alloc (.cells #[.int .i64 a, .int .i64 b, .int .i64 c, .int .i64 d, .int .i64 e] 23)) w.heap.size 23 #[.int .i64 a, .int .i64 b, .int .i64 c, .int .i64 d, .int .i64 e] := Blk.new_ _ _ _
  have H1 := h1.next HB0
  clear h1
  go_enter Try.func21, Try.ntmps21
  go_wp2_with fail
  go_loopw [6, 11] (fun s i wr => ∃ j : Nat, j ≤ n ∧ i = .int .i64 j ∧ s = .int .i64 (sumP c (ns.take j)) ∧ Below w.heap.size w wr ∧ Blk wr w.heap.size 23 #[.int .i64 a, .int .i64 b, .int .i64 c, .int .i64 d, .int .i64 e] ∧ Sl wr wr.heap.size A (ns.map (Value.int .i64))) (fun _ i _ => n - (intOf i).toNat)
  case atStart => exact ⟨0, Nat.zero_le _, rfl, rfl, HB0, G1, H1⟩
  case round =>
    obtain ⟨j, hj, rfl, rfl, HBr, Gr, Hr⟩ := hrel
    clear HB0 G1 H1
    have HB0 := HBr
    have G1 := Gr
    have H1 := Hr
    clear HBr Gr Hr
    have y0 := G1.cell_ 0
    have y1 := G1.cell_ 1
    have y2 := G1.cell_ 2
    have y3 := G1.cell_ 3
    have y4 := G1.cell_ 4
    simp at y0 y1 y2 y3 y4
    have hs := sumP_bd c (by omega) (ns.take j) (fun z hz => HBD.out z (List.mem_of_mem_take hz))
    have hlt2 : (ns.take j).length ≤ 100 := by rw [List.length_take, HL.out]; omega
    obtain ⟨S, hS⟩ : ∃ S, sumP c (ns.take j) = S := ⟨_, rfl⟩
    have HS := Lib.hid hS
    rw [hS] at hs ⊢
    have s1 : 0 ≤ S := by omega
    have s2 : S ≤ 200000000 := by omega
    clear hS hs hlt2
    by_cases hlt : j < n
    · have hlx : j < ns.length := by have := HL.out; omega
      obtain ⟨b1, o1, rfl, l1, q1⟩ := H1.at_ (by rw [List.length_map]; omega)
      obtain ⟨z, hz⟩ : ∃ z, ns.getD j 0 = z := ⟨_, rfl⟩
      have hzm : z ∈ ns := by
        rw [← hz, List.getD_eq_getElem?_getD, List.getElem?_eq_getElem hlx]
        exact List.getElem_mem hlx
      have hzb := HBD.out z hzm
      have z1 := hzb.1
      have z2 := hzb.2
      have cz : wr.cell? ⟨b1, o1 + j, none⟩ = some (.int .i64 z) := q1 j _ (by
        rw [List.getElem?_map, List.getElem?_eq_getElem hlx, ← hz, List.getD_eq_getElem?_getD, List.getElem?_eq_getElem hlx]
        rfl)
      have hst := sumP_take c ns j hlx
      rw [hz, HS.out] at hst
      obtain ⟨Q, hQ⟩ : ∃ Q, partsI z c = Q := ⟨_, rfl⟩
      rw [hQ] at hst
      have HQ := Lib.hid hQ
      have Q1 : Q ≤ 1048577 := by rw [← hQ]; have := parts_bd (s := z) (e := c) (by omega) z1; omega
      have Q0 : 1 ≤ Q := by rw [← hQ]; exact parts_pos z c
      have HST := Lib.hid hst
      have i0 : (0 : Int) ≤ (j : Int) := by omega
      have i1 : (j : Int) < (n : Int) := by omega
      clear q1 hz hst hQ hzb hzm hlx
      go_wp2_with (first
        | (go_at_call 19; ((with_reducible refine (emay_yes _ _ _ _ _ _ _ hm (by omega) (by omega)).mono ?_); rintro e' wN ⟨rfl, hb⟩; have H1 := H1.next hb; have HB0 := btr HB0 HB0.size hb; have G1 := G1.below hb G1.lt; (try clear y0 y1 y2 y3 y4); have y0 := G1.cell_ 0; have y1 := G1.cell_ 1; have y2 := G1.cell_ 2; have y3 := G1.cell_ 3; have y4 := G1.cell_ 4; simp at y0 y1 y2 y3 y4; clear hb))
        | (go_at_call 10; ((with_reducible refine (pages_any _ _ _ _ _ _ Q _ hm (by omega) (by omega) HQ.out).mono ?_); rintro e' wN ⟨rfl, hb⟩; have H1 := H1.next hb; have HB0 := btr HB0 HB0.size hb; have G1 := G1.below hb G1.lt; (try clear y0 y1 y2 y3 y4); have y0 := G1.cell_ 0; have y1 := G1.cell_ 1; have y2 := G1.cell_ 2; have y3 := G1.cell_ 3; have y4 := G1.cell_ 4; simp at y0 y1 y2 y3 y4; clear hb)))
      go_roundw
      case rel => exact ⟨j + 1, by omega, by go_num, by rw [HST.out], HB0, G1, H1⟩
      case measure => simp [intOf]; omega
    · have hjn : j = n := by omega
      have hSP : S = P := by
        rw [← HS.out, ← HP.out, List.take_of_length_le (by rw [HL.out]; omega)]
      subst hSP
      clear hlt
      go_wp2_with (go_at_call 15; ((with_reducible refine (gmay_yes _ _ _ _ _ _ hm).mono ?_); rintro e' wN ⟨rfl, hb⟩; have H1 := H1.next hb; have HB0 := btr HB0 HB0.size hb; have G1 := G1.below hb G1.lt; (try clear y0 y1 y2 y3 y4); have y0 := G1.cell_ 0; have y1 := G1.cell_ 1; have y2 := G1.cell_ 2; have y3 := G1.cell_ 3; have y4 := G1.cell_ 4; simp at y0 y1 y2 y3 y4; clear hb))
      go_ret2
      exact ⟨rfl, HB0⟩
end Go.Proofs.Ytmhookkfhknljaa
