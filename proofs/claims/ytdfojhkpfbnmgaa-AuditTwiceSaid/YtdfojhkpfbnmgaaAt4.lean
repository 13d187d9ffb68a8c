/- wear.look, by its contract. -/
import Derived.Test.YtdfojhkpfbnmgaaAt1
import Derived.Test.YtdfojhkpfbnmgaaAt3
import Derived.Test.YtdfojhkpfbnmgaaAt2
import Derived.Maps.OwnSet
import Derived.Maps.OwnOps
set_option linter.unusedSimpArgs false
set_option linter.unusedVariables false
set_option maxRecDepth 100000
set_option maxHeartbeats 16000000
namespace Go.Proofs.Ytdfojhkpfbnmgaa
open Go.ChangeShapes Go.WideShapes Go.ChangeAt Go.RowKit
theorem look_le (ws : List Int) (good : List Bool) (A1 A2 : Option Addr) (c1 c2 : Nat) (w : World)
    (h1 : Sl w w.heap.size A1 (ws.map (Value.int .i64))) (h2 : Sl w w.heap.size A2 (good.map Value.bool)) (n1 : ws.length ≤ 1000000) (n2 : good.length ≤ 1000000)
    (hw : ∀ z ∈ ws, -4611686018427387904 ≤ z ∧ z ≤ 4611686018427387904) (hm : ws.length ≤ good.length) :
    Calls Try.prog 58 #[.slice A1 ws.length c1, .slice A2 good.length c2] w fun e w' =>
      e = .returned (.agg #[.int .i64 (cntW good (mlen ws good)), .int .i64 (ext ws good 1 (mlen ws good)), .int .i64 (ext ws good (-1) (mlen ws good))]) ∧ Below w.heap.size w w' := by
  have em : mlen ws good = ws.length := by unfold mlen; omega
  rw [em]
  have Em := Lib.hid em
  have HW := Lib.hid hw
  clear em hw
  go_enter Try.func58, Try.ntmps58
  go_wp2
  go_loopw [13] (fun i wr => ∃ k : Nat, k ≤ ws.length ∧ i = .int .i64 k ∧ Below w.heap.size w wr ∧ Blk wr w.heap.size 94 #[.int .i64 0, .int .i64 0, .int .i64 0] ∧
      Blk wr (w.heap.size + 1) 94 #[.int .i64 (cntW good k), .int .i64 (ext ws good 1 k), .int .i64 (ext ws good (-1) k)]) (fun i _ => ws.length - (intOf i).toNat)
  case atStart =>
    refine ⟨0, Nat.zero_le _, rfl, ((Below.refl _ _).alloc (Nat.le_refl _) _).alloc (by simp) _, (Blk.new_ _ _ _).alloc_ _, ?_⟩
    have := Blk.new_ (w.alloc (.cells #[.int .i64 0, .int .i64 0, .int .i64 0] 94)) 94 #[.int .i64 0, .int .i64 (-1), .int .i64 (-1)]
    simpa [cntW, ext] using this
  case round =>
    obtain ⟨k, hk, rfl, hBr, R0, R1⟩ := hrel
    by_cases hlt : k < ws.length
    · have hk1 : k < ws.length := by omega
      have hk2 : k < good.length := by omega
      have s1 := (h1.below hBr).at_ (by simpa using (by omega : 0 < ws.length))
      have s2 := (h2.below hBr).at_ (by simpa using (by omega : 0 < good.length))
      obtain ⟨b1, o1, rfl, l1, q1⟩ := s1
      obtain ⟨b2, o2, rfl, l2, q2⟩ := s2
      obtain ⟨g, hg⟩ : ∃ g, good.getD k false = g := ⟨_, rfl⟩
      have cg : wr.cell? ⟨b2, o2 + k, none⟩ = some (.bool g) := q2 k _ (by rw [← hg]; simp [hk2])
      have Q1 := Lib.hid q1
      clear q2
      have w0 := R1.cell_ 0
      have w1 := R1.cell_ 1
      have w2 := R1.cell_ 2
      have wf := R1.free
      simp at w0 w1 w2
      have i1 : (0 : Int) ≤ (k : Int) := by omega
      have i2 : (k : Int) < (ws.length : Int) := by omega
      have i3 : (k : Int) < (good.length : Int) := by omega
      have l3 := R1.lt
      have Hg := Lib.hid hg
      have Hne1 : b1 ≠ w.heap.size + 1 := by omega
      have Hne2 : b2 ≠ w.heap.size + 1 := by omega
      have eb1 := ext_bd ws good 1 k
      have eb2 := ext_bd ws good (-1) k
      have en1 := ext_neg ws good 1 k
      have en2 := ext_neg ws good (-1) k
      have ec := cntW_le good k
      obtain ⟨e1, he1⟩ : ∃ x, ext ws good 1 k = x := ⟨_, rfl⟩
      obtain ⟨e2, he2⟩ : ∃ x, ext ws good (-1) k = x := ⟨_, rfl⟩
      obtain ⟨c, hc⟩ : ∃ x, cntW good k = x := ⟨_, rfl⟩
      rw [he1] at w1 eb1 en1 R1
      rw [he2] at w2 eb2 en2 R1
      rw [hc] at w0 en1 en2 ec R1
      have He1 := Lib.hid he1
      have He2 := Lib.hid he2
      have Hc := Lib.hid hc
      clear hg he1 he2 hc
      cases g
      · clear q1
        go_wp2
        go_roundw
        case rel =>
          refine ⟨k + 1, by omega, by go_num, hBr, R0, ?_⟩
          have a1 : cntW good (k + 1) = c := by unfold cntW; rw [Hg.out, Hc.out]; simp
          have a2 : ext ws good 1 (k + 1) = e1 := by unfold ext; rw [Hg.out, He1.out]; simp
          have a3 : ext ws good (-1) (k + 1) = e2 := by unfold ext; rw [Hg.out, He2.out]; simp
          rw [a1, a2, a3]
          exact R1
        case measure => simp [intOf]; omega
      · have kw : ∃ z, ws.getD k 0 = z := ⟨_, rfl⟩
        obtain ⟨zk, hzk⟩ := kw
        have ck : wr.cell? ⟨b1, o1 + k, none⟩ = some (.int .i64 zk) := q1 k _ (by rw [← hzk]; simp [hk1])
        have a1 : cntW good (k + 1) = c + 1 := by unfold cntW; rw [Hg.out, Hc.out]; simp
        have Ha1 := Lib.hid a1
        have Hzk := Lib.hid hzk
        clear hzk a1 q1
        have i4 : (0 : Int) ≤ (c : Int) := by omega
        have i5 : (c : Int) ≤ 1000000 := by omega
        by_cases hneg : e1 < 0
        · have hc0 : c = 0 := en1.1 hneg
          have f1 : e1 = -1 := by omega
          have f2 : e2 = -1 := by omega
          subst f1
          subst f2
          subst hc0
          clear w0 w1 w2
          have w0 := R1.cell_ 0
          have w1 := R1.cell_ 1
          have w2 := R1.cell_ 2
          simp at w0 w1 w2
          go_wp2
          go_quiet (fail)
          go_wp2
          go_quiet (fail)
          go_wp2
          go_roundw
          case rel =>
            have a2 : ext ws good 1 (k + 1) = k := by unfold ext; rw [Hg.out, He1.out]; simp
            have a3 : ext ws good (-1) (k + 1) = k := by unfold ext; rw [Hg.out, He2.out]; simp
            refine ⟨k + 1, by omega, by go_num, ?_, ?_, ?_⟩
            · exact (below_dn ((below_dn (hBr.setCell (p := ⟨w.heap.size + 1, 0, none⟩) (by simp) _) _).setCell (p := ⟨w.heap.size + 1, 1, none⟩) (by simp) _) _).setCell (p := ⟨w.heap.size + 1, 2, none⟩) (by simp) _
            · exact ((((R0.far (p := ⟨w.heap.size + 1, 0, none⟩) (by simp) _).drewN_ _).far (p := ⟨w.heap.size + 1, 1, none⟩) (by simp) _).drewN_ _).far (p := ⟨w.heap.size + 1, 2, none⟩) (by simp) _
            · rw [Ha1.out, a2, a3]
              exact ((((R1.set_ 0 _).drewN_ _).set_ 1 _).drewN_ _).set_ 2 _
          case measure => simp [intOf]; omega
        · obtain ⟨j1, rfl⟩ : ∃ j : Nat, e1 = (j : Int) := ⟨e1.toNat, by omega⟩
          obtain ⟨j2, rfl⟩ : ∃ j : Nat, e2 = (j : Int) := ⟨e2.toNat, by omega⟩
          have hj1 : j1 < ws.length := by omega
          have hj2 : j2 < ws.length := by omega
          obtain ⟨z1, hz1⟩ : ∃ z, ws.getD j1 0 = z := ⟨_, rfl⟩
          obtain ⟨z2, hz2⟩ : ∃ z, ws.getD j2 0 = z := ⟨_, rfl⟩
          have v1 : wr.cell? ⟨b1, o1 + j1, none⟩ = some (.int .i64 z1) := Q1.out j1 _ (by rw [← hz1]; simp [hj1])
          have v2 : wr.cell? ⟨b1, o1 + j2, none⟩ = some (.int .i64 z2) := Q1.out j2 _ (by rw [← hz2]; simp [hj2])
          have a2 : ext ws good 1 (k + 1) = if zk < z1 then (k : Int) else j1 := by
            unfold ext
            rw [Hg.out, He1.out, Hzk.out, Int.toNat_natCast, hz1, Int.one_mul, Int.one_mul]
            by_cases h : zk < z1 <;> simp [h] <;> omega
          have a3 : ext ws good (-1) (k + 1) = if z2 < zk then (k : Int) else j2 := by
            unfold ext
            rw [Hg.out, He2.out, Hzk.out, Int.toNat_natCast, hz2]
            by_cases h : z2 < zk
            · have h' : -1 * zk < -1 * z2 := by omega
              simp only [h, h', or_true, and_self, if_true]
            · have h' : ¬ (-1 * zk < -1 * z2) := by omega
              have h'' : ¬ ((j2 : Int) < 0) := by omega
              simp only [h, h', h'', or_self, and_false, if_false]
          have m1 : (j1 : Int) < (ws.length : Int) := by omega
          have m2 : (j2 : Int) < (ws.length : Int) := by omega
          have m3 : (0 : Int) ≤ (j1 : Int) := by omega
          have m4 : (0 : Int) ≤ (j2 : Int) := by omega
          have heq : j1 = j2 → z1 = z2 := fun h => by rw [← hz1, ← hz2, h]
          have A2 := Lib.hid a2
          have A3 := Lib.hid a3
          clear w0 w1 w2 a2 a3 hz1 hz2 en1 en2 eb1 eb2 hneg
          have w0 := R1.cell_ 0
          have w1 := R1.cell_ 1
          have w2 := R1.cell_ 2
          simp at w0 w1 w2
          by_cases hj : j1 = j2
          · subst hj
            obtain rfl := heq rfl
            clear heq v2
            by_cases hA : zk < z1
            · have hB : ¬ z1 < zk := by omega
              have HA := Lib.hid hA
              have HB := Lib.hid hB
              go_wp2
              go_quiet (fail)
              go_wp2
              go_quiet (fail)
              go_wp2
              go_roundw
              case rel =>
                refine ⟨k + 1, by omega, by go_num, below_dn ((below_dn (hBr.setCell (p := ⟨w.heap.size + 1, 0, none⟩) (by simp) _) _).setCell (p := ⟨w.heap.size + 1, 1, none⟩) (by simp) _) _, (((R0.far (p := ⟨w.heap.size + 1, 0, none⟩) (by simp) _).drewN_ _).far (p := ⟨w.heap.size + 1, 1, none⟩) (by simp) _).drewN_ _, ?_⟩
                rw [Ha1.out, A2.out, A3.out, if_pos HA.out, if_neg (Int.not_lt.2 HB.out)]
                exact (((R1.set_ 0 _).drewN_ _).set_ 1 _).drewN_ _
              case measure => simp [intOf]; omega
            · by_cases hB : z1 < zk
              · have HA := Lib.hid hA
                have HB := Lib.hid hB
                go_wp2
                go_quiet (fail)
                go_wp2
                go_quiet (fail)
                go_wp2
                go_roundw
                case rel =>
                  refine ⟨k + 1, by omega, by go_num, (below_dn (hBr.setCell (p := ⟨w.heap.size + 1, 0, none⟩) (by simp) _) _).setCell (p := ⟨w.heap.size + 1, 2, none⟩) (by simp) _, ((R0.far (p := ⟨w.heap.size + 1, 0, none⟩) (by simp) _).drewN_ _).far (p := ⟨w.heap.size + 1, 2, none⟩) (by simp) _, ?_⟩
                  rw [Ha1.out, A2.out, A3.out, if_neg (Int.not_lt.2 HA.out), if_pos HB.out]
                  exact ((R1.set_ 0 _).drewN_ _).set_ 2 _
                case measure => simp [intOf]; omega
              · skip
                have HA := Lib.hid hA
                have HB := Lib.hid hB
                go_wp2
                go_quiet (fail)
                go_wp2
                go_quiet (fail)
                go_wp2
                go_roundw
                case rel =>
                  refine ⟨k + 1, by omega, by go_num, below_dn (hBr.setCell (p := ⟨w.heap.size + 1, 0, none⟩) (by simp) _) _, (R0.far (p := ⟨w.heap.size + 1, 0, none⟩) (by simp) _).drewN_ _, ?_⟩
                  rw [Ha1.out, A2.out, A3.out, if_neg (Int.not_lt.2 HA.out), if_neg (Int.not_lt.2 HB.out)]
                  exact (R1.set_ 0 _).drewN_ _
                case measure => simp [intOf]; omega
          · clear heq
            by_cases hA : zk < z1 <;> by_cases hB : z2 < zk
            · skip
              have HA := Lib.hid hA
              have HB := Lib.hid hB
              go_wp2
              go_quiet (fail)
              go_wp2
              go_quiet (fail)
              go_wp2
              go_roundw
              case rel =>
                refine ⟨k + 1, by omega, by go_num, (below_dn ((below_dn (hBr.setCell (p := ⟨w.heap.size + 1, 0, none⟩) (by simp) _) _).setCell (p := ⟨w.heap.size + 1, 1, none⟩) (by simp) _) _).setCell (p := ⟨w.heap.size + 1, 2, none⟩) (by simp) _, ((((R0.far (p := ⟨w.heap.size + 1, 0, none⟩) (by simp) _).drewN_ _).far (p := ⟨w.heap.size + 1, 1, none⟩) (by simp) _).drewN_ _).far (p := ⟨w.heap.size + 1, 2, none⟩) (by simp) _, ?_⟩
                rw [Ha1.out, A2.out, A3.out, if_pos HA.out, if_pos HB.out]
                exact ((((R1.set_ 0 _).drewN_ _).set_ 1 _).drewN_ _).set_ 2 _
              case measure => simp [intOf]; omega
            · skip
              have HA := Lib.hid hA
              have HB := Lib.hid hB
              go_wp2
              go_quiet (fail)
              go_wp2
              go_quiet (fail)
              go_wp2
              go_roundw
              case rel =>
                refine ⟨k + 1, by omega, by go_num, below_dn ((below_dn (hBr.setCell (p := ⟨w.heap.size + 1, 0, none⟩) (by simp) _) _).setCell (p := ⟨w.heap.size + 1, 1, none⟩) (by simp) _) _, (((R0.far (p := ⟨w.heap.size + 1, 0, none⟩) (by simp) _).drewN_ _).far (p := ⟨w.heap.size + 1, 1, none⟩) (by simp) _).drewN_ _, ?_⟩
                rw [Ha1.out, A2.out, A3.out, if_pos HA.out, if_neg (Int.not_lt.2 HB.out)]
                exact (((R1.set_ 0 _).drewN_ _).set_ 1 _).drewN_ _
              case measure => simp [intOf]; omega
            · skip
              have HA := Lib.hid hA
              have HB := Lib.hid hB
              go_wp2
              go_quiet (fail)
              go_wp2
              go_quiet (fail)
              go_wp2
              go_roundw
              case rel =>
                refine ⟨k + 1, by omega, by go_num, (below_dn (hBr.setCell (p := ⟨w.heap.size + 1, 0, none⟩) (by simp) _) _).setCell (p := ⟨w.heap.size + 1, 2, none⟩) (by simp) _, ((R0.far (p := ⟨w.heap.size + 1, 0, none⟩) (by simp) _).drewN_ _).far (p := ⟨w.heap.size + 1, 2, none⟩) (by simp) _, ?_⟩
                rw [Ha1.out, A2.out, A3.out, if_neg (Int.not_lt.2 HA.out), if_pos HB.out]
                exact ((R1.set_ 0 _).drewN_ _).set_ 2 _
              case measure => simp [intOf]; omega
            · skip
              have HA := Lib.hid hA
              have HB := Lib.hid hB
              go_wp2
              go_quiet (fail)
              go_wp2
              go_quiet (fail)
              go_wp2
              go_roundw
              case rel =>
                refine ⟨k + 1, by omega, by go_num, below_dn (hBr.setCell (p := ⟨w.heap.size + 1, 0, none⟩) (by simp) _) _, (R0.far (p := ⟨w.heap.size + 1, 0, none⟩) (by simp) _).drewN_ _, ?_⟩
                rw [Ha1.out, A2.out, A3.out, if_neg (Int.not_lt.2 HA.out), if_neg (Int.not_lt.2 HB.out)]
                exact (R1.set_ 0 _).drewN_ _
              case measure => simp [intOf]; omega
    · have hk' : k = ws.length := by omega
      subst hk'
      have w0 := R1.cell_ 0
      have w1 := R1.cell_ 1
      have w2 := R1.cell_ 2
      simp at w0 w1 w2
      have wf := R0.free
      have r0 := R0.cell_ 0
      have r1 := R0.cell_ 1
      have r2 := R0.cell_ 2
      simp at r0 r1 r2
      go_wp2
      refine bodyPost_ret (v := .agg #[.int .i64 (cntW good ws.length), .int .i64 (ext ws good 1 ws.length), .int .i64 (ext ws good (-1) ws.length)]) (by simp [results, Try.results58, go_sem, *]) rfl ⟨rfl, ?_⟩
      exact ((hBr.setCell (by simp) _).setCell (by simp) _).setCell (by simp) _
theorem look_ge (ws : List Int) (good : List Bool) (A1 A2 : Option Addr) (c1 c2 : Nat) (w : World)
    (h1 : Sl w w.heap.size A1 (ws.map (Value.int .i64))) (h2 : Sl w w.heap.size A2 (good.map Value.bool)) (n1 : ws.length ≤ 1000000) (n2 : good.length ≤ 1000000)
    (hw : ∀ z ∈ ws, -4611686018427387904 ≤ z ∧ z ≤ 4611686018427387904) (hm : good.length < ws.length) :
    Calls Try.prog 58 #[.slice A1 ws.length c1, .slice A2 good.length c2] w fun e w' =>
      e = .returned (.agg #[.int .i64 (cntW good (mlen ws good)), .int .i64 (ext ws good 1 (mlen ws good)), .int .i64 (ext ws good (-1) (mlen ws good))]) ∧ Below w.heap.size w w' := by
  have em : mlen ws good = good.length := by unfold mlen; omega
  rw [em]
  have Em := Lib.hid em
  have HW := Lib.hid hw
  clear em hw
  go_enter Try.func58, Try.ntmps58
  go_wp2
  go_loopw [13] (fun i wr => ∃ k : Nat, k ≤ good.length ∧ i = .int .i64 k ∧ Below w.heap.size w wr ∧ Blk wr w.heap.size 94 #[.int .i64 0, .int .i64 0, .int .i64 0] ∧
      Blk wr (w.heap.size + 1) 94 #[.int .i64 (cntW good k), .int .i64 (ext ws good 1 k), .int .i64 (ext ws good (-1) k)]) (fun i _ => good.length - (intOf i).toNat)
  case atStart =>
    refine ⟨0, Nat.zero_le _, rfl, ((Below.refl _ _).alloc (Nat.le_refl _) _).alloc (by simp) _, (Blk.new_ _ _ _).alloc_ _, ?_⟩
    have := Blk.new_ (w.alloc (.cells #[.int .i64 0, .int .i64 0, .int .i64 0] 94)) 94 #[.int .i64 0, .int .i64 (-1), .int .i64 (-1)]
    simpa [cntW, ext] using this
  case round =>
    obtain ⟨k, hk, rfl, hBr, R0, R1⟩ := hrel
    by_cases hlt : k < good.length
    · have hk1 : k < ws.length := by omega
      have hk2 : k < good.length := by omega
      have s1 := (h1.below hBr).at_ (by simpa using (by omega : 0 < ws.length))
      have s2 := (h2.below hBr).at_ (by simpa using (by omega : 0 < good.length))
      obtain ⟨b1, o1, rfl, l1, q1⟩ := s1
      obtain ⟨b2, o2, rfl, l2, q2⟩ := s2
      obtain ⟨g, hg⟩ : ∃ g, good.getD k false = g := ⟨_, rfl⟩
      have cg : wr.cell? ⟨b2, o2 + k, none⟩ = some (.bool g) := q2 k _ (by rw [← hg]; simp [hk2])
      have Q1 := Lib.hid q1
      clear q2
      have w0 := R1.cell_ 0
      have w1 := R1.cell_ 1
      have w2 := R1.cell_ 2
      have wf := R1.free
      simp at w0 w1 w2
      have i1 : (0 : Int) ≤ (k : Int) := by omega
      have i2 : (k : Int) < (ws.length : Int) := by omega
      have i3 : (k : Int) < (good.length : Int) := by omega
      have l3 := R1.lt
      have Hg := Lib.hid hg
      have Hne1 : b1 ≠ w.heap.size + 1 := by omega
      have Hne2 : b2 ≠ w.heap.size + 1 := by omega
      have eb1 := ext_bd ws good 1 k
      have eb2 := ext_bd ws good (-1) k
      have en1 := ext_neg ws good 1 k
      have en2 := ext_neg ws good (-1) k
      have ec := cntW_le good k
      obtain ⟨e1, he1⟩ : ∃ x, ext ws good 1 k = x := ⟨_, rfl⟩
      obtain ⟨e2, he2⟩ : ∃ x, ext ws good (-1) k = x := ⟨_, rfl⟩
      obtain ⟨c, hc⟩ : ∃ x, cntW good k = x := ⟨_, rfl⟩
      rw [he1] at w1 eb1 en1 R1
      rw [he2] at w2 eb2 en2 R1
      rw [hc] at w0 en1 en2 ec R1
      have He1 := Lib.hid he1
      have He2 := Lib.hid he2
      have Hc := Lib.hid hc
      clear hg he1 he2 hc
      cases g
      · clear q1
        go_wp2
        go_roundw
        case rel =>
          refine ⟨k + 1, by omega, by go_num, hBr, R0, ?_⟩
          have a1 : cntW good (k + 1) = c := by unfold cntW; rw [Hg.out, Hc.out]; simp
          have a2 : ext ws good 1 (k + 1) = e1 := by unfold ext; rw [Hg.out, He1.out]; simp
          have a3 : ext ws good (-1) (k + 1) = e2 := by unfold ext; rw [Hg.out, He2.out]; simp
          rw [a1, a2, a3]
          exact R1
        case measure => simp [intOf]; omega
      · have kw : ∃ z, ws.getD k 0 = z := ⟨_, rfl⟩
        obtain ⟨zk, hzk⟩ := kw
        have ck : wr.cell? ⟨b1, o1 + k, none⟩ = some (.int .i64 zk) := q1 k _ (by rw [← hzk]; simp [hk1])
        have a1 : cntW good (k + 1) = c + 1 := by unfold cntW; rw [Hg.out, Hc.out]; simp
        have Ha1 := Lib.hid a1
        have Hzk := Lib.hid hzk
        clear hzk a1 q1
        have i4 : (0 : Int) ≤ (c : Int) := by omega
        have i5 : (c : Int) ≤ 1000000 := by omega
        by_cases hneg : e1 < 0
        · have hc0 : c = 0 := en1.1 hneg
          have f1 : e1 = -1 := by omega
          have f2 : e2 = -1 := by omega
          subst f1
          subst f2
          subst hc0
          clear w0 w1 w2
          have w0 := R1.cell_ 0
          have w1 := R1.cell_ 1
          have w2 := R1.cell_ 2
          simp at w0 w1 w2
          go_wp2
          go_quiet (fail)
          go_wp2
          go_quiet (fail)
          go_wp2
          go_roundw
          case rel =>
            have a2 : ext ws good 1 (k + 1) = k := by unfold ext; rw [Hg.out, He1.out]; simp
            have a3 : ext ws good (-1) (k + 1) = k := by unfold ext; rw [Hg.out, He2.out]; simp
            refine ⟨k + 1, by omega, by go_num, ?_, ?_, ?_⟩
            · exact (below_dn ((below_dn (hBr.setCell (p := ⟨w.heap.size + 1, 0, none⟩) (by simp) _) _).setCell (p := ⟨w.heap.size + 1, 1, none⟩) (by simp) _) _).setCell (p := ⟨w.heap.size + 1, 2, none⟩) (by simp) _
            · exact ((((R0.far (p := ⟨w.heap.size + 1, 0, none⟩) (by simp) _).drewN_ _).far (p := ⟨w.heap.size + 1, 1, none⟩) (by simp) _).drewN_ _).far (p := ⟨w.heap.size + 1, 2, none⟩) (by simp) _
            · rw [Ha1.out, a2, a3]
              exact ((((R1.set_ 0 _).drewN_ _).set_ 1 _).drewN_ _).set_ 2 _
          case measure => simp [intOf]; omega
        · obtain ⟨j1, rfl⟩ : ∃ j : Nat, e1 = (j : Int) := ⟨e1.toNat, by omega⟩
          obtain ⟨j2, rfl⟩ : ∃ j : Nat, e2 = (j : Int) := ⟨e2.toNat, by omega⟩
          have hj1 : j1 < ws.length := by omega
          have hj2 : j2 < ws.length := by omega
          obtain ⟨z1, hz1⟩ : ∃ z, ws.getD j1 0 = z := ⟨_, rfl⟩
          obtain ⟨z2, hz2⟩ : ∃ z, ws.getD j2 0 = z := ⟨_, rfl⟩
          have v1 : wr.cell? ⟨b1, o1 + j1, none⟩ = some (.int .i64 z1) := Q1.out j1 _ (by rw [← hz1]; simp [hj1])
          have v2 : wr.cell? ⟨b1, o1 + j2, none⟩ = some (.int .i64 z2) := Q1.out j2 _ (by rw [← hz2]; simp [hj2])
          have a2 : ext ws good 1 (k + 1) = if zk < z1 then (k : Int) else j1 := by
            unfold ext
            rw [Hg.out, He1.out, Hzk.out, Int.toNat_natCast, hz1, Int.one_mul, Int.one_mul]
            by_cases h : zk < z1 <;> simp [h] <;> omega
          have a3 : ext ws good (-1) (k + 1) = if z2 < zk then (k : Int) else j2 := by
            unfold ext
            rw [Hg.out, He2.out, Hzk.out, Int.toNat_natCast, hz2]
            by_cases h : z2 < zk
            · have h' : -1 * zk < -1 * z2 := by omega
              simp only [h, h', or_true, and_self, if_true]
            · have h' : ¬ (-1 * zk < -1 * z2) := by omega
              have h'' : ¬ ((j2 : Int) < 0) := by omega
              simp only [h, h', h'', or_self, and_false, if_false]
          have m1 : (j1 : Int) < (ws.length : Int) := by omega
          have m2 : (j2 : Int) < (ws.length : Int) := by omega
          have m3 : (0 : Int) ≤ (j1 : Int) := by omega
          have m4 : (0 : Int) ≤ (j2 : Int) := by omega
          have heq : j1 = j2 → z1 = z2 := fun h => by rw [← hz1, ← hz2, h]
          have A2 := Lib.hid a2
          have A3 := Lib.hid a3
          clear w0 w1 w2 a2 a3 hz1 hz2 en1 en2 eb1 eb2 hneg
          have w0 := R1.cell_ 0
          have w1 := R1.cell_ 1
          have w2 := R1.cell_ 2
          simp at w0 w1 w2
          by_cases hj : j1 = j2
          · subst hj
            obtain rfl := heq rfl
            clear heq v2
            by_cases hA : zk < z1
            · have hB : ¬ z1 < zk := by omega
              have HA := Lib.hid hA
              have HB := Lib.hid hB
              go_wp2
              go_quiet (fail)
              go_wp2
              go_quiet (fail)
              go_wp2
              go_roundw
              case rel =>
                refine ⟨k + 1, by omega, by go_num, below_dn ((below_dn (hBr.setCell (p := ⟨w.heap.size + 1, 0, none⟩) (by simp) _) _).setCell (p := ⟨w.heap.size + 1, 1, none⟩) (by simp) _) _, (((R0.far (p := ⟨w.heap.size + 1, 0, none⟩) (by simp) _).drewN_ _).far (p := ⟨w.heap.size + 1, 1, none⟩) (by simp) _).drewN_ _, ?_⟩
                rw [Ha1.out, A2.out, A3.out, if_pos HA.out, if_neg (Int.not_lt.2 HB.out)]
                exact (((R1.set_ 0 _).drewN_ _).set_ 1 _).drewN_ _
              case measure => simp [intOf]; omega
            · by_cases hB : z1 < zk
              · have HA := Lib.hid hA
                have HB := Lib.hid hB
                go_wp2
                go_quiet (fail)
                go_wp2
                go_quiet (fail)
                go_wp2
                go_roundw
                case rel =>
                  refine ⟨k + 1, by omega, by go_num, (below_dn (hBr.setCell (p := ⟨w.heap.size + 1, 0, none⟩) (by simp) _) _).setCell (p := ⟨w.heap.size + 1, 2, none⟩) (by simp) _, ((R0.far (p := ⟨w.heap.size + 1, 0, none⟩) (by simp) _).drewN_ _).far (p := ⟨w.heap.size + 1, 2, none⟩) (by simp) _, ?_⟩
                  rw [Ha1.out, A2.out, A3.out, if_neg (Int.not_lt.2 HA.out), if_pos HB.out]
                  exact ((R1.set_ 0 _).drewN_ _).set_ 2 _
                case measure => simp [intOf]; omega
              · skip
                have HA := Lib.hid hA
                have HB := Lib.hid hB
                go_wp2
                go_quiet (fail)
                go_wp2
                go_quiet (fail)
                go_wp2
                go_roundw
                case rel =>
                  refine ⟨k + 1, by omega, by go_num, below_dn (hBr.setCell (p := ⟨w.heap.size + 1, 0, none⟩) (by simp) _) _, (R0.far (p := ⟨w.heap.size + 1, 0, none⟩) (by simp) _).drewN_ _, ?_⟩
                  rw [Ha1.out, A2.out, A3.out, if_neg (Int.not_lt.2 HA.out), if_neg (Int.not_lt.2 HB.out)]
                  exact (R1.set_ 0 _).drewN_ _
                case measure => simp [intOf]; omega
          · clear heq
            by_cases hA : zk < z1 <;> by_cases hB : z2 < zk
            · skip
              have HA := Lib.hid hA
              have HB := Lib.hid hB
              go_wp2
              go_quiet (fail)
              go_wp2
              go_quiet (fail)
              go_wp2
              go_roundw
              case rel =>
                refine ⟨k + 1, by omega, by go_num, (below_dn ((below_dn (hBr.setCell (p := ⟨w.heap.size + 1, 0, none⟩) (by simp) _) _).setCell (p := ⟨w.heap.size + 1, 1, none⟩) (by simp) _) _).setCell (p := ⟨w.heap.size + 1, 2, none⟩) (by simp) _, ((((R0.far (p := ⟨w.heap.size + 1, 0, none⟩) (by simp) _).drewN_ _).far (p := ⟨w.heap.size + 1, 1, none⟩) (by simp) _).drewN_ _).far (p := ⟨w.heap.size + 1, 2, none⟩) (by simp) _, ?_⟩
                rw [Ha1.out, A2.out, A3.out, if_pos HA.out, if_pos HB.out]
                exact ((((R1.set_ 0 _).drewN_ _).set_ 1 _).drewN_ _).set_ 2 _
              case measure => simp [intOf]; omega
            · skip
              have HA := Lib.hid hA
              have HB := Lib.hid hB
              go_wp2
              go_quiet (fail)
              go_wp2
              go_quiet (fail)
              go_wp2
              go_roundw
              case rel =>
                refine ⟨k + 1, by omega, by go_num, below_dn ((below_dn (hBr.setCell (p := ⟨w.heap.size + 1, 0, none⟩) (by simp) _) _).setCell (p := ⟨w.heap.size + 1, 1, none⟩) (by simp) _) _, (((R0.far (p := ⟨w.heap.size + 1, 0, none⟩) (by simp) _).drewN_ _).far (p := ⟨w.heap.size + 1, 1, none⟩) (by simp) _).drewN_ _, ?_⟩
                rw [Ha1.out, A2.out, A3.out, if_pos HA.out, if_neg (Int.not_lt.2 HB.out)]
                exact (((R1.set_ 0 _).drewN_ _).set_ 1 _).drewN_ _
              case measure => simp [intOf]; omega
            · skip
              have HA := Lib.hid hA
              have HB := Lib.hid hB
              go_wp2
              go_quiet (fail)
              go_wp2
              go_quiet (fail)
              go_wp2
              go_roundw
              case rel =>
                refine ⟨k + 1, by omega, by go_num, (below_dn (hBr.setCell (p := ⟨w.heap.size + 1, 0, none⟩) (by simp) _) _).setCell (p := ⟨w.heap.size + 1, 2, none⟩) (by simp) _, ((R0.far (p := ⟨w.heap.size + 1, 0, none⟩) (by simp) _).drewN_ _).far (p := ⟨w.heap.size + 1, 2, none⟩) (by simp) _, ?_⟩
                rw [Ha1.out, A2.out, A3.out, if_neg (Int.not_lt.2 HA.out), if_pos HB.out]
                exact ((R1.set_ 0 _).drewN_ _).set_ 2 _
              case measure => simp [intOf]; omega
            · skip
              have HA := Lib.hid hA
              have HB := Lib.hid hB
              go_wp2
              go_quiet (fail)
              go_wp2
              go_quiet (fail)
              go_wp2
              go_roundw
              case rel =>
                refine ⟨k + 1, by omega, by go_num, below_dn (hBr.setCell (p := ⟨w.heap.size + 1, 0, none⟩) (by simp) _) _, (R0.far (p := ⟨w.heap.size + 1, 0, none⟩) (by simp) _).drewN_ _, ?_⟩
                rw [Ha1.out, A2.out, A3.out, if_neg (Int.not_lt.2 HA.out), if_neg (Int.not_lt.2 HB.out)]
                exact (R1.set_ 0 _).drewN_ _
              case measure => simp [intOf]; omega
    · have hk' : k = good.length := by omega
      subst hk'
      have w0 := R1.cell_ 0
      have w1 := R1.cell_ 1
      have w2 := R1.cell_ 2
      simp at w0 w1 w2
      have wf := R0.free
      have r0 := R0.cell_ 0
      have r1 := R0.cell_ 1
      have r2 := R0.cell_ 2
      simp at r0 r1 r2
      go_wp2
      refine bodyPost_ret (v := .agg #[.int .i64 (cntW good good.length), .int .i64 (ext ws good 1 good.length), .int .i64 (ext ws good (-1) good.length)]) (by simp [results, Try.results58, go_sem, *]) rfl ⟨rfl, ?_⟩
      exact ((hBr.setCell (by simp) _).setCell (by simp) _).setCell (by simp) _
theorem look_any (ws : List Int) (good : List Bool) (A1 A2 : Option Addr) (c1 c2 : Nat) (w : World)
    (h1 : Sl w w.heap.size A1 (ws.map (Value.int .i64))) (h2 : Sl w w.heap.size A2 (good.map Value.bool)) (n1 : ws.length ≤ 1000000) (n2 : good.length ≤ 1000000)
    (hw : ∀ z ∈ ws, -4611686018427387904 ≤ z ∧ z ≤ 4611686018427387904) :
    Calls Try.prog 58 #[.slice A1 ws.length c1, .slice A2 good.length c2] w fun e w' =>
      e = .returned (.agg #[.int .i64 (cntW good (mlen ws good)), .int .i64 (ext ws good 1 (mlen ws good)), .int .i64 (ext ws good (-1) (mlen ws good))]) ∧ Below w.heap.size w w' := by
  by_cases h : ws.length ≤ good.length
  · exact look_le ws good A1 A2 c1 c2 w h1 h2 n1 n2 hw h
  · exact look_ge ws good A1 A2 c1 c2 w h1 h2 n1 n2 hw (by omega)
end Go.Proofs.Ytdfojhkpfbnmgaa
namespace Go.Proofs.Ytdfojhkpfbnmgaa
open Go.ChangeShapes Go.WideShapes Go.ChangeAt Go.RowKit
end Go.Proofs.Ytdfojhkpfbnmgaa
namespace Go.Proofs.Ytdfojhkpfbnmgaa
open Go.ChangeShapes Go.WideShapes Go.ChangeAt Go.RowKit
def leastI (ws : List Int) (good : List Bool) : Int := ext ws good 1 (mlen ws good)
def mostI (ws : List Int) (good : List Bool) : Int := ext ws good (-1) (mlen ws good)
theorem wear_idx {ws : List Int} {good : List Bool} (h : ¬ ext ws good 1 (mlen ws good) < 0) :
    ∃ j1 j2 : Nat, ext ws good 1 (mlen ws good) = (j1 : Int) ∧ ext ws good (-1) (mlen ws good) = (j2 : Int) ∧ j1 < ws.length ∧ j2 < ws.length ∧ spreadI ws good = ws.getD j2 0 - ws.getD j1 0 := by
  have m1 : mlen ws good ≤ ws.length := by unfold mlen; omega
  have e1 := ext_bd ws good 1 (mlen ws good)
  have e2 := ext_bd ws good (-1) (mlen ws good)
  have n1 := ext_neg ws good 1 (mlen ws good)
  have n2 := ext_neg ws good (-1) (mlen ws good)
  have h2 : ¬ ext ws good (-1) (mlen ws good) < 0 := fun h' => h (n1.2 (n2.1 h'))
  refine ⟨(ext ws good 1 (mlen ws good)).toNat, (ext ws good (-1) (mlen ws good)).toNat, by omega, by omega, by omega, by omega, ?_⟩
  unfold spreadI
  rw [if_neg h]
theorem getD_cell {w : World} {b o : Nat} {ws : List Int} {j : Nat} (q : ∀ k v, (ws.map (Value.int .i64))[k]? = some v → w.cell? ⟨b, o + k, none⟩ = some v) (hj : j < ws.length) :
    w.cell? ⟨b, o + j, none⟩ = some (.int .i64 (ws.getD j 0)) := q j _ (by simp [hj])
theorem getD_mem {ws : List Int} {j : Nat} (hj : j < ws.length) : ws.getD j 0 ∈ ws := by simp [hj]
theorem Spread_any (ws : List Int) (good : List Bool) (A1 A2 : Option Addr) (c1 c2 : Nat) (w : World)
    (h1 : Sl w w.heap.size A1 (ws.map (Value.int .i64))) (h2 : Sl w w.heap.size A2 (good.map Value.bool)) (n1 : ws.length ≤ 1000000) (n2 : good.length ≤ 1000000)
    (hw : ∀ z ∈ ws, 0 ≤ z ∧ z ≤ 2147483648) :
    Calls Try.prog 39 #[.slice A1 ws.length c1, .slice A2 good.length c2] w fun e w' => e = .returned (.int .i64 (spreadI ws good)) ∧ Below w.heap.size w w' := by
  by_cases hfew : cntW good (mlen ws good) < 2
  · rw [spread_few hfew]
    have hc : ((cntW good (mlen ws good) : Nat) : Int) < 2 := by omega
    clear hfew
    go_enter Try.func39, Try.ntmps39
    go_wp2_with (go_at_call 58; refine (look_any ws good A1 A2 c1 c2 _ h1 h2 n1 n2 (fun z hz => by have := hw z hz; omega)).mono ?_; rintro e w1 ⟨rfl, hb1⟩)
    go_ret
    exact ⟨rfl, hb1.alloc hb1.size _⟩
  · have hne : ¬ ext ws good 1 (mlen ws good) < 0 := by rw [ext_neg]; omega
    obtain ⟨j1, j2, hj1, hj2, k1, k2, hs⟩ := wear_idx hne
    rw [hs]
    have hc : ¬ ((cntW good (mlen ws good) : Nat) : Int) < 2 := by omega
    have h0 : 0 < ws.length := by omega
    obtain ⟨c, hcc⟩ : ∃ c, ((cntW good (mlen ws good) : Nat) : Int) = c := ⟨_, rfl⟩
    rw [hcc] at hc
    have Hc := Lib.hid hcc
    have J1 := Lib.hid hj1
    have J2 := Lib.hid hj2
    obtain ⟨b1, o1, rfl, l1, q1⟩ := h1.at_ (by simpa using h0)
    obtain ⟨z1, hz1⟩ : ∃ z, ws.getD j1 0 = z := ⟨_, rfl⟩
    obtain ⟨z2, hz2⟩ : ∃ z, ws.getD j2 0 = z := ⟨_, rfl⟩
    have v1 := getD_cell q1 k1
    have v2 := getD_cell q1 k2
    have B1 := hw _ (getD_mem k1)
    have B2 := hw _ (getD_mem k2)
    rw [hz1] at v1 B1 ⊢
    rw [hz2] at v2 B2 ⊢
    have hsub : IntKind.i64.wrap (z2 - z1) = z2 - z1 := IntWalk.i64_in _ (by omega)
    have i1 : (0 : Int) ≤ (j1 : Int) := by omega
    have i2 : (j1 : Int) < (ws.length : Int) := by omega
    have i3 : (0 : Int) ≤ (j2 : Int) := by omega
    have i4 : (j2 : Int) < (ws.length : Int) := by omega
    clear hfew hne hs hcc hj1 hj2 q1 hz1 hz2 k1 k2 B1 B2 h0
    go_enter Try.func39, Try.ntmps39
    go_wp2_with (go_at_call 58; refine (look_any ws good (some ⟨b1, o1, none⟩) A2 c1 c2 _ h1 h2 n1 n2 (fun z hz => by have := hw z hz; omega)).mono ?_; rw [Hc.out, J1.out, J2.out]; rintro e w1 ⟨rfl, hb1⟩; have u1 := (hb1.cell (p := ⟨b1, o1 + j1, none⟩) l1).trans v1; have u2 := (hb1.cell (p := ⟨b1, o1 + j2, none⟩) l1).trans v2; have l2 : b1 < w1.heap.size := by { have := hb1.size; omega })
    go_quiet (fail)
    go_wp2
    go_ret
    exact ⟨rfl, below_dn (hb1.alloc hb1.size _) _⟩
end Go.Proofs.Ytdfojhkpfbnmgaa
namespace Go.Proofs.Ytdfojhkpfbnmgaa
open Go.ChangeShapes Go.WideShapes Go.ChangeAt Go.RowKit
attribute [local go_sem ↓] Go.wp_at_zero Go.wp_at_succ
theorem own_sliceV {w : World} {base : Nat} {e : TypeId} {v : Value} {n : Nat} {vs : List Value} (h : w.ownsRow base e 1 v n vs) : ∃ (A : Option Addr) (c : Nat), v = .slice A n c ∧ vs.length = n ∧ n ≤ c ∧ c ≤ maxLen ∧ Sl w w.heap.size A vs := by
  have hl : vs.length = n := by
    have := h.1
    omega
  rcases h.2 with ⟨hv, h0⟩ | ⟨g, cap, cur, hv, hbg, hh, hnc, hm, hsz, ht⟩
  · subst h0
    exact ⟨none, 0, hv, hl, Nat.le_refl _, by unfold maxLen; omega, Or.inl (List.eq_nil_of_length_eq_zero hl)⟩
  · subst hv
    exact ⟨some ⟨g, 0, none⟩, cap, rfl, hl, hnc, hm, Sl.of_own h⟩
theorem own_kept2 {w w' : World} {base : Nat} {e : TypeId} {n : Nat} {v u : Value} {xs : List Value} (h : w.ownsRow base e 1 v n xs) (hg : w.grownBy w' u.ownBlock) (hd : ∀ g, v.ownBlock = some g → u.ownBlock ≠ some g) : w'.ownsRow base e 1 v n xs := by
  refine h.kept hg ?_
  cases hv : v.ownBlock with
  | none => exact Or.inl rfl
  | some g => exact Or.inr (fun he => hd g hv he.symm)
theorem apart_new {w : World} {base : Nat} {e : TypeId} {n : Nat} {v u' : Value} {xs : List Value} (h : w.ownsRow base e 1 v n xs) (hu : u'.ownBlock = none ∨ u'.ownBlock = some w.heap.size) : ∀ g, v.ownBlock = some g → u'.ownBlock ≠ some g := by
  intro g hg he
  have := (h.lt g hg).2
  rcases hu with hu | hu
  · rw [hu] at he
    cases he
  · rw [hu] at he
    cases he
    omega
theorem apart_sym {v u : Value} (h : ∀ g, v.ownBlock = some g → u.ownBlock ≠ some g) : ∀ g, u.ownBlock = some g → v.ownBlock ≠ some g := fun g hu hv => h g hv hu
theorem apart_app {w : World} {base : Nat} {e : TypeId} {n : Nat} {v u u' : Value} {xs : List Value} (h : w.ownsRow base e 1 v n xs) (hd : ∀ g, v.ownBlock = some g → u.ownBlock ≠ some g) (hu : u'.ownBlock = u.ownBlock ∨ u'.ownBlock = some w.heap.size) :
    ∀ g, v.ownBlock = some g → u'.ownBlock ≠ some g := by
  rcases hu with hu | hu
  · rw [hu]
    exact hd
  · exact apart_new h (Or.inr hu)
theorem own_belowA {w w' : World} {base : Nat} {e : TypeId} {size n : Nat} {v : Value} {xs : List Value} (h : w.ownsRow base e size v n xs) (hb : Below w.heap.size w w') : w'.ownsRow base e size v n xs :=
  h.kept (row := none) ⟨hb.os, hb.tape, hb.output, hb.size, fun k hk _ => hb.block k hk⟩ (by cases v.ownBlock <;> simp)
theorem infoInt : (Try.prog.info? 3).map (fun i => (i.zero, i.size, i.bytes)) = some (some (.int .i64 0), 1, 8) := by kernel_rfl
theorem infoBoo : (Try.prog.info? 4).map (fun i => (i.zero, i.size, i.bytes)) = some (some (.bool false), 1, 1) := by kernel_rfl
@[go_sem] theorem field_geo0 (a b c d e : Int) (w : World) : (Instr.field 23 (.agg #[.int .i64 a, .int .i64 b, .int .i64 c, .int .i64 d, .int .i64 e]) 0).run Try.prog w = .ok (.int .i64 a) w := by kernel_rfl
@[go_sem] theorem field_geo3 (a b c d e : Int) (w : World) : (Instr.field 23 (.agg #[.int .i64 a, .int .i64 b, .int .i64 c, .int .i64 d, .int .i64 e]) 3).run Try.prog w = .ok (.int .i64 d) w := by kernel_rfl
def wsL (s : ChS) (n : Nat) : List Int := (List.range n).map fun b : Nat => s.k (b : Int) 1
def gsL (fs : List Flt) (a : Int) (s : ChS) (n : Nat) : List Bool := (List.range n).map fun b : Nat => !badB fs (b : Int) && !failedB a fs s (b : Int)
theorem wsL_succ (s : ChS) (n : Nat) : wsL s (n + 1) = wsL s n ++ [s.k (n : Int) 1] := by simp [wsL, List.range_succ]
theorem gsL_succ (fs : List Flt) (a : Int) (s : ChS) (n : Nat) : gsL fs a s (n + 1) = gsL fs a s n ++ [!badB fs (n : Int) && !failedB a fs s (n : Int)] := by simp [gsL, List.range_succ]
theorem wsL_len (s : ChS) (n : Nat) : (wsL s n).length = n := by simp [wsL]
theorem gsL_len (fs : List Flt) (a : Int) (s : ChS) (n : Nat) : (gsL fs a s n).length = n := by simp [gsL]
theorem wear_k (m gx gb : Nat) (Af : Option Addr) (nf cf : Nat) (a b c d e : Int) (fs : List Flt) (k : Nat) (z : Int) (w : World) (s : ChS) (hC : ChipW w m gx gb Af nf cf a b c d e fs s) (hk : (k : Int) < a) (hz : Hid (s.k (k : Int) 1 = z)) : Calls Try.prog 11 #[.pointer (some ⟨m, 0, none⟩), .int .i64 (k : Int)] w fun e' w' => e' = .returned (.int .i64 z) ∧ w = w' := by
  have := wear_any m gx gb Af nf cf a b c d e fs (k : Int) w s hC
  rwa [show s.ask a (k : Int) 1 = z by unfold ChS.ask; rw [inB_yes (by omega) hk]; exact hz.out] at this
structure Wr (w0 wr : World) (fs : List Flt) (a : Int) (s : ChS) (k1 k2 : Nat) (v1 v2 : Value) : Prop where
  b : Below w0.heap.size w0 wr
  r1 : wr.ownsRow w0.heap.size 3 1 v1 k1 ((wsL s k1).map (Value.int .i64))
  r2 : wr.ownsRow w0.heap.size 4 1 v2 k2 ((gsL fs a s k2).map Value.bool)
  ap : (∀ g, Value.ownBlock v1 = some g → Value.ownBlock v2 ≠ some g)
theorem Wr.then {w0 wr : World} {fs : List Flt} {a : Int} {s : ChS} {k1 k2 : Nat} {v1 v2 : Value} {w' : World} (h : Wr w0 wr fs a s k1 k2 v1 v2) (hb : Below wr.heap.size wr w') : Wr w0 w' fs a s k1 k2 v1 v2 :=
  ⟨btr h.b h.b.size hb, own_belowA h.r1 hb, own_belowA h.r2 hb, h.ap⟩
theorem Wr.push1 {w0 wr : World} {fs : List Flt} {a : Int} {s : ChS} {k1 k2 : Nat} {v1 v2 : Value} {w1 : World} {o : Obj} {u : Value} {z : Int} (h : Wr w0 wr fs a s k1 k2 v1 v2) (hz : s.k (k1 : Int) 1 = z) (ho : w1.ownsRow w0.heap.size 3 1 u (k1 + 1) ((wsL s k1).map (Value.int .i64) ++ [.int .i64 z])) (hg : (wr.alloc o).grownBy w1 v1.ownBlock) (hv : u.ownBlock = v1.ownBlock ∨ u.ownBlock = some (wr.alloc o).heap.size) : Wr w0 w1 fs a s (k1 + 1) k2 u v2 := by
  have hA := h.then ((Below.refl _ _).alloc (Nat.le_refl _) o)
  refine ⟨hA.b.grown hg hA.b.size (fun g hg' => (hA.r1.lt g hg').1), ?_, own_kept2 hA.r2 hg (apart_sym hA.ap), apart_sym (apart_app hA.r2 (apart_sym hA.ap) hv)⟩
  rw [wsL_succ, List.map_append, hz]
  exact ho
theorem Wr.push2 {w0 wr : World} {fs : List Flt} {a : Int} {s : ChS} {k1 k2 : Nat} {v1 v2 : Value} {w1 : World} {o : Obj} {u : Value} {z : Bool} (h : Wr w0 wr fs a s k1 k2 v1 v2) (hz : (!badB fs (k2 : Int) && !failedB a fs s (k2 : Int)) = z) (ho : w1.ownsRow w0.heap.size 4 1 u (k2 + 1) ((gsL fs a s k2).map Value.bool ++ [.bool z])) (hg : (wr.alloc o).grownBy w1 v2.ownBlock) (hv : u.ownBlock = v2.ownBlock ∨ u.ownBlock = some (wr.alloc o).heap.size) : Wr w0 w1 fs a s k1 (k2 + 1) v1 u := by
  have hA := h.then ((Below.refl _ _).alloc (Nat.le_refl _) o)
  refine ⟨hA.b.grown hg hA.b.size (fun g hg' => (hA.r2.lt g hg').1), own_kept2 hA.r1 hg hA.ap, ?_, apart_app hA.r1 hA.ap hv⟩
  rw [gsL_succ, List.map_append, hz]
  exact ho
end Go.Proofs.Ytdfojhkpfbnmgaa
namespace Go.Proofs.Ytdfojhkpfbnmgaa
open Go.ChangeShapes Go.WideShapes Go.ChangeAt Go.RowKit
attribute [local go_sem ↓] Go.wp_at_zero Go.wp_at_succ
theorem wears_any (m gx gb : Nat) (Af : Option Addr) (nf cf : Nat) (a b c d e : Int) (fs : List Flt) (NA : Nat) (w : World) (s : ChS) (hC : ChipW w m gx gb Af nf cf a b c d e fs s) (hNA : (NA : Int) = a) : Calls Try.prog 10 #[.pointer (some ⟨m, 0, none⟩)] w fun e' w' => (∃ v1 v2, e' = .returned (.tuple #[v1, v2]) ∧ Wr w w' fs a s NA NA v1 v2) := by
  obtain ⟨q1, q2, q3, q4, q5, q6, -⟩ := may_bd (planMay_bd hC.may).1
  have HLA := Lib.hid hNA
  have hA20 : NA ≤ 20 := by omega
  clear hNA q3 q4 q5 q6
  go_enter Try.func10, Try.ntmps10
  go_wp2_with (go_at_call 36; go_loud (((with_reducible refine (geometry_0 m gx gb Af nf cf a b c d e fs _ s hC).mono ?_); rintro e' wG ⟨rfl, hbG⟩)))
  go_loopw [4, 5, 10] (fun s4 s5 s10 wr => ∃ (k : Nat) (v1 v2 : Value), k ≤ NA ∧ s10 = .int .i64 (k : Int) ∧ s4 = v1 ∧ s5 = v2 ∧ Wr w wr fs a s k k v1 v2) (fun _ _ s10 _ => NA - (intOf s10).toNat)
  case atStart => exact ⟨0, _, _, Nat.zero_le _, rfl, rfl, rfl, hbG, World.ownsRow_nil _ _ _ _, World.ownsRow_nil _ _ _ _, fun g hg => by simp [Value.ownBlock] at hg⟩
  case round =>
    obtain ⟨k, v1, v2, hk, rfl, e4, e5, hE⟩ := hrel
    have e4' := e4.symm
    have e5' := e5.symm
    subst e4' e5'
    have k0 : (0 : Int) ≤ (k : Int) := by omega
    by_cases hka : (k : Int) < a
    · have hkA : k < NA := by have := HLA.out; omega
      obtain ⟨z, hz⟩ : ∃ z, s.k (k : Int) 1 = z := ⟨_, rfl⟩
      have HZ := Lib.hid hz
      clear hz
      obtain ⟨A1, c1, hv1, -, -, -, -⟩ := own_sliceV hE.r1
      obtain ⟨A2, c2, hv2, -, -, -, -⟩ := own_sliceV hE.r2
      subst hv1 hv2
      rcases (by cases hq : badB fs (k : Int) <;> simp : badB fs (k : Int) = true ∨ badB fs (k : Int) = false) with hb | hb
      · have HBD := Lib.hid hb
        clear hb
        have HGD : Hid ((!badB fs (k : Int) && !failedB a fs s (k : Int)) = false) := Lib.hid (by rw [HBD.out]; rfl)
        go_wp2_with (first | (go_at_call 11; go_loud (((with_reducible refine (wear_k m gx gb Af nf cf a b c d e fs k z _ s (hC.below hE.b) hka HZ).mono ?_); rintro e' wN ⟨rfl, rfl⟩))) | (at_builtin; go_loud (obtain ⟨ti0, hi, hz0, hz1, hz2⟩ := info_parts infoInt; refine wpList_app _ rfl (.tmp 13) (.tmp 17) _ rfl w.heap.size 3 ti0 _ 1 8 Try.underlying32 hi hz0 hz1 hz2 rfl (by decide) _ k ((wsL s k).map (Value.int .i64)) rfl (hE.r1.alloc _) _ 1 _ [.int .i64 z] rfl (Rd.one (by simp)) (by simp [Value.oneCell']) (by unfold maxLen; omega) (by omega) (by have := hE.b.size; simp; omega) ?_; intro u w1 ho hg hv; replace hE := hE.push1 HZ.out ho hg hv; clear hi hz0 hz1 hz2 ho hg hv)) | (go_at_call 12; go_loud (((with_reducible refine (bad_v0 m gx gb Af nf cf a b c d e fs _ true _ s (hC.below hE.b) HBD).mono ?_); rintro e' wB ⟨rfl, hbB⟩; replace hE := hE.then hbB; clear hbB))) | (at_builtin; go_loud (obtain ⟨ti0, hi, hz0, hz1, hz2⟩ := info_parts infoBoo; refine wpList_app _ rfl (.tmp 19) (.tmp 30) _ rfl w.heap.size 4 ti0 _ 1 1 Try.underlying33 hi hz0 hz1 hz2 rfl (by decide) _ k ((gsL fs a s k).map Value.bool) rfl (hE.r2.alloc _) _ 1 _ [.bool false] rfl (Rd.one (by simp)) (by simp [Value.oneCell']) (by unfold maxLen; omega) (by omega) (by have := hE.b.size; simp; omega) ?_; intro u w1 ho hg hv; replace hE := hE.push2 HGD.out ho hg hv; clear hi hz0 hz1 hz2 ho hg hv)))
        go_roundw
        case rel => exact ⟨k + 1, _, _, by omega, by go_num, rfl, rfl, hE⟩
        case measure => simp [intOf]; omega
      · have HBD := Lib.hid hb
        clear hb
        rcases (by cases hq : failedB a fs s (k : Int) <;> simp : failedB a fs s (k : Int) = true ∨ failedB a fs s (k : Int) = false) with hf | hf
        · have HFD := Lib.hid hf
          clear hf
          have HGD : Hid ((!badB fs (k : Int) && !failedB a fs s (k : Int)) = false) := Lib.hid (by rw [HBD.out, HFD.out]; rfl)
          go_wp2_with (first | (go_at_call 11; go_loud (((with_reducible refine (wear_k m gx gb Af nf cf a b c d e fs k z _ s (hC.below hE.b) hka HZ).mono ?_); rintro e' wN ⟨rfl, rfl⟩))) | (at_builtin; go_loud (obtain ⟨ti0, hi, hz0, hz1, hz2⟩ := info_parts infoInt; refine wpList_app _ rfl (.tmp 13) (.tmp 17) _ rfl w.heap.size 3 ti0 _ 1 8 Try.underlying32 hi hz0 hz1 hz2 rfl (by decide) _ k ((wsL s k).map (Value.int .i64)) rfl (hE.r1.alloc _) _ 1 _ [.int .i64 z] rfl (Rd.one (by simp)) (by simp [Value.oneCell']) (by unfold maxLen; omega) (by omega) (by have := hE.b.size; simp; omega) ?_; intro u w1 ho hg hv; replace hE := hE.push1 HZ.out ho hg hv; clear hi hz0 hz1 hz2 ho hg hv)) | (go_at_call 12; go_loud (((with_reducible refine (bad_v0 m gx gb Af nf cf a b c d e fs _ false _ s (hC.below hE.b) HBD).mono ?_); rintro e' wB ⟨rfl, hbB⟩; replace hE := hE.then hbB; clear hbB))) | (go_at_call 13; go_loud (((with_reducible refine (failed_b m gx gb Af nf cf a b c d e fs _ true _ s (hC.below hE.b) HFD).mono ?_); rintro e' wF ⟨rfl, hbF⟩; replace hE := hE.then hbF; clear hbF))) | (at_builtin; go_loud (obtain ⟨ti0, hi, hz0, hz1, hz2⟩ := info_parts infoBoo; refine wpList_app _ rfl (.tmp 19) (.tmp 30) _ rfl w.heap.size 4 ti0 _ 1 1 Try.underlying33 hi hz0 hz1 hz2 rfl (by decide) _ k ((gsL fs a s k).map Value.bool) rfl (hE.r2.alloc _) _ 1 _ [.bool false] rfl (Rd.one (by simp)) (by simp [Value.oneCell']) (by unfold maxLen; omega) (by omega) (by have := hE.b.size; simp; omega) ?_; intro u w1 ho hg hv; replace hE := hE.push2 HGD.out ho hg hv; clear hi hz0 hz1 hz2 ho hg hv)))
          go_roundw
          case rel => exact ⟨k + 1, _, _, by omega, by go_num, rfl, rfl, hE⟩
          case measure => simp [intOf]; omega
        · have HFD := Lib.hid hf
          clear hf
          have HGD : Hid ((!badB fs (k : Int) && !failedB a fs s (k : Int)) = true) := Lib.hid (by rw [HBD.out, HFD.out]; rfl)
          go_wp2_with (first | (go_at_call 11; go_loud (((with_reducible refine (wear_k m gx gb Af nf cf a b c d e fs k z _ s (hC.below hE.b) hka HZ).mono ?_); rintro e' wN ⟨rfl, rfl⟩))) | (at_builtin; go_loud (obtain ⟨ti0, hi, hz0, hz1, hz2⟩ := info_parts infoInt; refine wpList_app _ rfl (.tmp 13) (.tmp 17) _ rfl w.heap.size 3 ti0 _ 1 8 Try.underlying32 hi hz0 hz1 hz2 rfl (by decide) _ k ((wsL s k).map (Value.int .i64)) rfl (hE.r1.alloc _) _ 1 _ [.int .i64 z] rfl (Rd.one (by simp)) (by simp [Value.oneCell']) (by unfold maxLen; omega) (by omega) (by have := hE.b.size; simp; omega) ?_; intro u w1 ho hg hv; replace hE := hE.push1 HZ.out ho hg hv; clear hi hz0 hz1 hz2 ho hg hv)) | (go_at_call 12; go_loud (((with_reducible refine (bad_v0 m gx gb Af nf cf a b c d e fs _ false _ s (hC.below hE.b) HBD).mono ?_); rintro e' wB ⟨rfl, hbB⟩; replace hE := hE.then hbB; clear hbB))) | (go_at_call 13; go_loud (((with_reducible refine (failed_b m gx gb Af nf cf a b c d e fs _ false _ s (hC.below hE.b) HFD).mono ?_); rintro e' wF ⟨rfl, hbF⟩; replace hE := hE.then hbF; clear hbF))) | (at_builtin; go_loud (obtain ⟨ti0, hi, hz0, hz1, hz2⟩ := info_parts infoBoo; refine wpList_app _ rfl (.tmp 19) (.tmp 30) _ rfl w.heap.size 4 ti0 _ 1 1 Try.underlying33 hi hz0 hz1 hz2 rfl (by decide) _ k ((gsL fs a s k).map Value.bool) rfl (hE.r2.alloc _) _ 1 _ [.bool true] rfl (Rd.one (by simp)) (by simp [Value.oneCell']) (by unfold maxLen; omega) (by omega) (by have := hE.b.size; simp; omega) ?_; intro u w1 ho hg hv; replace hE := hE.push2 HGD.out ho hg hv; clear hi hz0 hz1 hz2 ho hg hv)))
          go_roundw
          case rel => exact ⟨k + 1, _, _, by omega, by go_num, rfl, rfl, hE⟩
          case measure => simp [intOf]; omega
    · have hkA : k = NA := by have := HLA.out; omega
      go_wp2_with fail
      go_ret2
      subst hkA
      exact ⟨_, _, rfl, hE⟩
end Go.Proofs.Ytdfojhkpfbnmgaa
namespace Go.Proofs.Ytdfojhkpfbnmgaa
open Go.ChangeShapes Go.WideShapes Go.ChangeAt Go.RowKit
attribute [local go_sem ↓] Go.wp_at_zero Go.wp_at_succ
def RIn : Value → Option (DataW Int × List MemPlace)
  | .int .i64 n => some (.held n, [])
  | _ => none
theorem RIn_mk (x : Int) : RIn (.int .i64 x) = some (.held x, []) := rfl
theorem RIn_inv {v : Value} {x : Int} {ps : List MemPlace} (h : RIn v = some (.held x, ps)) : v = .int .i64 x := by
  unfold RIn at h
  split at h
  · injection h with h
    injection h with h1 _
    injection h1 with h1
    subst h1
    rfl
  · cases h
def OwnI (w : World) (b n : Nat) (M : Int → Int) : Prop :=
  ∃ D : DataW Int, w.ownsMap Try.prog 3 RIn b n D ∧ ∀ p, D.atKey (.int .i64 p) (.held 0) = .held (M p)
theorem OwnI.made (w : World) : OwnI (w.alloc (.map #[] 0)) w.heap.size 0 (fun _ => 0) :=
  ⟨.map [], World.ownsMap_made w _ _ _, fun p => rfl⟩
theorem OwnI.lt {w : World} {b n : Nat} {M : Int → Int} (h : OwnI w b n M) : b < w.heap.size := by
  obtain ⟨D, h, _⟩ := h
  exact h.lt
theorem OwnI.below {w w' : World} {b n : Nat} {M : Int → Int} (h : OwnI w b n M) (hb : Below w.heap.size w w') : OwnI w' b n M := by
  obtain ⟨D, h, k⟩ := h
  exact ⟨D, h.kept (row := none) ⟨hb.os, hb.tape, hb.output, hb.size, fun k hk _ => hb.block k hk⟩ (by simp), k⟩
theorem OwnI.alloc_ {w : World} {b n : Nat} {M : Int → Int} (h : OwnI w b n M) (o : Obj) : OwnI (w.alloc o) b n M := h.below ((Below.refl _ _).alloc (Nat.le_refl _) _)
theorem lawI : Maps.Keyed Try.prog 3 := Maps.int_keyed Try.underlying3
theorem zeroI (w : World) : (zeroValue 3).run Try.prog w = .ok (.int .i64 0) w := by kernel_rfl
theorem wfI {p : Int} (h : i64in p) : (Lit.int .i64 p).wf = true := by
  have e1 : IntKind.i64.min = -9223372036854775808 := rfl
  have e2 : IntKind.i64.max = 9223372036854775807 := rfl
  unfold i64in at h
  simp only [Lit.wf, Bool.and_eq_true, decide_eq_true_eq, e1, e2]
  exact h
section
variable (w : World) {ops : Array Oper} {rest : List Oper} {o : Oper} {a : Act} {Q : Exit → Act → World → Prop}
theorem wpList_lookI (hg : o.guard = none) (m x : Operand) (hop : o.op = Op.lookup 103 m x false) (b n : Nat) (M : Int → Int) (hm : a.eval m = .map (some b)) (hown : OwnI w b n M) (p : Int) (hx : a.eval x = .int .i64 p) (hp : i64in p) (y : Int) (hy : M p = y)
    (hK : wpList Try.prog ops Q rest (a.put o.dst (.int .i64 y)) w) : wpList Try.prog ops Q (o :: rest) a w := by
  obtain ⟨D, h, k⟩ := hown
  refine wpList_plain hg fun K' hK' => ?_
  obtain ⟨v, ps, hrun, hv⟩ := h.lookup lawI Try.underlying103 (zeroI w) (RIn_mk 0) (Maps.keyOf_int_mk Try.underlying3 (wfI hp))
  rw [k p, hy] at hv
  obtain rfl := RIn_inv hv
  unfold Oper.wp
  simp [execOp, hop, hm, hx, hrun, Result.andThen]
  exact hK' _ _ hK
theorem wpList_putI (hg : o.guard = none) (m x v : Operand) (hop : o.op = Op.mapUpdate 103 m x v) (b n : Nat) (M : Int → Int) (hm : a.eval m = .map (some b)) (hown : OwnI w b n M) (hn : n ≤ 1000000) (p : Int) (hx : a.eval x = .int .i64 p) (hp : i64in p) (y : Int) (hv : a.eval v = .int .i64 y)
    (hK : ∀ w', OwnI w' b (n + 1) (fun q => if q = p then y else M q) → w.grownBy w' (some b) → wpList Try.prog ops Q rest (a.put o.dst undef) w') : wpList Try.prog ops Q (o :: rest) a w := by
  obtain ⟨D, h, k⟩ := hown
  refine wpList_plain hg fun K' hK' => ?_
  obtain ⟨w', hrun, r1, r2⟩ := h.update lawI Try.underlying103 (by unfold maxLen; omega) (Maps.keyOf_int_mk Try.underlying3 (wfI hp)) (RIn_mk y)
  unfold Oper.wp
  simp [execOp, hop, hm, hx, hv, hrun, Result.andThen]
  refine hK' _ _ (hK w' ⟨_, r1, fun q => ?_⟩ r2)
  show _ = DataW.held (if q = p then y else M q)
  by_cases hq : q = p
  · subst hq
    rw [if_pos rfl]
    exact Maps.atKey_put_same h.isMap (by simp [WideAt.IsKeyLit]) _ _
  · rw [if_neg hq]
    have hne : (Lit.int .i64 q) ≠ Lit.int .i64 p := fun e => hq (by injection e)
    exact (Maps.atKey_put_other hne _ _).trans (k q)
end
def dupB : List Int → Bool
  | [] => false
  | x :: l => l.contains x || dupB l
def seqs (fs : List Fd) : List Int := fs.map (·.s)
def seenI (l : List Int) (q : Int) : Int := if l.contains q then 1 else 0
theorem dup_snoc (l : List Int) (x : Int) : dupB (l ++ [x]) = (dupB l || l.contains x) := by
  induction l with
  | nil => rfl
  | cons y l ih =>
    show (((l ++ [x]).contains y) || dupB (l ++ [x])) = ((l.contains y || dupB l) || (y :: l).contains x)
    have e3 : (y :: l).contains x = (x == y || l.contains x) := List.contains_cons ..
    have e : [x].contains y = (y == x) := by rw [List.contains_cons]; simp
    have e2 : (x == y) = (y == x) := by
      by_cases h : x = y
      · rw [h]
      · rw [beq_false_of_ne h, beq_false_of_ne (Ne.symm h)]
    rw [ih, List.contains_append, e3, e, e2]
    cases l.contains y <;> cases dupB l <;> cases l.contains x <;> cases (y == x) <;> rfl
theorem dup_app (l m : List Int) (h : dupB l = true) : dupB (l ++ m) = true := by
  induction l with
  | nil => cases h
  | cons y l ih =>
    have h' : (l.contains y || dupB l) = true := h
    show (((l ++ m).contains y) || dupB (l ++ m)) = true
    rw [List.contains_append]
    cases h1 : l.contains y
    · rw [h1] at h'
      rw [ih (by simpa using h')]
      simp
    · simp
theorem seqs_take {fs : List Fd} {k : Nat} {x : Fd} (h : fs[k]? = some x) : seqs (fs.take (k + 1)) = seqs (fs.take k) ++ [x.s] := by
  unfold seqs
  rw [List.take_add_one, h, List.map_append]
  rfl
theorem dup_take {fs : List Fd} {k : Nat} (h : dupB (seqs (fs.take k)) = true) : dupB (seqs fs) = true := by
  have e : seqs fs = seqs (fs.take k) ++ seqs (fs.drop k) := by unfold seqs; rw [← List.map_append, List.take_append_drop]
  rw [e]
  exact dup_app _ _ h
theorem twice_any (fs : List Fd) (A : Option Addr) (n c : Nat) (w : World) (hn : fs.length = n) (h : SlFd w w.heap.size A fs) (n1 : n ≤ 1000) (hok : ∀ x ∈ fs, i64in x.s) (T : Bool) (hT : Hid (dupB (seqs fs) = T)) :
    Calls Try.prog 45 #[.slice A n c] w fun e' w' => e' = .returned (.bool T) ∧ Below w.heap.size w w' := by
  have HN := Lib.hid hn
  clear hn
  have hmm := @run_makeMap Try.prog
  go_enter Try.func45, Try.ntmps45
  go_wp2
  clear hmm
  have HM0 := OwnI.made w
  have HB0 : Below w.heap.size w (w.alloc (.map #[] 0)) := (Below.refl _ _).alloc (Nat.le_refl _) _
  go_loopw [9] (fun s9 wr => ∃ (k : Nat), k ≤ n ∧ s9 = .int .i64 (k : Int) ∧ OwnI wr w.heap.size k (seenI (seqs (fs.take k))) ∧ Hid (dupB (seqs (fs.take k)) = false) ∧ Below w.heap.size w wr) (fun s9 _ => n - (intOf s9).toNat)
  case atStart => exact ⟨0, Nat.zero_le _, rfl, HM0, Lib.hid rfl, HB0⟩
  case round =>
    clear HM0 HB0
    obtain ⟨k, hk, rfl, hO, HD, hB⟩ := hrel
    have hgl := hO.lt
    by_cases hlt : k < n
    · obtain ⟨b1, o1, rfl, l1, q1⟩ := (h.below hB).at_ (by have := HN.out; omega)
      obtain ⟨x, hx⟩ : ∃ x, fs[k]? = some x := ⟨_, List.getElem?_eq_getElem (by have := HN.out; omega)⟩
      obtain ⟨x0, x1, x2, x3, x4, x5⟩ := q1 k x hx
      have hsz := hB.size
      have l1' : b1 < wr.heap.size := by omega
      have i0 : (0 : Int) ≤ (k : Int) := by omega
      have i1 : (k : Int) < (n : Int) := by omega
      have hp : i64in x.s := hok x (List.mem_of_getElem? hx)
      have hst := seqs_take hx
      clear q1
      rcases (by cases hq : (seqs (fs.take k)).contains x.s <;> simp : (seqs (fs.take k)).contains x.s = true ∨ (seqs (fs.take k)).contains x.s = false) with hc | hc
      · have HQ : Hid (seenI (seqs (fs.take k)) x.s = 1) := Lib.hid (by unfold seenI; rw [hc]; rfl)
        have HR : Hid (T = true) := Lib.hid (by
          rw [← hT.out]
          refine dup_take (k := k + 1) ?_
          rw [hst, dup_snoc, hc]
          simp)
        clear hst hc hx
        go_wp2_with (first | (at_lookup; go_loud (refine wpList_lookI _ rfl (.tmp 13) (.tmp 16) rfl w.heap.size k _ rfl (hO.alloc_ (.cells #[.int .i64 x.b, .int .i64 x.g, .int .i64 x.k, .int .i64 x.p, .int .i64 x.s, .int .i64 x.e] 101)) x.s rfl hp 1 HQ.out ?_)) | (at_mapUpdate; go_loud (refine wpList_putI _ rfl _ _ _ rfl w.heap.size k _ rfl (hO.alloc_ (.cells #[.int .i64 x.b, .int .i64 x.g, .int .i64 x.k, .int .i64 x.p, .int .i64 x.s, .int .i64 x.e] 101)) (by omega) x.s rfl hp 2 rfl ?_; intro w4 ho4 hg4; have hBk : Blk w4 wr.heap.size 101 #[.int .i64 x.b, .int .i64 x.g, .int .i64 x.k, .int .i64 x.p, .int .i64 x.s, .int .i64 x.e] := (hg4.block wr.heap.size (by simp) (fun e => by have := Option.some.inj e; omega)).trans (heap_alloc_new wr _); obtain ⟨f0, f1, f2, f3, f4, f5⟩ := cells6 hBk; have f9 := hBk.lt)) | (at_lookup; go_loud (refine wpList_lookI _ rfl (.tmp 19) (.tmp 22) rfl w.heap.size (k + 1) _ rfl ho4 x.s rfl hp 2 (if_pos rfl) ?_)))
        go_ret
        obtain rfl := HR.out
        exact ⟨rfl, ((hB.alloc hsz (.cells #[.int .i64 x.b, .int .i64 x.g, .int .i64 x.k, .int .i64 x.p, .int .i64 x.s, .int .i64 x.e] 101)).grown hg4 (by simp; omega) (fun j hj => by have := Option.some.inj hj; omega))⟩
      · have HQ : Hid (seenI (seqs (fs.take k)) x.s = 0) := Lib.hid (by unfold seenI; rw [hc]; rfl)
        have HD2 : Hid (dupB (seqs (fs.take (k + 1))) = false) := Lib.hid (by rw [hst, dup_snoc, HD.out, hc]; rfl)
        have HE : Hid ((fun q => if q = x.s then 1 else seenI (seqs (fs.take k)) q) = seenI (seqs (fs.take (k + 1)))) := Lib.hid (by
          funext q
          unfold seenI
          rw [hst, List.contains_append]
          by_cases hq : q = x.s
          · simp [hq]
          · have e : [x.s].contains q = false := by simp [List.contains_cons, hq]
            rw [if_neg hq, e, Bool.or_false])
        clear hst hc hx
        go_wp2_with (first | (at_lookup; go_loud (refine wpList_lookI _ rfl (.tmp 13) (.tmp 16) rfl w.heap.size k _ rfl (hO.alloc_ (.cells #[.int .i64 x.b, .int .i64 x.g, .int .i64 x.k, .int .i64 x.p, .int .i64 x.s, .int .i64 x.e] 101)) x.s rfl hp 0 HQ.out ?_)) | (at_mapUpdate; go_loud (refine wpList_putI _ rfl _ _ _ rfl w.heap.size k _ rfl (hO.alloc_ (.cells #[.int .i64 x.b, .int .i64 x.g, .int .i64 x.k, .int .i64 x.p, .int .i64 x.s, .int .i64 x.e] 101)) (by omega) x.s rfl hp 1 rfl ?_; intro w4 ho4 hg4; have hBk : Blk w4 wr.heap.size 101 #[.int .i64 x.b, .int .i64 x.g, .int .i64 x.k, .int .i64 x.p, .int .i64 x.s, .int .i64 x.e] := (hg4.block wr.heap.size (by simp) (fun e => by have := Option.some.inj e; omega)).trans (heap_alloc_new wr _); obtain ⟨f0, f1, f2, f3, f4, f5⟩ := cells6 hBk; have f9 := hBk.lt)) | (at_lookup; go_loud (refine wpList_lookI _ rfl (.tmp 19) (.tmp 22) rfl w.heap.size (k + 1) _ rfl ho4 x.s rfl hp 1 (if_pos rfl) ?_)))
        rw [HE.out] at ho4
        go_roundw
        case rel => exact ⟨k + 1, by omega, by go_num, ho4, HD2, (hB.alloc hsz (.cells #[.int .i64 x.b, .int .i64 x.g, .int .i64 x.k, .int .i64 x.p, .int .i64 x.s, .int .i64 x.e] 101)).grown hg4 (by simp; omega) (fun j hj => by have := Option.some.inj hj; omega)⟩
        case measure => simp [intOf]; omega
    · have hkn : k = n := by omega
      have HR : Hid (T = false) := Lib.hid (by
        rw [← hT.out]
        have := HD.out
        rwa [hkn, ← HN.out, List.take_length] at this)
      go_wp2
      go_ret
      obtain rfl := HR.out
      exact ⟨rfl, hB⟩
end Go.Proofs.Ytdfojhkpfbnmgaa
namespace Go.Proofs.Ytdfojhkpfbnmgaa
open Go.ChangeShapes Go.WideShapes Go.ChangeAt Go.RowKit
attribute [local go_sem ↓] Go.wp_at_zero Go.wp_at_succ
theorem wsL_bd {s : ChS} {n0 : Int} (hs : Fine s n0) (hn0 : n0 ≤ 900000000) (n : Nat) : ∀ z ∈ wsL s n, 0 ≤ z ∧ z ≤ 2147483648 := by
  intro z hz
  unfold wsL at hz
  obtain ⟨b, _, rfl⟩ := List.mem_map.1 hz
  have := k_le hs.bnd (b : Int) 1
  omega
theorem spread_v (ws : List Int) (good : List Bool) (n m : Nat) (hn : Hid (ws.length = n ∧ good.length = m)) (A1 A2 : Option Addr) (c1 c2 : Nat) (w : World) (S : Int) (hS : Hid (spreadI ws good = S))
    (h1 : Sl w w.heap.size A1 (ws.map (Value.int .i64))) (h2 : Sl w w.heap.size A2 (good.map Value.bool)) (n1 : n ≤ 1000000) (n2 : m ≤ 1000000) (hw : ∀ z ∈ ws, 0 ≤ z ∧ z ≤ 2147483648) :
    Calls Try.prog 39 #[.slice A1 n c1, .slice A2 m c2] w fun e' w' => e' = .returned (.int .i64 S) ∧ Below w.heap.size w w' := by
  obtain ⟨rfl, rfl⟩ := hn.out
  rw [← hS.out]
  exact Spread_any ws good A1 A2 c1 c2 w h1 h2 n1 n2 hw
theorem aspread_any (m gx gb : Nat) (Af : Option Addr) (nf cf : Nat) (a b c d e : Int) (fs : List Flt) (NA : Nat) (n0 : Int) (w : World) (s : ChS) (hC : ChipW w m gx gb Af nf cf a b c d e fs s) (hNA0 : (NA : Int) = a) (hs : Fine s n0) (hn0 : n0 ≤ 900000000) (S : Int) (hS : Hid (spreadI (wsL s NA) (gsL fs a s NA) = S)) : Calls Try.prog 14 #[.pointer (some ⟨m, 0, none⟩)] w fun e' w' => e' = .returned (.int .i64 S) ∧ Below w.heap.size w w' := by
  obtain ⟨q1, q2, q3, q4, q5, q6, -⟩ := may_bd (planMay_bd hC.may).1
  have hA20 : NA ≤ 20 := by omega
  have hNA := Lib.hid hNA0
  have HL := Lib.hid (And.intro (wsL_len s NA) (gsL_len fs a s NA))
  have HW := wsL_bd hs hn0 NA
  clear hNA0 q1 q2 q3 q4 q5 q6
  go_enter Try.func14, Try.ntmps14
  go_wp2_with (first | (go_at_call 10; go_loud (((with_reducible refine (wears_any m gx gb Af nf cf a b c d e fs NA _ s hC hNA.out).mono ?_); rintro e' wN ⟨v1, v2, rfl, hE⟩; obtain ⟨A1, c1, hv1, -, -, -, hs1⟩ := own_sliceV hE.r1; obtain ⟨A2, c2, hv2, -, -, -, hs2⟩ := own_sliceV hE.r2; subst hv1 hv2; have hBW := hE.b))) | (go_at_call 39; go_loud (((with_reducible refine (spread_v _ _ NA NA HL A1 A2 c1 c2 _ S hS hs1 hs2 (by omega) (by omega) HW).mono ?_); rintro e' wS ⟨rfl, hbS⟩))))
  go_ret
  exact ⟨rfl, btr hBW hBW.size hbS⟩
def badN (l : List Bool) : Nat := (l.filter fun x => !x).length
theorem gs_at {w : World} {B : Nat} {A : Option Addr} {l : List Bool} {k : Nat} {x : Bool} (h : Sl w B A (l.map Value.bool)) (hx : l[k]? = some x) : ∃ g o, A = some ⟨g, o, none⟩ ∧ g < B ∧ w.cell? ⟨g, o + k, none⟩ = some (.bool x) := by
  obtain ⟨g, o, e, hl, hc⟩ := h.at_ (by
    have := (List.getElem?_eq_some_iff.1 hx).1
    simpa using (by omega : 0 < l.length))
  exact ⟨g, o, e, hl, hc k _ (by rw [List.getElem?_map, hx]; rfl)⟩
theorem Slack_any (a b c d e : Int) (w : World) :
    Calls Try.prog 19 #[.agg #[.int .i64 a, .int .i64 b, .int .i64 c, .int .i64 d, .int .i64 e]] w fun e' w' => e' = .returned (.int .i64 (ifMay a b c d e (2 * a))) ∧ Below w.heap.size w w' := by
  cases hm : mayB a b c d e
  · rw [ifMay_no _ hm]
    have Hm := Lib.hid hm
    clear hm
    go_enter Try.func19, Try.ntmps19
    go_wp2_with (go_at_call 42; go_loud (refine (may_any _ _ _ _ _ _).mono ?_; rw [Hm.out]; rintro e' w1 ⟨rfl, hb1⟩))
    go_ret
    exact ⟨rfl, below1 hb1⟩
  · rw [ifMay_yes _ hm]
    obtain ⟨k1, k2, k3, k4, k7, k8, k5, k6, _⟩ := may_bd hm
    have Hm := Lib.hid hm
    clear hm
    go_enter Try.func19, Try.ntmps19
    go_wp2_with (go_at_call 42; go_loud (refine (may_any _ _ _ _ _ _).mono ?_; rw [Hm.out]; rintro e' w1 ⟨rfl, hb1⟩; obtain ⟨hc1, hf1⟩ := bcell hb1))
    go_ret
    exact ⟨rfl, below1 hb1⟩
theorem wrapI {x : Int} (h0 : -9223372036854775808 ≤ x) (h1 : x ≤ 9223372036854775807) : IntKind.i64.wrap x = x := by
  simp [IntKind.wrap, IntKind.bits, IntKind.signed]
  omega
theorem slack_v (a b c d e : Int) (w : World) (hm : Hid (mayB a b c d e = true)) : Calls Try.prog 19 #[.agg #[.int .i64 a, .int .i64 b, .int .i64 c, .int .i64 d, .int .i64 e]] w fun e' w' => e' = .returned (.int .i64 (2 * a)) ∧ Below w.heap.size w w' := by
  have h := Slack_any a b c d e w
  rwa [ifMay_yes _ hm.out] at h
theorem alimit_any (m gx gb : Nat) (Af : Option Addr) (nf cf : Nat) (a b c d e : Int) (fs : List Flt) (n0 : Int) (w : World) (s : ChS) (hC : ChipW w m gx gb Af nf cf a b c d e fs s) (hs : Fine s n0) (hn0 : n0 ≤ 900000000) (L : Int) (hL : Hid (e + 2 * a + s.cuts = L)) : Calls Try.prog 15 #[.pointer (some ⟨m, 0, none⟩)] w fun e' w' => e' = .returned (.int .i64 L) ∧ Below w.heap.size w w' := by
  have hm := (planMay_bd hC.may).1
  obtain ⟨q1, q2, q3, q4, q5, q6, q7, q8, q9⟩ := may_bd hm
  have HM := Lib.hid hm
  obtain ⟨o0, o1, c0, c1, -, -⟩ := hs.bnd
  have hret : Ending.returned (Value.int .i64 (IntKind.i64.wrap (IntKind.i64.wrap (e + 2 * a) + s.cuts))) = .returned (.int .i64 L) := by
    rw [← hL.out, wrapI (x := e + 2 * a) (by omega) (by omega), wrapI (x := e + 2 * a + s.cuts) (by omega) (by omega)]
  clear hm q3 q4 q5 q6
  go_enter Try.func15, Try.ntmps15
  go_upto_region 2 with (go_at_call 36; go_loud (((with_reducible refine (geometry_0 m gx gb Af nf cf a b c d e fs _ s hC).mono ?_); rintro e' wG ⟨rfl, hbG⟩)))
  obtain ⟨g, hg⟩ : ∃ g, wG.heap.size = g := ⟨_, rfl⟩
  have HG : Blk (wG.alloc (.cells #[.int .i64 a, .int .i64 b, .int .i64 c, .int .i64 d, .int .i64 e] 23)) wG.heap.size 23 #[.int .i64 a, .int .i64 b, .int .i64 c, .int .i64 d, .int .i64 e] := Blk.new_ _ _ _
  have hB : Below w.heap.size w (wG.alloc (.cells #[.int .i64 a, .int .i64 b, .int .i64 c, .int .i64 d, .int .i64 e] 23)) := hbG.alloc hbG.size _
  obtain ⟨wZ, hwZ⟩ : ∃ V : World, V = wG.alloc (.cells #[.int .i64 a, .int .i64 b, .int .i64 c, .int .i64 d, .int .i64 e] 23) := ⟨_, rfl⟩
  rw [← hwZ] at HG hB ⊢
  rw [hg] at HG ⊢
  clear hwZ
  have HY := cells5 HG
  refine wp_region_noPanic ?_
  refine wp_region_held_drew (S := (fun w' => w'.cell? ⟨g, 0, none⟩ = some (.int .i64 a) ∧ w'.cell? ⟨g, 1, none⟩ = some (.int .i64 b) ∧ w'.cell? ⟨g, 2, none⟩ = some (.int .i64 c) ∧ w'.cell? ⟨g, 3, none⟩ = some (.int .i64 d) ∧ w'.cell? ⟨g, 4, none⟩ = some (.int .i64 e))) (by kernel_rfl) ?_ (fun hHeld => ?_)
  · (first | exact HY | exact HY2 | assumption)
  refine tk 0 ⟨some 6, .fieldAddr 23 (.tmp 3) 4, 0, "audit.go:33", #[], none⟩ ?_; try simp only [Act.put, pz1, pz2, pz3]
  refine tk 1 ⟨some 7, .load 3 (.tmp 6), 3, "audit.go:33", #[⟨0, .data⟩], none⟩ ?_; try simp only [Act.put, pz1, pz2, pz3]
  refine tk 2 ⟨some 8, .load 23 (.tmp 3), 23, "audit.go:33", #[], none⟩ ?_; try simp only [Act.put, pz1, pz2, pz3]
  refine tk 5 ⟨some 11, .move (.tmp 0), 26, "audit.go:33", #[], none⟩ ?_; try simp only [Act.put, pz1, pz2, pz3]
  refine wpAnyH_ready (rs := [3]) (by kernel_rfl) (by simp) ?_
  refine AllReadyH.cons (o := ⟨some 9, .call { callee := .value (.func 19), args := #[.tmp 8], argTypes := #[23] }, 3, "audit.go:33", #[⟨2, .data⟩], none⟩) rfl (fun K hK => ?_) AllReadyH.nil
  go_simp
  (first | (go_at_call 19; go_loud (((with_reducible refine (slack_v a b c d e _ HM).mono ?_); rintro e' wS ⟨rfl, hbS⟩; (try have hbS := undrew hbS); have HY2 := cells5 (HG.below hbS HG.lt); replace hB := btr hB hB.size hbS))) | (go_at_call 20; go_loud (((with_reducible refine (cuts_any m gx gb Af nf cf a b c d e fs _ s (hC.likeB hB)).mono ?_); rintro e' wC ⟨rfl, rfl⟩))))
  go_wp2_with fail
  refine hK.out _ _ ?_ (fun hNew => ?_)
  · (first | exact HY | exact HY2 | assumption)
  clear hK K hHeld
  have hHeld := hNew
  clear hNew
  try simp only [Act.put, pz1, pz2, pz3]
  refine tk 4 ⟨some 10, .binOp .add 3 (.tmp 7) (.tmp 9) 3, 3, "audit.go:33", #[⟨1, .data⟩, ⟨3, .data⟩], none⟩ ?_; try simp only [Act.put, pz1, pz2, pz3]
  refine wpAnyH_ready (rs := [6]) (by kernel_rfl) (by simp) ?_
  refine AllReadyH.cons (o := ⟨some 12, .call { callee := .value (.func 20), args := #[.tmp 11], argTypes := #[26] }, 3, "audit.go:33", #[⟨5, .data⟩, ⟨3, .chain⟩], none⟩) rfl (fun K hK => ?_) AllReadyH.nil
  go_simp
  (first | (go_at_call 19; go_loud (((with_reducible refine (slack_v a b c d e _ HM).mono ?_); rintro e' wS ⟨rfl, hbS⟩; (try have hbS := undrew hbS); have HY2 := cells5 (HG.below hbS HG.lt); replace hB := btr hB hB.size hbS))) | (go_at_call 20; go_loud (((with_reducible refine (cuts_any m gx gb Af nf cf a b c d e fs _ s (hC.likeB hB)).mono ?_); rintro e' wC ⟨rfl, rfl⟩))))
  go_wp2_with fail
  refine hK.out _ _ ?_ (fun hNew => ?_)
  · (first | exact HY | exact HY2 | assumption)
  clear hK K hHeld
  have hHeld := hNew
  clear hNew
  try simp only [Act.put, pz1, pz2, pz3]
  refine tk 7 ⟨some 13, .binOp .add 3 (.tmp 10) (.tmp 12) 3, 3, "audit.go:33", #[⟨4, .data⟩, ⟨6, .data⟩], none⟩ ?_; try simp only [Act.put, pz1, pz2, pz3]
  refine tk 8 ⟨some 2, .assign (.tmp 13), 3, "audit.go:33", #[⟨7, .data⟩, ⟨6, .chain⟩, ⟨0, .phase⟩, ⟨1, .phase⟩, ⟨2, .phase⟩, ⟨3, .phase⟩, ⟨4, .phase⟩, ⟨5, .phase⟩, ⟨6, .phase⟩, ⟨7, .phase⟩], none⟩ ?_; try simp only [Act.put, pz1, pz2, pz3]
  refine wpAnyH_done (by kernel_rfl) ?_ _
  refine NoPanic.normal ?_
  clear hHeld
  go_wp2_with fail
  go_ret
  exact ⟨hret, (by first | exact hB | exact hB.drew)⟩
end Go.Proofs.Ytdfojhkpfbnmgaa
namespace Go.Proofs.Ytdfojhkpfbnmgaa
open Go.ChangeShapes Go.WideShapes Go.ChangeAt Go.RowKit
attribute [local go_sem ↓] Go.wp_at_zero Go.wp_at_succ
structure Kept (s S : ChS) : Prop where
  k : S.K = s.K
  c : S.cuts = s.cuts
  x : S.X = s.X
  o : S.on = s.on
  m : S.armed = s.armed
theorem Kept.refl (s : ChS) : Kept s s := ⟨rfl, rfl, rfl, rfl, rfl⟩
theorem Kept.trans {s S T : ChS} (h : Kept s S) (k : Kept S T) : Kept s T := ⟨k.k.trans h.k, k.c.trans h.c, k.x.trans h.x, k.o.trans h.o, k.m.trans h.m⟩
theorem read_kept {s : ChS} {a b x y : Int} (hz : s.readZ a b x y = 0) : Kept s (s.readS a b x y) := by
  unfold ChS.readZ at hz
  unfold ChS.readS
  cases ho : s.on
  · rw [ho] at hz; simp at hz
  · rw [ho] at hz
    cases ht : thereB a b x y
    · rw [ht] at hz; simp at hz
    · rw [ht] at hz
      cases hc : s.cutB
      · rw [Bool.true_and, if_pos rfl, tick_nc hc]
        exact ⟨rfl, rfl, rfl, rfl, rfl⟩
      · rw [hc] at hz; simp at hz
theorem walkF_kept {a b c : Int} {NB : Nat} {fs : List Flt} : ∀ (r i : Nat) (s : ChS) (acc accR : List Vis) (S : ChS), walkF a b c NB fs r i s acc = (0, accR, S) → Kept s S := by
  intro r
  induction r with
  | zero => intro i s acc accR S h; unfold walkF at h; simp only [Prod.mk.injEq] at h; rw [← h.2.2]; exact Kept.refl _
  | succ r ih =>
    intro i s acc accR S h
    rw [walkF] at h
    split at h
    · exact ih _ _ _ _ _ h
    · split at h
      · rename_i hz
        exact (read_kept hz).trans (ih _ _ _ _ _ h)
      · rename_i hz
        simp only [Prod.mk.injEq] at h
        exact absurd h.1 hz
theorem ws_kept {s S : ChS} (h : Kept s S) (n : Nat) : wsL S n = wsL s n := by
  unfold wsL ChS.k
  rw [h.k]
theorem gs_kept {s S : ChS} (h : Kept s S) (fs : List Flt) (a : Int) (n : Nat) : gsL fs a S n = gsL fs a s n := by
  unfold gsL failedB ChS.k
  rw [h.k]
theorem on_v (m gx gb : Nat) (Af : Option Addr) (nf cf : Nat) (a b c d e : Int) (fs : List Flt) (T : Bool) (w : World) (s : ChS) (hC : ChipW w m gx gb Af nf cf a b c d e fs s) (hT : Hid (s.on = T)) : Calls Try.prog 43 #[.pointer (some ⟨m, 0, none⟩)] w fun e' w' => e' = .returned (.bool T) ∧ w = w' := by
  have h := on_any m gx gb Af nf cf a b c d e fs w s hC
  rwa [hT.out] at h
theorem why_off (m gx gb : Nat) (Af : Option Addr) (nf cf : Nat) (a b c d e : Int) (fs : List Flt) (w : World) (s : ChS) (hC : ChipW w m gx gb Af nf cf a b c d e fs s) (hT : Hid (s.on = false)) : Calls Try.prog 21 #[.pointer (some ⟨m, 0, none⟩)] w fun e' w' => e' = .returned (.string { data := #[111, 102, 102] }) ∧ Below w.heap.size w w' := by
  go_enter Try.func21, Try.ntmps21
  go_wp2_with (go_at_call 43; go_loud (((with_reducible refine (on_v m gx gb Af nf cf a b c d e fs false _ s hC hT).mono ?_); rintro e' wN ⟨rfl, rfl⟩)))
  go_ret
  exact ⟨rfl, Below.refl _ _⟩
theorem why_nil (w : World) : Calls Try.prog 21 #[.pointer none] w fun e' w' => e' = .returned (.string { data := #[111, 102, 102] }) ∧ Below w.heap.size w w' := by
  go_enter Try.func21, Try.ntmps21
  go_wp2_with (go_at_call 43; go_loud (((with_reducible refine (on_nil _).mono ?_); rintro e' wN ⟨rfl, rfl⟩)))
  go_ret
  exact ⟨rfl, Below.refl _ _⟩
theorem rowfd_slA {w : World} {B n c : Nat} {A : Option Addr} {L : List Fd} (h : RowFd w B (.slice A n c) L) : SlFd w w.heap.size A L := by
  obtain ⟨A', c', hv, hs, -, -⟩ := h.sl
  cases hv
  exact hs
theorem why_twice (m gx gb : Nat) (Af : Option Addr) (nf cf : Nat) (a b c d e : Int) (fs : List Flt) (NA NB : Nat) (n0 : Int) (acc : List Vis) (w : World) (s S1 : ChS) (hC : ChipW w m gx gb Af nf cf a b c d e fs s) (hg : Good s n0) (hn0 : n0 ≤ 800000000) (h8 : Bytes8 s.X) (hon : Hid (s.on = true)) (hNA : Hid ((NA : Int) = a)) (hNB : Hid ((NB : Int) = b)) (hR : Hid (walkF a b c NB fs (NA * NB) 0 s [] = (0, acc, S1))) (n : Nat) (hn : Hid ((fdsOf acc).length = n)) (hn1 : n ≤ 1000) (hok : ∀ x ∈ fdsOf acc, i64in x.s) (hdup : Hid (dupB (seqs (fdsOf acc)) = true)) :
    Calls Try.prog 21 #[.pointer (some ⟨m, 0, none⟩)] w fun e' w' => e' = .returned (.string { data := #[116, 119, 105, 99, 101] }) ∧ ChipW w' m gx gb Af nf cf a b c d e fs S1 ∧ Tch (chB m gx gb) w w' ∧ Good S1 (n0 + 1000) := by
  go_enter Try.func21, Try.ntmps21
  go_wp2_with (first | (go_at_call 43; go_loud (((with_reducible refine (on_v m gx gb Af nf cf a b c d e fs true _ s hC hon).mono ?_); rintro e' wN ⟨rfl, rfl⟩))) | (go_at_call 44; go_loud (((with_reducible refine (scan_ok m gx gb Af nf cf a b c d e fs NA NB n0 acc s S1 _ hC hg (by omega) h8 hNA.out hNB.out hR n hn).mono ?_); rintro e' wE ⟨⟨A3, c3, rfl, hrF⟩, hC1, hT1, hg1, -⟩; have hsF := rowfd_slA hrF))) | (go_at_call 45; go_loud (((with_reducible refine (twice_any (fdsOf acc) A3 n c3 _ hn.out hsF (by omega) hok true hdup).mono ?_); rintro e' wT ⟨rfl, hbT⟩; have hTT := hT1.then hbT; have hC2 := hC1.below hbT))))
  go_ret
  first | exact ⟨rfl, hC2, hTT, hg1⟩ | exact ⟨rfl, hC2, hTT⟩
theorem why_low (m gx gb : Nat) (Af : Option Addr) (nf cf : Nat) (a b c d e : Int) (fs : List Flt) (NA NB : Nat) (n0 : Int) (acc : List Vis) (w : World) (s S1 : ChS) (hC : ChipW w m gx gb Af nf cf a b c d e fs s) (hg : Good s n0) (hn0 : n0 ≤ 800000000) (h8 : Bytes8 s.X) (hon : Hid (s.on = true)) (hNA : Hid ((NA : Int) = a)) (hNB : Hid ((NB : Int) = b)) (hR : Hid (walkF a b c NB fs (NA * NB) 0 s [] = (0, acc, S1))) (n : Nat) (hn : Hid ((fdsOf acc).length = n)) (hn1 : n ≤ 1000) (hok : ∀ x ∈ fdsOf acc, i64in x.s) (hdup : Hid (dupB (seqs (fdsOf acc)) = false)) (S L : Int) (hS : Hid (spreadI (wsL S1 NA) (gsL fs a S1 NA) = S)) (hL : Hid (e + 2 * a + S1.cuts = L)) (hSL : ¬ L < S) :
    Calls Try.prog 21 #[.pointer (some ⟨m, 0, none⟩)] w fun e' w' => e' = .returned (.string { data := #[] }) ∧ ChipW w' m gx gb Af nf cf a b c d e fs S1 ∧ Tch (chB m gx gb) w w' ∧ Good S1 (n0 + 1000) := by
  go_enter Try.func21, Try.ntmps21
  go_wp2_with (first | (go_at_call 43; go_loud (((with_reducible refine (on_v m gx gb Af nf cf a b c d e fs true _ s hC hon).mono ?_); rintro e' wN ⟨rfl, rfl⟩))) | (go_at_call 44; go_loud (((with_reducible refine (scan_ok m gx gb Af nf cf a b c d e fs NA NB n0 acc s S1 _ hC hg (by omega) h8 hNA.out hNB.out hR n hn).mono ?_); rintro e' wE ⟨⟨A3, c3, rfl, hrF⟩, hC1, hT1, hg1, -⟩; have hsF := rowfd_slA hrF))) | (go_at_call 45; go_loud (((with_reducible refine (twice_any (fdsOf acc) A3 n c3 _ hn.out hsF (by omega) hok false hdup).mono ?_); rintro e' wT ⟨rfl, hbT⟩; have hTT := hT1.then hbT; have hC2 := hC1.below hbT))) | (go_at_call 14; go_loud (((with_reducible refine (aspread_any m gx gb Af nf cf a b c d e fs NA (n0 + 1000) _ S1 hC2 hNA.out hg1.fine (by omega) S hS).mono ?_); rintro e' wS ⟨rfl, hbS⟩; replace hTT := hTT.then hbS; replace hC2 := hC2.below hbS))) | (go_at_call 15; go_loud (((with_reducible refine (alimit_any m gx gb Af nf cf a b c d e fs (n0 + 1000) _ S1 hC2 hg1.fine (by omega) L hL).mono ?_); rintro e' wL ⟨rfl, hbL⟩; replace hTT := hTT.then hbL; replace hC2 := hC2.below hbL))))
  go_ret
  first | exact ⟨rfl, hC2, hTT, hg1⟩ | exact ⟨rfl, hC2, hTT⟩
end Go.Proofs.Ytdfojhkpfbnmgaa
namespace Go.Proofs.Ytdfojhkpfbnmgaa
open Go.ChangeShapes Go.WideShapes Go.ChangeAt Go.RowKit
attribute [local go_sem ↓] Go.wp_at_zero Go.wp_at_succ
end Go.Proofs.Ytdfojhkpfbnmgaa
namespace Go.Proofs.Ytdfojhkpfbnmgaa
open Go.ChangeShapes Go.WideShapes Go.ChangeAt Go.RowKit
theorem good_new (NX NB : Nat) : Good (ChS.new NX NB) 20 := by
  have hz : ∀ i, (List.replicate (3 * NB) (0 : Int)).getD i 0 = 0 := by
    intro i
    rw [List.getD_eq_getElem?_getD, List.getElem?_replicate]
    split <;> rfl
  exact ⟨⟨⟨by simp [ChS.new], by simp [ChS.new], by simp [ChS.new], by simp [ChS.new], fun i => by show 0 ≤ (List.replicate (3 * NB) (0 : Int)).getD i 0; rw [hz]; omega, fun i => by show (List.replicate (3 * NB) (0 : Int)).getD i 0 ≤ 20; rw [hz]; omega⟩, by simp [ChS.new], by simp [ChS.new]⟩, ⟨fun h => by simp [ChS.new] at h, fun h => by simp [ChS.new] at h⟩⟩
structure Liv (s : ChS) : Prop where
  on : s.on = true
  ar : s.armed = false
  b8 : Bytes8 s.X
theorem Liv.cut {s : ChS} (h : Liv s) : s.cutB = false := by unfold ChS.cutB; rw [h.ar]; rfl
theorem Liv.tick {s : ChS} (h : Liv s) : Liv s.tick := by
  unfold ChS.tick
  rw [h.cut]
  exact ⟨h.on, h.ar, h.b8⟩
theorem Liv.new (NX NB : Nat) : Liv (ChS.new NX NB) := ⟨rfl, rfl, fun x hx => by
  have := List.eq_of_mem_replicate hx
  omega⟩
theorem putX_8 {X vs : List Nat} {F : Nat} (h : Bytes8 X) (hv : Bytes8 vs) : Bytes8 (putX X F vs) := by
  intro x hx
  unfold putX at hx
  rcases List.mem_append.1 hx with hx | hx
  · rcases List.mem_append.1 hx with hx | hx
    · exact h x (List.mem_of_mem_take hx)
    · exact hv x hx
  · exact h x (List.mem_of_mem_drop hx)
theorem Liv.prog {s : ChS} (h : Liv s) (a b c : Int) (fs : List Flt) (x y : Int) {bs : List Nat} (hb : Bytes8 bs) : Liv (s.progS a b c fs x y bs) := by
  unfold ChS.progS
  split
  · split
    · rw [h.cut]
      have ht := h.tick
      exact ⟨ht.on, ht.ar, putX_8 h.b8 hb⟩
    · exact h.tick
  · exact h
theorem Liv.read {s : ChS} (h : Liv s) (a b x y : Int) : Liv (s.readS a b x y) := by
  unfold ChS.readS
  split
  · exact h.tick
  · exact h
def pg (X : List Nat) (RW i : Nat) : List Nat := (X.drop (i * RW)).take RW
def visF (NB RW : Nat) (fs : List Flt) (X : List Nat) : Nat → Nat → List Vis
  | 0, _ => []
  | r + 1, i => (if badB fs ((i / NB : Nat) : Int) = true then [] else [(i / NB, i % NB, pg X RW i)]) ++ visF NB RW fs X r (i + 1)
theorem live_read {a b c : Int} {NA NB RW i : Nat} {s : ChS} (h : Liv s) (hA : (NA : Int) = a) (hB : (NB : Int) = b) (hR : (RW : Int) = c + 16) (h0 : 0 < NB) (hi : i < NA * NB) : s.readZ a b ((i / NB : Nat) : Int) ((i % NB : Nat) : Int) = 0 ∧ s.readB a b c ((i / NB : Nat) : Int) ((i % NB : Nat) : Int) = pg s.X RW i := by
  have ht := there_in hA hB h0 hi
  obtain ⟨h1, h2, h3⟩ := divmod h0 hi
  have e1 : (((i / NB : Nat) : Int) * b + ((i % NB : Nat) : Int)).toNat = i := by rw [← hB, ← Int.natCast_mul]; omega
  have e2 : (c + 16).toNat = RW := by omega
  unfold ChS.readZ ChS.readB
  rw [h.on, ht, h.cut]
  refine ⟨by simp, ?_⟩
  simp only [Bool.not_false, Bool.and_true, Bool.and_self, if_true, reduceIte]
  unfold ChS.pageOf pg
  rw [e1, e2]
theorem walkF_liv {a b c : Int} {NA NB RW : Nat} {fs : List Flt} (hA : (NA : Int) = a) (hB : (NB : Int) = b) (hR : (RW : Int) = c + 16) (h0 : 0 < NB) : ∀ (r i : Nat) (s : ChS) (acc : List Vis), i + r ≤ NA * NB → Liv s → ∃ S1, walkF a b c NB fs r i s acc = (0, acc ++ visF NB RW fs s.X r i, S1) ∧ S1.X = s.X ∧ Liv S1
  | 0, i, s, acc, _, h => ⟨s, by simp [walkF, visF], rfl, h⟩
  | r + 1, i, s, acc, hi, h => by
    cases hb : badB fs ((i / NB : Nat) : Int) with
    | true =>
      rw [walkF_bad hb]
      obtain ⟨S1, h1, h2, h3⟩ := walkF_liv hA hB hR h0 r (i + 1) s acc (by omega) h
      refine ⟨S1, ?_, h2, h3⟩
      rw [h1, visF, if_pos hb, List.nil_append]
    | false =>
      obtain ⟨z1, z2⟩ := live_read (c := c) h hA hB hR h0 (show i < NA * NB by omega)
      rw [walkF_ok hb z1 rfl z2]
      obtain ⟨S1, h1, h2, h3⟩ := walkF_liv hA hB hR h0 r (i + 1) (s.readS a b ((i / NB : Nat) : Int) ((i % NB : Nat) : Int)) (acc ++ [(i / NB, i % NB, pg s.X RW i)]) (by omega) (h.read a b _ _)
      rw [readS_X] at h1 h2
      refine ⟨S1, ?_, h2, h3⟩
      rw [h1, visF, if_neg (by rw [hb]; simp), List.append_assoc]
theorem badB_nil (B : Int) : badB [] B = false := rfl
theorem visF_nil {NB RW : Nat} {X : List Nat} {r i : Nat} : visF NB RW [] X (r + 1) i = (i / NB, i % NB, pg X RW i) :: visF NB RW [] X r (i + 1) := by
  rw [visF, if_neg (by rw [badB_nil]; simp)]
  rfl
theorem visF_add {NB RW : Nat} {X : List Nat} : ∀ (r1 r2 i : Nat), visF NB RW [] X (r1 + r2) i = visF NB RW [] X r1 i ++ visF NB RW [] X r2 (i + r1)
  | 0, r2, i => by simp [visF]
  | r1 + 1, r2, i => by
    rw [show r1 + 1 + r2 = (r1 + r2) + 1 by omega, visF_nil, visF_nil, visF_add r1 r2 (i + 1), show i + 1 + r1 = i + (r1 + 1) by omega]
    rfl
theorem fds_cons (v : Vis) (l : List Vis) : fdsOf (v :: l) = fdOf v ++ fdsOf l := rfl
theorem fds_app (l l' : List Vis) : fdsOf (l ++ l') = fdsOf l ++ fdsOf l' := by simp [fdsOf]
theorem cnt_cons (p : Nat → Bool) (v : Vis) (l : List Vis) : cnt p (v :: l) = (if p (readSt v.2.2) = true then 1 else 0) + cnt p l := by
  unfold cnt
  rw [List.filter_cons]
  split <;> simp <;> omega
theorem vis_blank {NB RW : Nat} {X : List Nat} : ∀ (r i : Nat), (∀ t, i ≤ t → t < i + r → readSt (pg X RW t) = 0) → fdsOf (visF NB RW [] X r i) = [] ∧ cnt (fun s => s == 0) (visF NB RW [] X r i) = r ∧ cnt (fun s => s == 1) (visF NB RW [] X r i) = 0 ∧ cnt (fun s => !(s == 0 || s == 1)) (visF NB RW [] X r i) = 0
  | 0, i, _ => ⟨rfl, rfl, rfl, rfl⟩
  | r + 1, i, h => by
    obtain ⟨h1, h2, h3, h4⟩ := vis_blank (NB := NB) r (i + 1) (fun t ht1 ht2 => h t (by omega) (by omega))
    have hz := h i (Nat.le_refl _) (by omega)
    rw [visF_nil, fds_cons, cnt_cons, cnt_cons, cnt_cons, h1, h2, h3, h4]
    dsimp only
    rw [hz]
    refine ⟨?_, ?_, by simp, by simp⟩
    · unfold fdOf
      rw [if_neg (by dsimp only; rw [hz]; omega)]
      rfl
    · simp
      omega
theorem pg_get {X : List Nat} {RW i q : Nat} (hq : q < RW) : (pg X RW i)[q]? = X[i * RW + q]? := by
  unfold pg
  rw [List.getElem?_take_of_lt hq, List.getElem?_drop]
theorem pg_ext {X Y : List Nat} {RW i : Nat} (h : ∀ q, q < RW → X[i * RW + q]? = Y[i * RW + q]?) : pg X RW i = pg Y RW i := by
  apply List.ext_getElem?
  intro q
  by_cases hq : q < RW
  · rw [pg_get hq, pg_get hq]
    exact h q hq
  · rw [List.getElem?_eq_none (by unfold pg; rw [List.length_take]; omega), List.getElem?_eq_none (by unfold pg; rw [List.length_take]; omega)]
theorem pg_far {X vs : List Nat} {RW i F : Nat} (h : F + vs.length ≤ X.length) (hf : i * RW + RW ≤ F ∨ F + vs.length ≤ i * RW) : pg (putX X F vs) RW i = pg X RW i :=
  pg_ext fun q hq => by
    rw [putX_get h]
    rcases hf with hf | hf
    · rw [if_pos (by omega)]
    · rw [if_neg (by omega), if_neg (by omega)]
theorem pg_at {X vs : List Nat} {RW i : Nat} (h : i * RW + vs.length ≤ X.length) (hl : vs.length = RW) : pg (putX X (i * RW) vs) RW i = vs := by
  apply List.ext_getElem?
  intro q
  by_cases hq : q < RW
  · rw [pg_get hq, putX_get h, if_neg (by omega), if_pos (by omega)]
    congr 1
    omega
  · rw [List.getElem?_eq_none (by unfold pg; rw [List.length_take]; omega), List.getElem?_eq_none (by omega)]
theorem pg_rep {n RW i f : Nat} (h : i * RW + RW ≤ n) : pg (List.replicate n f) RW i = List.replicate RW f := by
  unfold pg
  rw [List.drop_replicate, List.take_replicate, Nat.min_eq_left (by omega)]
theorem st_blank {RW : Nat} (h1 : 40 ≤ RW) (h2 : RW ≤ 80) : readSt (List.replicate RW 255) = 0 := by
  unfold readSt
  rw [List.length_replicate, if_pos ⟨h1, h2⟩, if_pos]
  unfold blankB
  rw [List.all_eq_true]
  intro x hx
  rw [List.eq_of_mem_replicate hx]
  rfl
structure Emp (s : ChS) : Prop where
  liv : Liv s
  ff : ∀ v ∈ s.X, v = 255
theorem Emp.new (NX NB : Nat) : Emp (ChS.new NX NB) := ⟨Liv.new NX NB, fun v hv => List.eq_of_mem_replicate hv⟩
theorem rep_of {l : List Nat} (h : ∀ v ∈ l, v = 255) : l = List.replicate l.length 255 := List.eq_replicate_iff.2 ⟨rfl, h⟩
theorem vis_none {NB RW : Nat} {fs : List Flt} {X : List Nat} : ∀ (r i : Nat), (∀ t, i ≤ t → t < i + r → readSt (pg X RW t) = 0) → fdsOf (visF NB RW fs X r i) = []
  | 0, i, _ => rfl
  | r + 1, i, h => by
    have h1 := vis_none (NB := NB) (fs := fs) r (i + 1) (fun t ht1 ht2 => h t (by omega) (by omega))
    rw [visF, fds_app, h1, List.append_nil]
    split
    · rfl
    · rw [fds_cons]
      have h0 := h i (Nat.le_refl _) (by omega)
      have : fdOf (i / NB, i % NB, pg X RW i) = [] := by
        unfold fdOf
        rw [h0]
        rfl
      rw [this]
      rfl
theorem emp_walk {a b c : Int} {NA NB RW : Nat} {fs : List Flt} {s : ChS} (h : Emp s) (hA : (NA : Int) = a) (hB : (NB : Int) = b) (hR : (RW : Int) = c + 16) (h0 : 0 < NB) (h40 : 40 ≤ RW) (h80 : RW ≤ 80) (hl : s.X.length = NA * NB * RW) : ∃ acc S1, walkF a b c NB fs (NA * NB) 0 s [] = (0, acc, S1) ∧ fdsOf acc = [] ∧ Kept s S1 := by
  obtain ⟨S1, h1, h2, h3⟩ := walkF_liv (fs := fs) hA hB hR h0 (NA * NB) 0 s [] (by omega) h.liv
  rw [List.nil_append] at h1
  refine ⟨_, S1, h1, ?_, walkF_kept _ _ _ _ _ _ h1⟩
  refine vis_none _ _ fun t ht1 ht2 => ?_
  rw [rep_of h.ff, pg_rep]
  · exact st_blank h40 h80
  · rw [hl]
    have : t * RW + RW ≤ NA * NB * RW := by
      rw [← Nat.succ_mul]
      exact Nat.mul_le_mul_right _ (by omega)
    omega
theorem ChipW.len {w : World} {m gx gb : Nat} {Af : Option Addr} {nf cf : Nat} {a b c d e : Int} {fs : List Flt} {s : ChS} (h : ChipW w m gx gb Af nf cf a b c d e fs s) {NA NB RW : Nat} (hA : (NA : Int) = a) (hB : (NB : Int) = b) (hR : (RW : Int) = c + 16) : s.X.length = NA * NB * RW := by
  rw [h.lenX, ← hA, ← hB, ← hR]
  have : (NA : Int) * (NB : Int) * (RW : Int) = ((NA * NB * RW : Nat) : Int) := by rw [Int.natCast_mul, Int.natCast_mul]
  rw [this]
  omega
end Go.Proofs.Ytdfojhkpfbnmgaa
namespace Go.Proofs.Ytdfojhkpfbnmgaa
open Go.ChangeShapes Go.WideShapes Go.ChangeAt Go.RowKit
attribute [local go_sem ↓] Go.wp_at_zero Go.wp_at_succ
theorem small23 (w : World) : Calls Try.prog 26 #[] w fun e' w' => e' = .returned (.agg #[.int .i64 8, .int .i64 4, .int .i64 32, .int .i64 0, .int .i64 2]) ∧ Below w.heap.size w w' := by
  go_enter Try.func26, Try.ntmps26
  go_wp2
  refine bodyPost_ret (v := .agg #[.int .i64 8, .int .i64 4, .int .i64 32, .int .i64 0, .int .i64 2]) (by simp [results, Try.results26, go_sem]) rfl ⟨rfl, ?_⟩
  exact (Below.refl _ _).alloc (Nat.le_refl _) _
theorem newA (w : World) : Calls Try.prog 6 #[.agg #[.int .i64 8, .int .i64 4, .int .i64 32, .int .i64 0, .int .i64 2], .slice none 0 0] w fun e' w' => (∃ m gx gb AF cf, e' = .returned (.pointer (some ⟨m, 0, none⟩)) ∧ ChipW w' m gx gb AF 0 cf 8 4 32 0 2 [] (ChS.new 1536 8) ∧ w.heap.size ≤ m ∧ w.heap.size ≤ gx ∧ w.heap.size ≤ gb) ∧ Below w.heap.size w w' :=
  newF_yes 8 4 32 0 2 [] none 0 1536 8 w (Or.inl rfl) (Nat.le_refl _) (Nat.zero_le _) (by simp) (Lib.hid (by decide)) (by decide) rfl (by omega) (by omega) (by omega)
theorem gA : gsL [] 8 (ChS.new 1536 8) 8 = List.replicate 8 true := by rfl
theorem sA9 : spreadI (wsL (ChS.new 1536 8) 8) (gsL [] 8 (ChS.new 1536 8) 8) = 0 := by rfl
theorem walkA9 : ∃ acc S1, walkF 8 4 32 4 [] (8 * 4) 0 (ChS.new 1536 8) [] = (0, acc, S1) ∧ fdsOf acc = [] ∧ Kept (ChS.new 1536 8) S1 :=
  emp_walk (RW := 48) (Emp.new 1536 8) rfl rfl rfl (by omega) (by omega) (by omega) (by show (List.replicate 1536 255).length = _; rw [List.length_replicate])
theorem awake23 (w : World) : Calls Try.prog 5 #[] w fun e' w' => e' = .returned (.bool true) ∧ Below w.heap.size w w' := by
  obtain ⟨acc, S1, hw1, hfd, hk⟩ := walkA9
  have hW := Lib.hid hw1
  have hF0 : Hid ((fdsOf acc).length = 0) := Lib.hid (by rw [hfd]; rfl)
  have hok : ∀ x ∈ fdsOf acc, i64in x.s := fun x hx => by rw [hfd] at hx; cases hx
  have hdp : Hid (dupB (seqs (fdsOf acc)) = false) := Lib.hid (by rw [hfd]; rfl)
  have hS0 : Hid (spreadI (wsL S1 8) (gsL [] 8 S1 8) = 0) := Lib.hid (by rw [ws_kept hk, gs_kept hk]; exact sA9)
  have hL18 : Hid ((2 : Int) + 2 * 8 + S1.cuts = 18) := Lib.hid (by rw [hk.c]; rfl)
  clear hw1 hfd hk
  go_enter Try.func5, Try.ntmps5
  go_wp2_with (first | (go_at_call 26; go_loud (((with_reducible refine (small23 _).mono ?_); rintro e' wN ⟨rfl, hB⟩; skip))) | (go_at_call 6; go_loud (((with_reducible refine (newA _).mono ?_); rintro e' wN ⟨⟨m, gx, gb, AF, cf, rfl, hC, hm, hgx, hgb⟩, hb⟩; have hB0 := btr hB hB.size hb; have hlow : ∀ g, chB m gx gb g → w.heap.size ≤ g := fun g hg => (by have := hB.size; rcases hg with rfl | rfl | rfl <;> omega)))) | (go_at_call 10; go_loud (((with_reducible refine (wears_any m gx gb AF 0 cf 8 4 32 0 2 [] 8 _ (ChS.new 1536 8) hC rfl).mono ?_); rintro e' wN ⟨v1, v2, rfl, hE⟩; obtain ⟨A1, c1, hv1, -, -, -, hs1⟩ := own_sliceV hE.r1; obtain ⟨A2, c2, hv2, -, -, -, hs2⟩ := own_sliceV hE.r2; subst hv1 hv2; obtain ⟨g2, o2, rfl, hl2, z7⟩ := gs_at (k := 7) (x := true) hs2 (by rw [gA]; rfl); have hlC := hC.lt; have hg2 : ¬ chB m gx gb g2 := (fun q => by have := (hE.r2.lt g2 rfl).1; rcases q with rfl | rfl | rfl <;> omega); have hC2 := hC.below hE.b; have HBE := hB0.trans (hE.b.mono hB0.size)))) | (go_at_call 21; go_loud (((with_reducible refine (why_low m gx gb AF 0 cf 8 4 32 0 2 [] 8 4 20 acc _ (ChS.new 1536 8) S1 hC2 (good_new 1536 8) (by omega) (Liv.new 1536 8).b8 (Lib.hid rfl) (Lib.hid rfl) (Lib.hid rfl) hW 0 hF0 (by omega) hok hdp 0 18 hS0 hL18 (by omega)).mono ?_); rintro e' wN ⟨rfl, hC3, hT3, hg3⟩; have z7 := (World.cell?_of_block (a := ⟨g2, o2 + 7, none⟩) (hT3.far g2 hl2 hg2)).trans z7; have HBW := HBE.trans (hT3.below HBE.size hlow); have hl2 := Nat.lt_of_lt_of_le hl2 hT3.size))) | (go_at_call 21; go_loud (((with_reducible refine (why_nil _).mono ?_); rintro e' wN ⟨rfl, hbN⟩; have hC4 := hC3.below hbN; have HBW2 := btr HBW HBW.size hbN; have z7 := (hbN.cell (p := ⟨g2, o2 + 7, none⟩) hl2).trans z7; have hl2 := Nat.lt_of_lt_of_le hl2 hbN.size))) | (go_at_call 14; go_loud (((with_reducible refine (aspread_any m gx gb AF 0 cf 8 4 32 0 2 [] 8 (20 + 1000) _ S1 hC4 rfl hg3.fine (by omega) 0 hS0).mono ?_); rintro e' wN ⟨rfl, hbS⟩; have hC5 := hC4.below hbS; have HBW3 := btr HBW2 HBW2.size hbS))) | (go_at_call 15; go_loud (((with_reducible refine (alimit_any m gx gb AF 0 cf 8 4 32 0 2 [] (20 + 1000) _ S1 hC5 hg3.fine (by omega) 18 hL18).mono ?_); rintro e' wN ⟨rfl, hbL⟩; have HBW4 := btr HBW3 HBW3.size hbL))))
  go_ret
  exact ⟨rfl, HBW4⟩
end Go.Proofs.Ytdfojhkpfbnmgaa
namespace Go.Proofs.Ytdfojhkpfbnmgaa
open Go.ChangeShapes Go.WideShapes Go.ChangeAt Go.RowKit
attribute [local go_sem ↓] Go.wp_at_zero Go.wp_at_succ
theorem rmay_t (a b c d e : Int) (w : World) (hm : Hid (mayB a b c d e = true)) : Calls Try.prog 7 #[.agg #[.int .i64 a, .int .i64 b, .int .i64 c, .int .i64 d, .int .i64 e]] w fun e' w' => e' = .returned (.bool true) ∧ Below w.heap.size w w' := by
  have h := rmay_any a b c d e w
  rwa [hm.out] at h
theorem aw_walk {w : World} {m gx gb : Nat} {Af : Option Addr} {nf cf : Nat} {a b c d e : Int} {fs : List Flt} {s : ChS} (h : ChipW w m gx gb Af nf cf a b c d e fs s) (hE : Emp s) {NA NB : Nat} (hA : (NA : Int) = a) (hB : (NB : Int) = b) : ∃ acc S1, walkF a b c NB fs (NA * NB) 0 s [] = (0, acc, S1) ∧ fdsOf acc = [] ∧ Kept s S1 := by
  obtain ⟨q1, q2, q3, q4, q5, q6, -⟩ := may_bd (planMay_bd h.may).1
  obtain ⟨RW, hR⟩ : ∃ RW : Nat, (RW : Int) = c + 16 := ⟨(c + 16).toNat, by omega⟩
  exact emp_walk hE hA hB hR (by omega) (by omega) (by omega) (h.len hA hB hR)
structure AwF (a b c d e : Int) (fs : List Flt) (NA NB : Nat) (S : ChS) (acc : List Vis) (S1 : ChS) (SP LM : Int) (F : Nat) (cu : Int) : Prop where
  w : Hid (walkF a b c NB fs (NA * NB) 0 S [] = (0, acc, S1))
  f : Hid ((fdsOf acc).length = 0)
  ok : ∀ x ∈ fdsOf acc, i64in x.s
  du : Hid (dupB (seqs (fdsOf acc)) = false)
  sp : Hid (spreadI (wsL S NA) (gsL fs a S NA) = SP)
  sp1 : Hid (spreadI (wsL S1 NA) (gsL fs a S1 NA) = SP)
  lm : Hid (e + 2 * a + S.cuts = LM)
  lm1 : Hid (e + 2 * a + S1.cuts = LM)
  bf : Hid (badN (gsL fs a S NA) = F)
  bf1 : Hid (badN (gsL fs a S1 NA) = F)
  cu : Hid (S.cuts = cu)
  on : Hid (S.on = true)
  b8 : Bytes8 S.X
theorem AwF.ex {w : World} {m gx gb : Nat} {Af : Option Addr} {nf cf : Nat} {a b c d e : Int} {fs : List Flt} {s : ChS} (h : ChipW w m gx gb Af nf cf a b c d e fs s) (hE : Emp s) {NA NB : Nat} (hA : (NA : Int) = a) (hB : (NB : Int) = b) : ∃ acc S1 SP LM F cu, AwF a b c d e fs NA NB s acc S1 SP LM F cu := by
  obtain ⟨acc, S1, h1, h2, h3⟩ := aw_walk h hE hA hB
  exact ⟨acc, S1, _, _, _, _, Lib.hid h1, Lib.hid (by rw [h2]; rfl), fun x hx => (by rw [h2] at hx; cases hx), Lib.hid (by rw [h2]; rfl), Lib.hid rfl, Lib.hid (by rw [ws_kept h3, gs_kept h3]), Lib.hid rfl, Lib.hid (by rw [h3.c]), Lib.hid rfl, Lib.hid (by rw [gs_kept h3]), Lib.hid rfl, Lib.hid hE.liv.on, hE.liv.b8⟩
theorem low_v (x n z : Int) (w : World) (hn : 1 ≤ n) (hm : n ≤ 4611686018427387904) (hz : Hid (lowI x n = z)) : Calls Try.prog 8 #[.int .i64 x, .int .i64 n] w fun e' w' => e' = .returned (.int .i64 z) ∧ w = w' := by
  have h := low_any x n w hn hm
  rwa [hz.out] at h
theorem Wr.drew {w0 wr : World} {fs : List Flt} {a : Int} {s : ChS} {k1 k2 : Nat} {v1 v2 : Value} (h : Wr w0 wr fs a s k1 k2 v1 v2) : Wr w0 wr.drew fs a s k1 k2 v1 v2 := ⟨h.b.drew, h.r1, h.r2, h.ap⟩
end Go.Proofs.Ytdfojhkpfbnmgaa
namespace Go.Proofs.Ytdfojhkpfbnmgaa
open Go.ChangeShapes Go.WideShapes Go.ChangeAt Go.RowKit
theorem own_cut {w : World} {base n : Nat} {v : Value} {xs : List Value} (h : w.ownsRow base 5 1 v n xs) (hn : 0 < n) : ∃ g c, v = .slice (some ⟨g, 0, none⟩) n c ∧ RowT w g 5 xs ∧ base ≤ g ∧ n ≤ c ∧ c ≤ maxLen := by
  have h0 := h
  rcases h.2 with ⟨_, h1⟩ | ⟨g, cap, cur, rfl, h1, h2, h3, h4, h5⟩
  · omega
  · exact ⟨g, cap, rfl, RowT.own h0, h1, h3, h4⟩
theorem row_sl {w : World} {g : Nat} {ys : List Nat} (h : RowT w g 5 (ys.map byteV)) : Sl w w.heap.size (some ⟨g, 0, none⟩) (ys.map byteV) := Or.inr ⟨g, 0, rfl, h.lt, fun j u hu => by rw [Nat.zero_add]; exact h.cell_ hu⟩
theorem new_k (N B : Nat) (x : Int) (j : Nat) : (ChS.new N B).k x j = 0 := by
  unfold ChS.k ChS.new
  rw [List.getD_eq_getElem?_getD, List.getElem?_replicate]
  split <;> rfl
theorem prog_kw (s : ChS) (k N RW l : Nat) (bs : List Nat) : (s.prog k N RW bs).k (l : Int) 1 = s.k (l : Int) 1 := by
  unfold ChS.prog
  rw [inc_ko 1 l (by omega), inc_ko 1 l (by omega)]
  unfold ChS.k
  dsimp only
  rw [tick_K]
theorem prog_kn (s : ChS) (k N RW l : Nat) (bs : List Nat) (h : l ≠ k) : (s.prog k N RW bs).k (l : Int) 0 = s.k (l : Int) 0 := by
  unfold ChS.prog
  rw [inc_ko 0 l (by omega), inc_ko 0 l (by omega)]
  unfold ChS.k
  dsimp only
  rw [tick_K]
theorem prog_X (s : ChS) (k N RW : Nat) (bs : List Nat) : (s.prog k N RW bs).X = putX s.X (N * RW) bs := rfl
theorem prog_first {a b c : Int} {NA NB RW : Nat} {s : ChS} {bs : List Nat} {x : Nat} (hl : Liv s) (hA : (NA : Int) = a) (hB : (NB : Int) = b) (hR : (RW : Int) = c + 16) (hx : x < NA) (h0 : 0 < NB) (hk : s.k (x : Int) 0 = 0) (hb : bs.length = RW) :
    s.progZ a b c [] (x : Int) 0 RW = 0 ∧ s.progS a b c [] (x : Int) 0 bs = s.prog x (x * NB) RW bs := by
  have ht : thereB a b (x : Int) 0 = true := by
    unfold thereB withinB
    simp
    omega
  have hf : failedB a [] s ((x : Int).toNat : Int) = false := by
    unfold failedB
    have : failsB [] ((x : Int).toNat : Int) (s.k ((x : Int).toNat : Int) 2) = false := rfl
    rw [this, Bool.and_false]
  have hw : s.wrong a [] (x : Int).toNat (0 : Int).toNat = 0 := by
    unfold ChS.wrong
    rw [hf, if_neg (by simp), if_neg (by simp only [Int.toNat_natCast, Int.toNat_zero]; rw [hk]; simp)]
  have hlen : decide ((RW : Int) = c + 16) = true := decide_eq_true hR
  have e1 : ((x : Int) * b + 0).toNat = x * NB := by rw [← hB, Int.add_zero, ← Int.natCast_mul, Int.toNat_natCast]
  unfold ChS.progZ ChS.progS
  rw [hl.on, ht, hl.cut, hb, hlen, hw, e1]
  simp
theorem prog_liv {a b c : Int} {NA NB RW : Nat} {s : ChS} {bs : List Nat} {x : Nat} (hl : Liv s) (hA : (NA : Int) = a) (hB : (NB : Int) = b) (hR : (RW : Int) = c + 16) (hx : x < NA) (h0 : 0 < NB) (hk : s.k (x : Int) 0 = 0) (hb : bs.length = RW) (h8 : Bytes8 bs) : Liv (s.prog x (x * NB) RW bs) := by
  rw [← (prog_first hl hA hB hR hx h0 hk hb).2]
  exact hl.prog a b c [] (x : Int) 0 h8
theorem prog_cuts {s : ChS} (hl : Liv s) (k N RW : Nat) (bs : List Nat) : (s.prog k N RW bs).cuts = s.cuts := by
  unfold ChS.prog ChS.inc
  dsimp only
  rw [tick_nc hl.cut]
theorem raw_found {C k p s : Nat} (x y : Nat) (h : LayOk (List.replicate C 0) k p s 1) : fdOf (x, y, rawB (List.replicate C 0) k p s 1) = [⟨(x : Int), (y : Int), (k : Int), (p : Int), (s : Int), 1⟩] := by
  have hv := raw_valid h
  have hl := rawB_len (List.replicate C 0) k p s 1
  rw [List.length_replicate] at hl
  have hd := raw_drop (List.replicate C 0) k p s 1
  rw [List.length_replicate] at hd
  obtain ⟨h1, h2, h3, h4, h5, h6, h7, h8, h9⟩ := h
  have ht : lkT (rawB (List.replicate C 0) k p s 1) = (k, p, s, 1) := by
    unfold lkT
    rw [if_pos hv, show (rawB (List.replicate C 0) k p s 1).length - 16 = C by omega, hd, tail_tK, tail_tP h6, tail_tS h7, tail_tE h8]
  unfold fdOf
  dsimp only
  rw [if_pos hv, ht]
  rfl
theorem lay_ok {C k s : Nat} (h1 : 24 ≤ C) (h2 : C ≤ 64) (h3 : 1 ≤ k) (h4 : k ≤ 2) (h5 : s < 9) : LayOk (List.replicate C 0) k k s 1 :=
  ⟨by rw [List.length_replicate]; exact h1, by rw [List.length_replicate]; exact h2, h3, by omega, fun h => by omega, by omega, by omega, by omega, fun x hx => by have := List.eq_of_mem_replicate hx; omega⟩
theorem vis_two {NA NB RW C la lb : Nat} {X : List Nat} (hRW : RW = C + 16) (hA : 8 ≤ NA) (hB : 4 ≤ NB) (h1 : 24 ≤ C) (h2 : C ≤ 64) (hla : la < 9) (hlb : lb < 9) (hX : X = putX (putX (List.replicate (NA * NB * RW) 255) (3 * NB * RW) (rawB (List.replicate C 0) 1 1 la 1)) (4 * NB * RW) (rawB (List.replicate C 0) 2 2 lb 1)) :
    fdsOf (visF NB RW [] X (NA * NB) 0) = [⟨3, 0, 1, 1, (la : Int), 1⟩, ⟨4, 0, 2, 2, (lb : Int), 1⟩] := by
  have hl1 : (rawB (List.replicate C 0) 1 1 la 1).length = RW := by rw [rawB_len, List.length_replicate]; omega
  have hl2 : (rawB (List.replicate C 0) 2 2 lb 1).length = RW := by rw [rawB_len, List.length_replicate]; omega
  have hN : 5 * NB ≤ NA * NB := Nat.mul_le_mul_right _ (by omega)
  have hlen : ∀ i, i < NA * NB → i * RW + RW ≤ NA * NB * RW := fun i hi => by
    rw [← Nat.succ_mul]
    exact Nat.mul_le_mul_right _ (by omega)
  have f3 := hlen (3 * NB) (by omega)
  have f4 := hlen (4 * NB) (by omega)
  have g1 : (putX (List.replicate (NA * NB * RW) 255) (3 * NB * RW) (rawB (List.replicate C 0) 1 1 la 1)).length = NA * NB * RW := by rw [putX_len (by rw [List.length_replicate, hl1]; omega), List.length_replicate]
  have hap : ∀ i j : Nat, i ≠ j → i * RW + RW ≤ j * RW ∨ j * RW + RW ≤ i * RW := fun i j hij => by
    rcases Nat.lt_or_ge i j with h | h
    · left; rw [← Nat.succ_mul]; exact Nat.mul_le_mul_right _ h
    · right; rw [← Nat.succ_mul]; exact Nat.mul_le_mul_right _ (by omega)
  have hp3 : pg X RW (3 * NB) = (rawB (List.replicate C 0) 1 1 la 1) := by
    rw [hX, pg_far (by rw [g1, hl2]; exact f4) (by rw [hl2]; exact hap _ _ (by omega)), pg_at (by rw [List.length_replicate, hl1]; exact f3) hl1]
  have hp4 : pg X RW (4 * NB) = (rawB (List.replicate C 0) 2 2 lb 1) := by
    rw [hX, pg_at (by rw [g1, hl2]; exact f4) hl2]
  have hbl : ∀ i, i < NA * NB → i ≠ 3 * NB → i ≠ 4 * NB → readSt (pg X RW i) = 0 := fun i hi h3 h4 => by
    rw [hX, pg_far (by rw [g1, hl2]; exact f4) (by rw [hl2]; exact hap _ _ h4), pg_far (by rw [List.length_replicate, hl1]; exact f3) (by rw [hl1]; exact hap _ _ h3), pg_rep (hlen i hi)]
    exact st_blank (by omega) (by omega)
  have d3 : 3 * NB / NB = 3 := Nat.mul_div_cancel _ (by omega)
  have d4 : 4 * NB / NB = 4 := Nat.mul_div_cancel _ (by omega)
  have m3 : 3 * NB % NB = 0 := Nat.mul_mod_left _ _
  have m4 : 4 * NB % NB = 0 := Nat.mul_mod_left _ _
  have one : ∀ i, fdsOf (visF NB RW [] X 1 i) = fdOf (i / NB, i % NB, pg X RW i) := fun i => by
    rw [visF_nil, fds_cons]
    simp [visF, fdsOf]
  have e : NA * NB = 3 * NB + (1 + ((NB - 1) + (1 + (NA * NB - 4 * NB - 1)))) := by omega
  rw [e, visF_add, fds_app, visF_add, fds_app, visF_add, fds_app, visF_add, fds_app, Nat.zero_add, one, show 3 * NB + 1 + (NB - 1) = 4 * NB by omega, one,
    (vis_blank _ _ (fun t h1 h2 => hbl t (by omega) (by omega) (by omega))).1, (vis_blank _ _ (fun t h1 h2 => hbl t (by omega) (by omega) (by omega))).1, (vis_blank _ _ (fun t h1 h2 => hbl t (by omega) (by omega) (by omega))).1, d3, d4, m3, m4, hp3, hp4, raw_found _ _ (lay_ok h1 h2 (by omega) (by omega) hla), raw_found _ _ (lay_ok h1 h2 (by omega) (by omega) hlb)]
  rfl
theorem spread_zero {ws : List Int} {good : List Bool} (h : ∀ z ∈ ws, z = 0) : spreadI ws good = 0 := by
  have hz : ∀ i, ws.getD i 0 = 0 := fun i => by
    rw [List.getD_eq_getElem?_getD]
    by_cases hi : i < ws.length
    · rw [List.getElem?_eq_getElem hi]
      exact h _ (List.getElem_mem hi)
    · rw [List.getElem?_eq_none (by omega)]
      rfl
  unfold spreadI
  split
  · rfl
  · rw [hz, hz]
    rfl
end Go.Proofs.Ytdfojhkpfbnmgaa
namespace Go.Proofs.Ytdfojhkpfbnmgaa
open Go.ChangeShapes Go.WideShapes Go.ChangeAt Go.RowKit
attribute [local go_sem ↓] Go.wp_at_zero Go.wp_at_succ
theorem new0F (a b c d e : Int) (NX NA : Nat) (w : World) (HP : Hid (planMay a b c d e [] = true)) (hNX : (NX : Int) = a * b * (c + 16)) (hNA : (NA : Int) = a) (n1 : 1 ≤ NX) (n2 : NX ≤ 100000) (n3 : NA ≤ 1000) : Calls Try.prog 6 #[.agg #[.int .i64 a, .int .i64 b, .int .i64 c, .int .i64 d, .int .i64 e], .slice none 0 0] w fun e' w' => (∃ m gx gb AF cf, e' = .returned (.pointer (some ⟨m, 0, none⟩)) ∧ ChipW w' m gx gb AF 0 cf a b c d e [] (ChS.new NX NA) ∧ w.heap.size ≤ m ∧ w.heap.size ≤ gx ∧ w.heap.size ≤ gb) ∧ Below w.heap.size w w' :=
  newF_yes a b c d e [] none 0 NX NA w (Or.inl rfl) (Nat.le_refl _) (Nat.zero_le _) (by simp) HP hNX hNA n1 n2 n3
theorem new0F_no (a b c d e : Int) (w : World) (HP : Hid (planMay a b c d e [] = false)) : Calls Try.prog 6 #[.agg #[.int .i64 a, .int .i64 b, .int .i64 c, .int .i64 d, .int .i64 e], .slice none 0 0] w fun e' w' => e' = .returned (.pointer none) ∧ Below w.heap.size w w' :=
  newF_no a b c d e [] none 0 w (Or.inl rfl) (Nat.le_refl _) (Nat.zero_le _) HP
theorem lay_k (C RW k s : Nat) (kI sI : Int) (A : Option Addr) (cc : Nat) (w : World) (h : Sl w w.heap.size A ((List.replicate C 0).map byteV)) (h1 : 24 ≤ C) (h2 : C ≤ 64) (hk1 : 1 ≤ k) (hk2 : k ≤ 2) (hs : s < 9) (hRW : RW = C + 16) (hkI : Hid (kI = (k : Int))) (hsI : Hid (sI = (s : Int))) :
    Calls Try.prog 22 #[.slice A C cc, .agg #[.int .i64 kI, .int .i64 kI, .int .i64 sI, .int .i64 1]] w fun e' w' => (∃ g cA, e' = .returned (.tuple #[.slice (some ⟨g, 0, none⟩) RW cA, .int .i64 0]) ∧ RowT w' g 5 ((rawB (List.replicate C 0) k k s 1).map byteV) ∧ w.heap.size < g ∧ RW ≤ cA ∧ cA ≤ maxLen) ∧ Below w.heap.size w w' := by
  have h9 := rlay_yes (List.replicate C 0) A cc k k s 1 w h (lay_ok h1 h2 hk1 hk2 hs)
  rw [List.length_replicate] at h9
  rw [hkI.out, hsI.out, hRW]
  refine h9.mono ?_
  rintro e' w' ⟨sv, rfl, ho, hb⟩
  obtain ⟨g, cA, rfl, h1, h2, h3, h4⟩ := own_cut ho (by omega)
  exact ⟨⟨g, cA, rfl, h1, h2, h3, h4⟩, hb⟩
theorem prog_w (m gx gb : Nat) (AF : Option Addr) (cf : Nat) (a b c d e : Int) (xI : Int) (bs : List Nat) (gA cA RW : Nat) (n : Int) (w : World) (s : ChS) (hC : ChipW w m gx gb AF 0 cf a b c d e [] s) (hg : Good s n) (hn : n ≤ 900000000) (hR : RowT w gA 5 (bs.map byteV)) (hgn : ¬ chB m gx gb gA) (hcA : RW ≤ cA) (hcA2 : cA ≤ maxLen) (hl : Hid (bs.length = RW)) (S : ChS) (hZ : Hid (s.progZ a b c [] xI 0 RW = 0 ∧ s.progS a b c [] xI 0 bs = S)) :
    Calls Try.prog 23 #[.pointer (some ⟨m, 0, none⟩), .agg #[.int .i64 xI, .int .i64 0], .slice (some ⟨gA, 0, none⟩) RW cA] w fun e' w' => e' = .returned (.int .i64 0) ∧ ChipW w' m gx gb AF 0 cf a b c d e [] S ∧ Tch (chB m gx gb) w w' ∧ Good S (n + 3) := by
  have hG := hg.prog hC xI 0 bs
  have h := prog_allC m gx gb AF 0 cf a b c d e [] xI 0 bs gA cA n w s hC hg.fine hn (fun j u hj => by rw [Nat.zero_add]; exact hR.cell_ hj) hR.lt (by rw [hl.out]; exact hcA) hcA2 hgn
  rw [hl.out, hZ.out.1, hZ.out.2] at h
  rw [hZ.out.2] at hG
  refine h.mono ?_
  rintro e' w' ⟨rfl, h1, h2⟩
  exact ⟨rfl, h1, h2, hG⟩
theorem dup2 (la lb : Nat) : dupB [(la : Int), (lb : Int)] = decide (la = lb) := by
  show (([(lb : Int)].contains (la : Int)) || (([] : List Int).contains (lb : Int) || false)) = _
  by_cases h : la = lb
  · subst h
    simp
  · have h2 : ¬ ((la : Int) = (lb : Int)) := by omega
    simp [h, h2]
structure TwF (a b c d e : Int) (NA NB RW NX C la lb : Nat) (s1 s2 : ChS) (acc : List Vis) (S3 S4 S5 : ChS) (LM : Int) : Prop where
  p1 : Hid ((ChS.new NX NA).progZ a b c [] 3 0 RW = 0 ∧ (ChS.new NX NA).progS a b c [] 3 0 (rawB (List.replicate C 0) 1 1 la 1) = s1)
  p2 : Hid (s1.progZ a b c [] 4 0 RW = 0 ∧ s1.progS a b c [] 4 0 (rawB (List.replicate C 0) 2 2 lb 1) = s2)
  l1 : Hid (((rawB (List.replicate C 0) 1 1 la 1)).length = RW)
  l2 : Hid (((rawB (List.replicate C 0) 2 2 lb 1)).length = RW)
  w : Hid (walkF a b c NB [] (NA * NB) 0 s2 [] = (0, acc, S3))
  n : Hid ((fdsOf acc).length = 2)
  ok : ∀ x ∈ fdsOf acc, i64in x.s
  du : Hid (dupB (seqs (fdsOf acc)) = decide (la = lb))
  sp : Hid (spreadI (wsL S3 NA) (gsL [] a S3 NA) = 0)
  lm : Hid (e + 2 * a + S3.cuts = LM)
  lm0 : 0 ≤ LM
  on : Hid (s2.on = true)
  b8 : Bytes8 s2.X
  a4 : Hid (S3.armC 1 0 = 0 ∧ S3.arm 1 0 0 = S4)
  r5 : Hid (S4.readS a b 0 0 = S5)
  of : Hid (S5.on = false)
theorem TwF.ex {a b d e : Int} {NA NB RW NX C la lb : Nat} (hm : mayB a b (C : Int) d e = true) (hA : (NA : Int) = a) (hB : (NB : Int) = b) (hR : RW = C + 16) (hX : NX = NA * NB * RW) (hla : la < 9) (hlb : lb < 9) : ∃ s1 s2 acc S3 S4 S5 LM, TwF a b (C : Int) d e NA NB RW NX C la lb s1 s2 acc S3 S4 S5 LM := by
  obtain ⟨q1, q2, q3, q4, q5, q6, q7, q8, q9, q10, -⟩ := may_bd hm
  have hRi : (RW : Int) = (C : Int) + 16 := by omega
  have hl1 : ((rawB (List.replicate C 0) 1 1 la 1)).length = RW := by rw [rawB_len, List.length_replicate]; omega
  have hl2 : ((rawB (List.replicate C 0) 2 2 lb 1)).length = RW := by rw [rawB_len, List.length_replicate]; omega
  have h81 : Bytes8 (rawB (List.replicate C 0) 1 1 la 1) := rawB_8 (fun x hx => by have := List.eq_of_mem_replicate hx; omega) (by omega)
  have h82 : Bytes8 (rawB (List.replicate C 0) 2 2 lb 1) := rawB_8 (fun x hx => by have := List.eq_of_mem_replicate hx; omega) (by omega)
  obtain ⟨z1, e1⟩ := prog_first (x := 3) (Liv.new NX NA) hA hB hRi (by omega) (by omega) (new_k NX NA _ 0) hl1
  have L1 := prog_liv (x := 3) (Liv.new NX NA) hA hB hRi (by omega) (by omega) (new_k NX NA _ 0) hl1 h81
  have k1 : ((ChS.new NX NA).prog 3 (3 * NB) RW (rawB (List.replicate C 0) 1 1 la 1)).k ((4 : Nat) : Int) 0 = 0 := by rw [prog_kn _ _ _ _ _ _ (by omega)]; exact new_k NX NA _ 0
  obtain ⟨z2, e2⟩ := prog_first (x := 4) L1 hA hB hRi (by omega) (by omega) k1 hl2
  have L2 := prog_liv (x := 4) L1 hA hB hRi (by omega) (by omega) k1 hl2 h82
  obtain ⟨S3, w1, w2, L3⟩ := walkF_liv (fs := []) hA hB hRi (by omega) (NA * NB) 0 _ [] (by omega) L2
  rw [List.nil_append] at w1
  have hv := vis_two (la := la) (lb := lb) hR (show 8 ≤ NA by omega) (show 4 ≤ NB by omega) (by omega) (by omega) hla hlb (X := (((ChS.new NX NA).prog 3 (3 * NB) RW (rawB (List.replicate C 0) 1 1 la 1)).prog 4 (4 * NB) RW (rawB (List.replicate C 0) 2 2 lb 1)).X) (by rw [prog_X, prog_X, ← hX]; rfl)
  have hk := walkF_kept _ _ _ _ _ _ w1
  have hc3 : S3.cuts = 0 := by rw [hk.c, prog_cuts L1, prog_cuts (Liv.new NX NA)]; rfl
  have hw : ∀ z ∈ wsL S3 NA, z = 0 := fun z hz => by
    rw [ws_kept hk] at hz
    unfold wsL at hz
    obtain ⟨i, _, rfl⟩ := List.mem_map.1 hz
    rw [prog_kw, prog_kw]
    exact new_k NX NA _ 1
  have hao : armOkB 1 0 = true := by decide
  have ho3 := L3.on
  refine ⟨_, _, _, S3, _, _, _, Lib.hid ⟨z1, e1⟩, Lib.hid ⟨z2, e2⟩, Lib.hid hl1, Lib.hid hl2, Lib.hid w1, Lib.hid (by rw [hv]; rfl), ?_, Lib.hid (by rw [hv]; exact dup2 la lb), Lib.hid (spread_zero hw), Lib.hid rfl, by rw [hc3]; omega, Lib.hid L2.on, L2.b8, Lib.hid ⟨by unfold ChS.armC; rw [ho3, hao]; rfl, rfl⟩, Lib.hid rfl, Lib.hid ?_⟩
  · intro x hx
    rw [hv] at hx
    unfold i64in
    simp at hx
    rcases hx with rfl | rfl <;> (dsimp only; omega)
  · unfold ChS.arm
    rw [ho3, hao, Bool.true_and, if_pos rfl]
    unfold ChS.readS
    have ht : thereB a b 0 0 = true := by
      unfold thereB withinB
      simp
      omega
    dsimp only
    rw [ht, if_pos (by rfl), tick_cut (by unfold ChS.cutB; simp)]
theorem why_t (m gx gb : Nat) (Af : Option Addr) (nf cf : Nat) (a b c d e : Int)  (NA NB RW NX C la lb : Nat) (s1 s2 : ChS) (acc : List Vis) (S3 S4 S5 : ChS) (LM : Int) (n0 : Int) (w : World) (hC : ChipW w m gx gb Af nf cf a b c d e [] s2) (h : TwF a b c d e NA NB RW NX C la lb s1 s2 acc S3 S4 S5 LM) (hg : Good s2 n0) (hn0 : n0 ≤ 800000) (hNA : Hid ((NA : Int) = a)) (hNB : Hid ((NB : Int) = b)) (hd : la = lb) :
    Calls Try.prog 21 #[.pointer (some ⟨m, 0, none⟩)] w fun e' w' => e' = .returned (.string { data := #[116, 119, 105, 99, 101] }) ∧ ChipW w' m gx gb Af nf cf a b c d e [] S3 ∧ Tch (chB m gx gb) w w' ∧ Good S3 (n0 + 1000) :=
  why_twice m gx gb Af nf cf a b c d e [] NA NB n0 acc w s2 S3 hC hg (by omega) h.b8 h.on hNA hNB h.w 2 h.n (by omega) h.ok (Lib.hid (by rw [h.du.out]; exact decide_eq_true hd))
theorem why_n (m gx gb : Nat) (Af : Option Addr) (nf cf : Nat) (a b c d e : Int)  (NA NB RW NX C la lb : Nat) (s1 s2 : ChS) (acc : List Vis) (S3 S4 S5 : ChS) (LM : Int) (n0 : Int) (w : World) (hC : ChipW w m gx gb Af nf cf a b c d e [] s2) (h : TwF a b c d e NA NB RW NX C la lb s1 s2 acc S3 S4 S5 LM) (hg : Good s2 n0) (hn0 : n0 ≤ 800000) (hNA : Hid ((NA : Int) = a)) (hNB : Hid ((NB : Int) = b)) (hd : la ≠ lb) :
    Calls Try.prog 21 #[.pointer (some ⟨m, 0, none⟩)] w fun e' w' => e' = .returned (.string { data := #[] }) ∧ ChipW w' m gx gb Af nf cf a b c d e [] S3 ∧ Tch (chB m gx gb) w w' ∧ Good S3 (n0 + 1000) :=
  why_low m gx gb Af nf cf a b c d e [] NA NB n0 acc w s2 S3 hC hg (by omega) h.b8 h.on hNA hNB h.w 2 h.n (by omega) h.ok (Lib.hid (by rw [h.du.out]; exact decide_eq_false hd)) 0 LM h.sp h.lm (by have := h.lm0; omega)
theorem arm_1 (m gx gb : Nat) (Af : Option Addr) (nf cf : Nat) (a b c d e : Int) (fs : List Flt) (n : Int) (w : World) (s S : ChS) (hC : ChipW w m gx gb Af nf cf a b c d e fs s) (hg : Good s n) (hn : n ≤ 900000000) (hZ : Hid (s.armC 1 0 = 0 ∧ s.arm 1 0 0 = S)) : Calls Try.prog 24 #[.pointer (some ⟨m, 0, none⟩), .agg #[.int .i64 1, .int .i64 0, .int .u8 0]] w fun e' w' => e' = .returned (.int .i64 0) ∧ ChipW w' m gx gb Af nf cf a b c d e fs S ∧ Tch (chB m gx gb) w w' ∧ Good S (n + 3) := by
  have hG := hg.arm hn 1 0 0 (by omega)
  have h := arm_all m gx gb Af nf cf a b c d e fs 1 0 0 n w s hC hg.fine hn
  rw [hZ.out.1, hZ.out.2] at h
  rw [hZ.out.2] at hG
  refine h.mono ?_
  rintro e' w' ⟨rfl, h1, h2⟩
  exact ⟨rfl, h1, h2, hG⟩
theorem read_0 (m gx gb : Nat) (Af : Option Addr) (nf cf : Nat) (a b c d e : Int) (fs : List Flt) (n : Int) (w : World) (s S : ChS) (hC : ChipW w m gx gb Af nf cf a b c d e fs s) (hg : Good s n) (hn : n ≤ 900000000) (hZ : Hid (s.readS a b 0 0 = S)) : Calls Try.prog 25 #[.pointer (some ⟨m, 0, none⟩), .agg #[.int .i64 0, .int .i64 0]] w fun e' w' => (∃ v, e' = .returned v) ∧ ChipW w' m gx gb Af nf cf a b c d e fs S ∧ Tch (chB m gx gb) w w' := by
  have h := read_allO m gx gb Af nf cf a b c d e fs 0 0 n w s hC hg.fine hn
  rw [hZ.out] at h
  refine h.mono ?_
  rintro e' w' ⟨⟨A, c', h1, -⟩, h2, h3⟩
  exact ⟨⟨_, h1⟩, h2, h3⟩
theorem twice_walk (a b c d e : Int) (x y : Int) (w : World) (_ : i64in a ∧ i64in b ∧ i64in c ∧ i64in d ∧ i64in e) (_ : i64in x) (_ : i64in y) :
    Calls Try.prog 4 #[.agg #[.int .i64 a, .int .i64 b, .int .i64 c, .int .i64 d, .int .i64 e], .int .i64 x, .int .i64 y] w fun e' w' => e' = .returned (.bool true) ∧ Below w.heap.size w w' := by
  have HB : Below w.heap.size w (w.alloc (.cells #[.int .i64 a, .int .i64 b, .int .i64 c, .int .i64 d, .int .i64 e] 23)) := (Below.refl _ _).alloc (Nat.le_refl _) _
  have G1 : Blk (w.alloc (.cells #[.int .i64 a, .int .i64 b, .int .i64 c, .int .i64 d, .int .i64 e] 23)) w.heap.size 23 #[.int .i64 a, .int .i64 b, .int .i64 c, .int .i64 d, .int .i64 e] := Blk.new_ _ _ _
  obtain ⟨y0, y1, y2, y3, y4⟩ := cells5 G1
  rcases (by cases hq : planMay a b c d e [] <;> simp : planMay a b c d e [] = false ∨ planMay a b c d e [] = true) with hpm | hpm
  · have HP := Lib.hid hpm
    clear hpm
    go_enter Try.func4, Try.ntmps4
    go_wp2_with (first | (go_at_call 6; ((with_reducible refine (new0F_no a b c d e _ HP).mono ?_); rintro e' wN ⟨rfl, hbN⟩; skip)) | (go_at_call 5; ((with_reducible refine (awake23 _).mono ?_); rintro e' wN ⟨rfl, hbZ⟩; skip)))
    go_ret
    have hx := btr HB HB.size hbN
    exact ⟨rfl, btr hx hx.size hbZ⟩
  · skip
    have HP := Lib.hid hpm
    have hm := (planMay_bd hpm).1
    obtain ⟨q1, q2, q3, q4, q5, q6, q7, q8, q9, q10, -⟩ := may_bd hm
    obtain ⟨C, rfl⟩ : ∃ C : Nat, c = (C : Int) := ⟨c.toNat, by omega⟩
    have HM := Lib.hid hm
    obtain ⟨NA, hNA0⟩ : ∃ NA : Nat, (NA : Int) = a := ⟨a.toNat, by omega⟩
    obtain ⟨NB, hNB0⟩ : ∃ NB : Nat, (NB : Int) = b := ⟨b.toNat, by omega⟩
    obtain ⟨RW, hRW⟩ : ∃ RW, RW = C + 16 := ⟨_, rfl⟩
    obtain ⟨NX, hNX0⟩ : ∃ NX, NX = NA * NB * RW := ⟨_, rfl⟩
    have n3 : NA ≤ 20 := by omega
    have n4 : 8 ≤ NA := by omega
    have n5 : NA * NB ≤ 20 * 8 := Nat.mul_le_mul n3 (by omega)
    have n6 : 8 * 4 ≤ NA * NB := Nat.mul_le_mul n4 (by omega)
    have n7 : NA * NB * RW ≤ 160 * 80 := Nat.mul_le_mul (by omega) (by omega)
    have n8 : 32 * 40 ≤ NA * NB * RW := Nat.mul_le_mul (by omega) (by omega)
    have n1 : 1 ≤ NX := by omega
    have n2 : NX ≤ 100000 := by omega
    have hNX : (NX : Int) = a * b * ((C : Int) + 16) := by
      rw [hNX0, hRW, ← hNA0, ← hNB0, Int.natCast_mul, Int.natCast_mul]
      rfl
    obtain ⟨la, hla0⟩ : ∃ la : Nat, lowI x 9 = (la : Int) := ⟨(lowI x 9).toNat, by have := lowI_bd x 9 (by omega); omega⟩
    obtain ⟨lb, hlb0⟩ : ∃ lb : Nat, lowI y 9 = (lb : Int) := ⟨(lowI y 9).toNat, by have := lowI_bd y 9 (by omega); omega⟩
    have hla : la < 9 := by have := lowI_bd x 9 (by omega); omega
    have hlb : lb < 9 := by have := lowI_bd y 9 (by omega); omega
    have HLA := Lib.hid hla0
    have HLB := Lib.hid hlb0
    obtain ⟨s1, s2, acc, S3, S4, S5, LM, hF⟩ := TwF.ex (la := la) (lb := lb) hm hNA0 hNB0 hRW hNX0 hla hlb
    have hNA := Lib.hid hNA0
    have hNB := Lib.hid hNB0
    have HRW := Lib.hid hRW
    clear hRW hNA0 hNB0 hm hpm n5 n6 n7 n8 hla0 hlb0 hNX0
    by_cases hd : la = lb
    · have hd1 : ((la : Int) == (lb : Int)) = true := by rw [hd]; simp
      have HD := Lib.hid hd
      clear hd
      go_enter Try.func4, Try.ntmps4
      go_wp2_with (first
        | (go_at_call 6; ((with_reducible refine (new0F a b (C : Int) d e NX NA _ HP hNX hNA.out (by omega) (by omega) (by omega)).mono ?_); rintro e' wN ⟨⟨m, gx, gb, AF, cf, rfl, hC, hm, hgx, hgb⟩, hb⟩; replace HB := btr HB HB.size hb; replace G1 := G1.below hb G1.lt; (try clear y0 y1 y2 y3 y4); obtain ⟨y0, y1, y2, y3, y4⟩ := cells5 G1; have hlow : ∀ g, chB m gx gb g → w.heap.size < g := (fun g hg => by rcases hg with rfl | rfl | rfl <;> (simp at hm hgx hgb; omega))))
        | (go_at_call 7; ((with_reducible refine (rmay_t a b (C : Int) d e _ HM).mono ?_); rintro e' wN ⟨rfl, hb⟩; replace HB := btr HB HB.size hb; replace G1 := G1.below hb G1.lt; (try clear y0 y1 y2 y3 y4); obtain ⟨y0, y1, y2, y3, y4⟩ := cells5 G1; have hzc := hb.size; replace hC := hC.below hb))
        | (go_at_call 8; ((with_reducible refine (low_v x 9 (la : Int) _ (by omega) (by omega) HLA).mono ?_); rintro e' wN ⟨rfl, rfl⟩; skip))
        | (go_at_call 8; ((with_reducible refine (low_v y 9 (lb : Int) _ (by omega) (by omega) HLB).mono ?_); rintro e' wN ⟨rfl, rfl⟩; skip))
        | (at_make; obtain ⟨ti0, hi, hz0, hz1, hz2⟩ := info_parts infoByte; refine wpList_make_full _ rfl _ _ 46 rfl w.heap.size 5 ti0 (.int .u8 0) 1 Try.underlying46 hi hz0 hz1 _ _ _ _ C rfl rfl rfl rfl (by rw [hz2]; omega) (by unfold maxLen; omega) HB.size ?_; intro wM hown1 hgrow1; clear hi hz0 hz1 hz2; have hb := (Below.refl _ _).grown hgrow1 (Nat.le_refl _) (fun j hj => by cases hj); rw [show (madeCells (Value.int .u8 0).cells (C * 1)).toList = List.replicate (C * 1) (Value.int .u8 0) from toList_madeCells_one _ _, Nat.mul_one] at hown1; have hRM : RowT wM _ 5 ((List.replicate C 0).map byteV) := (by have h9 := RowT.own hown1; simpa [byteV] using h9); replace HB := btr HB HB.size hb; replace G1 := G1.below hb G1.lt; (try clear y0 y1 y2 y3 y4); obtain ⟨y0, y1, y2, y3, y4⟩ := cells5 G1; replace hC := hC.below hb; (try replace hr1 := hr1.below hb); clear hown1 hgrow1)
        | (go_at_call 22; ((with_reducible refine (lay_k C RW 1 la 1 (la : Int) _ C _ (row_sl hRM) (by omega) (by omega) (by omega) (by omega) hla HRW.out (Lib.hid rfl) (Lib.hid rfl)).mono ?_); rintro e' wN ⟨⟨g1, cA1, rfl, hr1, hg1, hc11, hc12⟩, hb⟩; have hlc := hC.lt; replace HB := btr HB HB.size hb; replace G1 := G1.below hb G1.lt; (try clear y0 y1 y2 y3 y4); obtain ⟨y0, y1, y2, y3, y4⟩ := cells5 G1; replace hC := hC.below hb; clear hRM; have hn1 : ¬ chB m gx gb g1 := (fun q9 => by rcases q9 with rfl | rfl | rfl <;> omega)))
        | (go_at_call 22; ((with_reducible refine (lay_k C RW 2 lb 2 (lb : Int) _ C _ (row_sl hRM) (by omega) (by omega) (by omega) (by omega) hlb HRW.out (Lib.hid rfl) (Lib.hid rfl)).mono ?_); rintro e' wN ⟨⟨g2, cA2, rfl, hr2, hg2, hc21, hc22⟩, hb⟩; have hlc := hC.lt; replace HB := btr HB HB.size hb; replace G1 := G1.below hb G1.lt; (try clear y0 y1 y2 y3 y4); obtain ⟨y0, y1, y2, y3, y4⟩ := cells5 G1; replace hC := hC.below hb; replace hr1 := hr1.below hb; clear hRM; have hn2 : ¬ chB m gx gb g2 := (fun q9 => by rcases q9 with rfl | rfl | rfl <;> omega)))
        | (go_at_call 23; ((with_reducible refine (prog_w m gx gb AF cf a b (C : Int) d e 3 _ g1 cA1 RW 20 _ _ hC (good_new NX NA) (by omega) hr1 hn1 hc11 hc12 hF.l1 s1 hF.p1).mono ?_); rintro e' wN ⟨rfl, hC, hT, hg1s⟩; replace HB := HB.trans (hT.below HB.size (fun g hg => Nat.le_of_lt (hlow g hg))); replace hr2 := hr2.keep (hT.far g2 hr2.lt hn2)))
        | (go_at_call 23; ((with_reducible refine (prog_w m gx gb AF cf a b (C : Int) d e 4 _ g2 cA2 RW (20 + 3) _ _ hC hg1s (by omega) hr2 hn2 hc21 hc22 hF.l2 s2 hF.p2).mono ?_); rintro e' wN ⟨rfl, hC, hT, hg2s⟩; replace HB := HB.trans (hT.below HB.size (fun g hg => Nat.le_of_lt (hlow g hg)))))
        | (go_at_call 21; ((with_reducible refine (why_t m gx gb AF 0 cf a b (C : Int) d e NA NB RW NX C la lb s1 s2 acc S3 S4 S5 LM (20 + 3 + 3) _ hC hF hg2s (by omega) hNA hNB HD.out).mono ?_); rintro e' wN ⟨rfl, hC, hT, hg3s⟩; replace HB := HB.trans (hT.below HB.size (fun g hg => Nat.le_of_lt (hlow g hg)))))
        | (go_at_call 24; ((with_reducible refine (arm_1 m gx gb AF 0 cf a b (C : Int) d e [] (20 + 3 + 3 + 1000) _ S3 S4 hC hg3s (by omega) hF.a4).mono ?_); rintro e' wN ⟨rfl, hC, hT, hg4s⟩; replace HB := HB.trans (hT.below HB.size (fun g hg => Nat.le_of_lt (hlow g hg)))))
        | (go_at_call 25; ((with_reducible refine (read_0 m gx gb AF 0 cf a b (C : Int) d e [] (20 + 3 + 3 + 1000 + 3) _ S4 S5 hC hg4s (by omega) hF.r5).mono ?_); rintro e' wN ⟨⟨v9, rfl⟩, hC, hT⟩; replace HB := HB.trans (hT.below HB.size (fun g hg => Nat.le_of_lt (hlow g hg)))))
        | (go_at_call 21; ((with_reducible refine (why_off m gx gb AF 0 cf a b (C : Int) d e [] _ S5 hC hF.of).mono ?_); rintro e' wN ⟨rfl, hb⟩; replace HB := btr HB HB.size hb))
        | (go_at_call 5; ((with_reducible refine (awake23 _).mono ?_); rintro e' wN ⟨rfl, hbZ⟩; skip)))
      go_ret
      exact ⟨rfl, btr HB HB.size hbZ⟩
    · have hd1 : ((la : Int) == (lb : Int)) = false := by simp; omega
      have HD := Lib.hid (show la ≠ lb from hd)
      clear hd
      go_enter Try.func4, Try.ntmps4
      go_wp2_with (first
        | (go_at_call 6; ((with_reducible refine (new0F a b (C : Int) d e NX NA _ HP hNX hNA.out (by omega) (by omega) (by omega)).mono ?_); rintro e' wN ⟨⟨m, gx, gb, AF, cf, rfl, hC, hm, hgx, hgb⟩, hb⟩; replace HB := btr HB HB.size hb; replace G1 := G1.below hb G1.lt; (try clear y0 y1 y2 y3 y4); obtain ⟨y0, y1, y2, y3, y4⟩ := cells5 G1; have hlow : ∀ g, chB m gx gb g → w.heap.size < g := (fun g hg => by rcases hg with rfl | rfl | rfl <;> (simp at hm hgx hgb; omega))))
        | (go_at_call 7; ((with_reducible refine (rmay_t a b (C : Int) d e _ HM).mono ?_); rintro e' wN ⟨rfl, hb⟩; replace HB := btr HB HB.size hb; replace G1 := G1.below hb G1.lt; (try clear y0 y1 y2 y3 y4); obtain ⟨y0, y1, y2, y3, y4⟩ := cells5 G1; have hzc := hb.size; replace hC := hC.below hb))
        | (go_at_call 8; ((with_reducible refine (low_v x 9 (la : Int) _ (by omega) (by omega) HLA).mono ?_); rintro e' wN ⟨rfl, rfl⟩; skip))
        | (go_at_call 8; ((with_reducible refine (low_v y 9 (lb : Int) _ (by omega) (by omega) HLB).mono ?_); rintro e' wN ⟨rfl, rfl⟩; skip))
        | (at_make; obtain ⟨ti0, hi, hz0, hz1, hz2⟩ := info_parts infoByte; refine wpList_make_full _ rfl _ _ 46 rfl w.heap.size 5 ti0 (.int .u8 0) 1 Try.underlying46 hi hz0 hz1 _ _ _ _ C rfl rfl rfl rfl (by rw [hz2]; omega) (by unfold maxLen; omega) HB.size ?_; intro wM hown1 hgrow1; clear hi hz0 hz1 hz2; have hb := (Below.refl _ _).grown hgrow1 (Nat.le_refl _) (fun j hj => by cases hj); rw [show (madeCells (Value.int .u8 0).cells (C * 1)).toList = List.replicate (C * 1) (Value.int .u8 0) from toList_madeCells_one _ _, Nat.mul_one] at hown1; have hRM : RowT wM _ 5 ((List.replicate C 0).map byteV) := (by have h9 := RowT.own hown1; simpa [byteV] using h9); replace HB := btr HB HB.size hb; replace G1 := G1.below hb G1.lt; (try clear y0 y1 y2 y3 y4); obtain ⟨y0, y1, y2, y3, y4⟩ := cells5 G1; replace hC := hC.below hb; (try replace hr1 := hr1.below hb); clear hown1 hgrow1)
        | (go_at_call 22; ((with_reducible refine (lay_k C RW 1 la 1 (la : Int) _ C _ (row_sl hRM) (by omega) (by omega) (by omega) (by omega) hla HRW.out (Lib.hid rfl) (Lib.hid rfl)).mono ?_); rintro e' wN ⟨⟨g1, cA1, rfl, hr1, hg1, hc11, hc12⟩, hb⟩; have hlc := hC.lt; replace HB := btr HB HB.size hb; replace G1 := G1.below hb G1.lt; (try clear y0 y1 y2 y3 y4); obtain ⟨y0, y1, y2, y3, y4⟩ := cells5 G1; replace hC := hC.below hb; clear hRM; have hn1 : ¬ chB m gx gb g1 := (fun q9 => by rcases q9 with rfl | rfl | rfl <;> omega)))
        | (go_at_call 22; ((with_reducible refine (lay_k C RW 2 lb 2 (lb : Int) _ C _ (row_sl hRM) (by omega) (by omega) (by omega) (by omega) hlb HRW.out (Lib.hid rfl) (Lib.hid rfl)).mono ?_); rintro e' wN ⟨⟨g2, cA2, rfl, hr2, hg2, hc21, hc22⟩, hb⟩; have hlc := hC.lt; replace HB := btr HB HB.size hb; replace G1 := G1.below hb G1.lt; (try clear y0 y1 y2 y3 y4); obtain ⟨y0, y1, y2, y3, y4⟩ := cells5 G1; replace hC := hC.below hb; replace hr1 := hr1.below hb; clear hRM; have hn2 : ¬ chB m gx gb g2 := (fun q9 => by rcases q9 with rfl | rfl | rfl <;> omega)))
        | (go_at_call 23; ((with_reducible refine (prog_w m gx gb AF cf a b (C : Int) d e 3 _ g1 cA1 RW 20 _ _ hC (good_new NX NA) (by omega) hr1 hn1 hc11 hc12 hF.l1 s1 hF.p1).mono ?_); rintro e' wN ⟨rfl, hC, hT, hg1s⟩; replace HB := HB.trans (hT.below HB.size (fun g hg => Nat.le_of_lt (hlow g hg))); replace hr2 := hr2.keep (hT.far g2 hr2.lt hn2)))
        | (go_at_call 23; ((with_reducible refine (prog_w m gx gb AF cf a b (C : Int) d e 4 _ g2 cA2 RW (20 + 3) _ _ hC hg1s (by omega) hr2 hn2 hc21 hc22 hF.l2 s2 hF.p2).mono ?_); rintro e' wN ⟨rfl, hC, hT, hg2s⟩; replace HB := HB.trans (hT.below HB.size (fun g hg => Nat.le_of_lt (hlow g hg)))))
        | (go_at_call 21; ((with_reducible refine (why_n m gx gb AF 0 cf a b (C : Int) d e NA NB RW NX C la lb s1 s2 acc S3 S4 S5 LM (20 + 3 + 3) _ hC hF hg2s (by omega) hNA hNB HD.out).mono ?_); rintro e' wN ⟨rfl, hC, hT, hg3s⟩; replace HB := HB.trans (hT.below HB.size (fun g hg => Nat.le_of_lt (hlow g hg)))))
        | (go_at_call 24; ((with_reducible refine (arm_1 m gx gb AF 0 cf a b (C : Int) d e [] (20 + 3 + 3 + 1000) _ S3 S4 hC hg3s (by omega) hF.a4).mono ?_); rintro e' wN ⟨rfl, hC, hT, hg4s⟩; replace HB := HB.trans (hT.below HB.size (fun g hg => Nat.le_of_lt (hlow g hg)))))
        | (go_at_call 25; ((with_reducible refine (read_0 m gx gb AF 0 cf a b (C : Int) d e [] (20 + 3 + 3 + 1000 + 3) _ S4 S5 hC hg4s (by omega) hF.r5).mono ?_); rintro e' wN ⟨⟨v9, rfl⟩, hC, hT⟩; replace HB := HB.trans (hT.below HB.size (fun g hg => Nat.le_of_lt (hlow g hg)))))
        | (go_at_call 21; ((with_reducible refine (why_off m gx gb AF 0 cf a b (C : Int) d e [] _ S5 hC hF.of).mono ?_); rintro e' wN ⟨rfl, hb⟩; replace HB := btr HB HB.size hb))
        | (go_at_call 5; ((with_reducible refine (awake23 _).mono ?_); rintro e' wN ⟨rfl, hbZ⟩; skip)))
      go_ret
      exact ⟨rfl, btr HB HB.size hbZ⟩
end Go.Proofs.Ytdfojhkpfbnmgaa
