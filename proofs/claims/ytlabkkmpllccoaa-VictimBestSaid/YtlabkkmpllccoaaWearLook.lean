/- wear.look, by its contract. -/
import Derived.Test.YtlabkkmpllccoaaSl
import Derived.Test.YtlabkkmpllccoaaWearS
namespace Go.Proofs.Ytlabkkmpllccoaa
open Go.ChangeShapes Go.WideShapes Go.ChangeAt Go.RowKit

set_option maxRecDepth 100000 in
set_option maxHeartbeats 8000000 in
theorem look_le (ws : List Int) (good : List Bool) (A1 A2 : Option Addr) (c1 c2 : Nat) (w : World)
    (h1 : Sl w w.heap.size A1 (ws.map (Value.int .i64))) (h2 : Sl w w.heap.size A2 (good.map Value.bool)) (n1 : ws.length ≤ 1000000) (n2 : good.length ≤ 1000000)
    (hw : ∀ z ∈ ws, -4611686018427387904 ≤ z ∧ z ≤ 4611686018427387904) (hm : ws.length ≤ good.length) :
    Calls Try.prog 21 #[.slice A1 ws.length c1, .slice A2 good.length c2] w fun e w' =>
      e = .returned (.agg #[.int .i64 (cnt good (mlen ws good)), .int .i64 (ext ws good 1 (mlen ws good)), .int .i64 (ext ws good (-1) (mlen ws good))]) ∧ Below w.heap.size w w' := by
  have em : mlen ws good = ws.length := by unfold mlen; omega
  rw [em]
  have Em := Lib.hid em
  have HW := Lib.hid hw
  clear em hw
  go_enter Try.func21, Try.ntmps21
  go_wp2
  go_loopw [13] (fun i wr => ∃ k : Nat, k ≤ ws.length ∧ i = .int .i64 k ∧ Below w.heap.size w wr ∧ Blk wr w.heap.size 35 #[.int .i64 0, .int .i64 0, .int .i64 0] ∧
      Blk wr (w.heap.size + 1) 35 #[.int .i64 (cnt good k), .int .i64 (ext ws good 1 k), .int .i64 (ext ws good (-1) k)]) (fun i _ => ws.length - (intOf i).toNat)
  case atStart =>
    refine ⟨0, Nat.zero_le _, rfl, ((Below.refl _ _).alloc (Nat.le_refl _) _).alloc (by simp) _, (Blk.new_ _ _ _).alloc_ _, ?_⟩
    have := Blk.new_ (w.alloc (.cells #[.int .i64 0, .int .i64 0, .int .i64 0] 35)) 35 #[.int .i64 0, .int .i64 (-1), .int .i64 (-1)]
    simpa [cnt, ext] using this
  case round =>
    obtain ⟨k, hk, rfl, hBr, R0, R1⟩ := hrel
    by_cases hlt : k < ws.length
    · have hk1 : k < ws.length := by omega
      have hk2 : k < good.length := by omega
      have s1 := (h1.below hBr).at_ (by simpa using (by omega : 0 < ws.length))
      have s2 := (h2.below hBr).at_ (by simpa using (by omega : 0 < good.length))
      obtain ⟨b1, o1, rfl, l1, q1⟩ := s1
      obtain ⟨b2, o2, rfl, l2, q2⟩ := s2
      obtain ⟨g, hg⟩ : ∃ g, good.getD k false = g := ⟨_, rfl⟩
      have cg : wr.cell? ⟨b2, o2 + k, none⟩ = some (.bool g) := q2 k _ (by rw [← hg]; simp [hk2])
      have Q1 := Lib.hid q1
      clear q2
      have w0 := R1.cell_ 0
      have w1 := R1.cell_ 1
      have w2 := R1.cell_ 2
      have wf := R1.free
      simp at w0 w1 w2
      have i1 : (0 : Int) ≤ (k : Int) := by omega
      have i2 : (k : Int) < (ws.length : Int) := by omega
      have i3 : (k : Int) < (good.length : Int) := by omega
      have l3 := R1.lt
      have Hg := Lib.hid hg
      have Hne1 : b1 ≠ w.heap.size + 1 := by omega
      have Hne2 : b2 ≠ w.heap.size + 1 := by omega
      have eb1 := ext_bd ws good 1 k
      have eb2 := ext_bd ws good (-1) k
      have en1 := ext_neg ws good 1 k
      have en2 := ext_neg ws good (-1) k
      have ec := cnt_le good k
      obtain ⟨e1, he1⟩ : ∃ x, ext ws good 1 k = x := ⟨_, rfl⟩
      obtain ⟨e2, he2⟩ : ∃ x, ext ws good (-1) k = x := ⟨_, rfl⟩
      obtain ⟨c, hc⟩ : ∃ x, cnt good k = x := ⟨_, rfl⟩
      rw [he1] at w1 eb1 en1 R1
      rw [he2] at w2 eb2 en2 R1
      rw [hc] at w0 en1 en2 ec R1
      have He1 := Lib.hid he1
      have He2 := Lib.hid he2
      have Hc := Lib.hid hc
      clear hg he1 he2 hc
      cases g
      · clear q1
        go_wp2
        go_roundw
        case rel =>
          refine ⟨k + 1, by omega, by go_num, hBr, R0, ?_⟩
          have a1 : cnt good (k + 1) = c := by unfold cnt; rw [Hg.out, Hc.out]; simp
          have a2 : ext ws good 1 (k + 1) = e1 := by unfold ext; rw [Hg.out, He1.out]; simp
          have a3 : ext ws good (-1) (k + 1) = e2 := by unfold ext; rw [Hg.out, He2.out]; simp
          rw [a1, a2, a3]
          exact R1
        case measure => simp [intOf]; omega
      · have kw : ∃ z, ws.getD k 0 = z := ⟨_, rfl⟩
        obtain ⟨zk, hzk⟩ := kw
        have ck : wr.cell? ⟨b1, o1 + k, none⟩ = some (.int .i64 zk) := q1 k _ (by rw [← hzk]; simp [hk1])
        have a1 : cnt good (k + 1) = c + 1 := by unfold cnt; rw [Hg.out, Hc.out]; simp
        have Ha1 := Lib.hid a1
        have Hzk := Lib.hid hzk
        clear hzk a1 q1
        have i4 : (0 : Int) ≤ (c : Int) := by omega
        have i5 : (c : Int) ≤ 1000000 := by omega
        by_cases hneg : e1 < 0
        · have hc0 : c = 0 := en1.1 hneg
          have f1 : e1 = -1 := by omega
          have f2 : e2 = -1 := by omega
          subst f1
          subst f2
          subst hc0
          clear w0 w1 w2
          have w0 := R1.cell_ 0
          have w1 := R1.cell_ 1
          have w2 := R1.cell_ 2
          simp at w0 w1 w2
          go_wp2
          go_quiet (fail)
          go_wp2
          go_quiet (fail)
          go_wp2
          go_roundw
          case rel =>
            have a2 : ext ws good 1 (k + 1) = k := by unfold ext; rw [Hg.out, He1.out]; simp
            have a3 : ext ws good (-1) (k + 1) = k := by unfold ext; rw [Hg.out, He2.out]; simp
            refine ⟨k + 1, by omega, by go_num, ?_, ?_, ?_⟩
            · exact (below_dn ((below_dn (hBr.setCell (p := ⟨w.heap.size + 1, 0, none⟩) (by simp) _) _).setCell (p := ⟨w.heap.size + 1, 1, none⟩) (by simp) _) _).setCell (p := ⟨w.heap.size + 1, 2, none⟩) (by simp) _
            · exact ((((R0.far (p := ⟨w.heap.size + 1, 0, none⟩) (by simp) _).drewN_ _).far (p := ⟨w.heap.size + 1, 1, none⟩) (by simp) _).drewN_ _).far (p := ⟨w.heap.size + 1, 2, none⟩) (by simp) _
            · rw [Ha1.out, a2, a3]
              exact ((((R1.set_ 0 _).drewN_ _).set_ 1 _).drewN_ _).set_ 2 _
          case measure => simp [intOf]; omega
        · obtain ⟨j1, rfl⟩ : ∃ j : Nat, e1 = (j : Int) := ⟨e1.toNat, by omega⟩
          obtain ⟨j2, rfl⟩ : ∃ j : Nat, e2 = (j : Int) := ⟨e2.toNat, by omega⟩
          have hj1 : j1 < ws.length := by omega
          have hj2 : j2 < ws.length := by omega
          obtain ⟨z1, hz1⟩ : ∃ z, ws.getD j1 0 = z := ⟨_, rfl⟩
          obtain ⟨z2, hz2⟩ : ∃ z, ws.getD j2 0 = z := ⟨_, rfl⟩
          have v1 : wr.cell? ⟨b1, o1 + j1, none⟩ = some (.int .i64 z1) := Q1.out j1 _ (by rw [← hz1]; simp [hj1])
          have v2 : wr.cell? ⟨b1, o1 + j2, none⟩ = some (.int .i64 z2) := Q1.out j2 _ (by rw [← hz2]; simp [hj2])
          have a2 : ext ws good 1 (k + 1) = if zk < z1 then (k : Int) else j1 := by
            unfold ext
            rw [Hg.out, He1.out, Hzk.out, Int.toNat_natCast, hz1, Int.one_mul, Int.one_mul]
            by_cases h : zk < z1 <;> simp [h] <;> omega
          have a3 : ext ws good (-1) (k + 1) = if z2 < zk then (k : Int) else j2 := by
            unfold ext
            rw [Hg.out, He2.out, Hzk.out, Int.toNat_natCast, hz2]
            by_cases h : z2 < zk
            · have h' : -1 * zk < -1 * z2 := by omega
              simp only [h, h', or_true, and_self, if_true]
            · have h' : ¬ (-1 * zk < -1 * z2) := by omega
              have h'' : ¬ ((j2 : Int) < 0) := by omega
              simp only [h, h', h'', or_self, and_false, if_false]
          have m1 : (j1 : Int) < (ws.length : Int) := by omega
          have m2 : (j2 : Int) < (ws.length : Int) := by omega
          have m3 : (0 : Int) ≤ (j1 : Int) := by omega
          have m4 : (0 : Int) ≤ (j2 : Int) := by omega
          have heq : j1 = j2 → z1 = z2 := fun h => by rw [← hz1, ← hz2, h]
          have A2 := Lib.hid a2
          have A3 := Lib.hid a3
          clear w0 w1 w2 a2 a3 hz1 hz2 en1 en2 eb1 eb2 hneg
          have w0 := R1.cell_ 0
          have w1 := R1.cell_ 1
          have w2 := R1.cell_ 2
          simp at w0 w1 w2
          by_cases hj : j1 = j2
          · subst hj
            obtain rfl := heq rfl
            clear heq v2
            by_cases hA : zk < z1
            · have hB : ¬ z1 < zk := by omega
              have HA := Lib.hid hA
              have HB := Lib.hid hB
              go_wp2
              go_quiet (fail)
              go_wp2
              go_quiet (fail)
              go_wp2
              go_roundw
              case rel =>
                refine ⟨k + 1, by omega, by go_num, below_dn ((below_dn (hBr.setCell (p := ⟨w.heap.size + 1, 0, none⟩) (by simp) _) _).setCell (p := ⟨w.heap.size + 1, 1, none⟩) (by simp) _) _, (((R0.far (p := ⟨w.heap.size + 1, 0, none⟩) (by simp) _).drewN_ _).far (p := ⟨w.heap.size + 1, 1, none⟩) (by simp) _).drewN_ _, ?_⟩
                rw [Ha1.out, A2.out, A3.out, if_pos HA.out, if_neg (Int.not_lt.2 HB.out)]
                exact (((R1.set_ 0 _).drewN_ _).set_ 1 _).drewN_ _
              case measure => simp [intOf]; omega
            · by_cases hB : z1 < zk
              · have HA := Lib.hid hA
                have HB := Lib.hid hB
                go_wp2
                go_quiet (fail)
                go_wp2
                go_quiet (fail)
                go_wp2
                go_roundw
                case rel =>
                  refine ⟨k + 1, by omega, by go_num, (below_dn (hBr.setCell (p := ⟨w.heap.size + 1, 0, none⟩) (by simp) _) _).setCell (p := ⟨w.heap.size + 1, 2, none⟩) (by simp) _, ((R0.far (p := ⟨w.heap.size + 1, 0, none⟩) (by simp) _).drewN_ _).far (p := ⟨w.heap.size + 1, 2, none⟩) (by simp) _, ?_⟩
                  rw [Ha1.out, A2.out, A3.out, if_neg (Int.not_lt.2 HA.out), if_pos HB.out]
                  exact ((R1.set_ 0 _).drewN_ _).set_ 2 _
                case measure => simp [intOf]; omega
              · skip
                have HA := Lib.hid hA
                have HB := Lib.hid hB
                go_wp2
                go_quiet (fail)
                go_wp2
                go_quiet (fail)
                go_wp2
                go_roundw
                case rel =>
                  refine ⟨k + 1, by omega, by go_num, below_dn (hBr.setCell (p := ⟨w.heap.size + 1, 0, none⟩) (by simp) _) _, (R0.far (p := ⟨w.heap.size + 1, 0, none⟩) (by simp) _).drewN_ _, ?_⟩
                  rw [Ha1.out, A2.out, A3.out, if_neg (Int.not_lt.2 HA.out), if_neg (Int.not_lt.2 HB.out)]
                  exact (R1.set_ 0 _).drewN_ _
                case measure => simp [intOf]; omega
          · clear heq
            by_cases hA : zk < z1 <;> by_cases hB : z2 < zk
            · skip
              have HA := Lib.hid hA
              have HB := Lib.hid hB
              go_wp2
              go_quiet (fail)
              go_wp2
              go_quiet (fail)
              go_wp2
              go_roundw
              case rel =>
                refine ⟨k + 1, by omega, by go_num, (below_dn ((below_dn (hBr.setCell (p := ⟨w.heap.size + 1, 0, none⟩) (by simp) _) _).setCell (p := ⟨w.heap.size + 1, 1, none⟩) (by simp) _) _).setCell (p := ⟨w.heap.size + 1, 2, none⟩) (by simp) _, ((((R0.far (p := ⟨w.heap.size + 1, 0, none⟩) (by simp) _).drewN_ _).far (p := ⟨w.heap.size + 1, 1, none⟩) (by simp) _).drewN_ _).far (p := ⟨w.heap.size + 1, 2, none⟩) (by simp) _, ?_⟩
                rw [Ha1.out, A2.out, A3.out, if_pos HA.out, if_pos HB.out]
                exact ((((R1.set_ 0 _).drewN_ _).set_ 1 _).drewN_ _).set_ 2 _
              case measure => simp [intOf]; omega
            · skip
              have HA := Lib.hid hA
              have HB := Lib.hid hB
              go_wp2
              go_quiet (fail)
              go_wp2
              go_quiet (fail)
              go_wp2
              go_roundw
              case rel =>
                refine ⟨k + 1, by omega, by go_num, below_dn ((below_dn (hBr.setCell (p := ⟨w.heap.size + 1, 0, none⟩) (by simp) _) _).setCell (p := ⟨w.heap.size + 1, 1, none⟩) (by simp) _) _, (((R0.far (p := ⟨w.heap.size + 1, 0, none⟩) (by simp) _).drewN_ _).far (p := ⟨w.heap.size + 1, 1, none⟩) (by simp) _).drewN_ _, ?_⟩
                rw [Ha1.out, A2.out, A3.out, if_pos HA.out, if_neg (Int.not_lt.2 HB.out)]
                exact (((R1.set_ 0 _).drewN_ _).set_ 1 _).drewN_ _
              case measure => simp [intOf]; omega
            · skip
              have HA := Lib.hid hA
              have HB := Lib.hid hB
              go_wp2
              go_quiet (fail)
              go_wp2
              go_quiet (fail)
              go_wp2
              go_roundw
              case rel =>
                refine ⟨k + 1, by omega, by go_num, (below_dn (hBr.setCell (p := ⟨w.heap.size + 1, 0, none⟩) (by simp) _) _).setCell (p := ⟨w.heap.size + 1, 2, none⟩) (by simp) _, ((R0.far (p := ⟨w.heap.size + 1, 0, none⟩) (by simp) _).drewN_ _).far (p := ⟨w.heap.size + 1, 2, none⟩) (by simp) _, ?_⟩
                rw [Ha1.out, A2.out, A3.out, if_neg (Int.not_lt.2 HA.out), if_pos HB.out]
                exact ((R1.set_ 0 _).drewN_ _).set_ 2 _
              case measure => simp [intOf]; omega
            · skip
              have HA := Lib.hid hA
              have HB := Lib.hid hB
              go_wp2
              go_quiet (fail)
              go_wp2
              go_quiet (fail)
              go_wp2
              go_roundw
              case rel =>
                refine ⟨k + 1, by omega, by go_num, below_dn (hBr.setCell (p := ⟨w.heap.size + 1, 0, none⟩) (by simp) _) _, (R0.far (p := ⟨w.heap.size + 1, 0, none⟩) (by simp) _).drewN_ _, ?_⟩
                rw [Ha1.out, A2.out, A3.out, if_neg (Int.not_lt.2 HA.out), if_neg (Int.not_lt.2 HB.out)]
                exact (R1.set_ 0 _).drewN_ _
              case measure => simp [intOf]; omega
    · have hk' : k = ws.length := by omega
      subst hk'
      have w0 := R1.cell_ 0
      have w1 := R1.cell_ 1
      have w2 := R1.cell_ 2
      simp at w0 w1 w2
      have wf := R0.free
      have r0 := R0.cell_ 0
      have r1 := R0.cell_ 1
      have r2 := R0.cell_ 2
      simp at r0 r1 r2
      go_wp2
      refine bodyPost_ret (v := .agg #[.int .i64 (cnt good ws.length), .int .i64 (ext ws good 1 ws.length), .int .i64 (ext ws good (-1) ws.length)]) (by simp [results, Try.results21, go_sem, *]) rfl ⟨rfl, ?_⟩
      exact ((hBr.setCell (by simp) _).setCell (by simp) _).setCell (by simp) _

set_option maxRecDepth 100000 in
set_option maxHeartbeats 8000000 in
theorem look_ge (ws : List Int) (good : List Bool) (A1 A2 : Option Addr) (c1 c2 : Nat) (w : World)
    (h1 : Sl w w.heap.size A1 (ws.map (Value.int .i64))) (h2 : Sl w w.heap.size A2 (good.map Value.bool)) (n1 : ws.length ≤ 1000000) (n2 : good.length ≤ 1000000)
    (hw : ∀ z ∈ ws, -4611686018427387904 ≤ z ∧ z ≤ 4611686018427387904) (hm : good.length < ws.length) :
    Calls Try.prog 21 #[.slice A1 ws.length c1, .slice A2 good.length c2] w fun e w' =>
      e = .returned (.agg #[.int .i64 (cnt good (mlen ws good)), .int .i64 (ext ws good 1 (mlen ws good)), .int .i64 (ext ws good (-1) (mlen ws good))]) ∧ Below w.heap.size w w' := by
  have em : mlen ws good = good.length := by unfold mlen; omega
  rw [em]
  have Em := Lib.hid em
  have HW := Lib.hid hw
  clear em hw
  go_enter Try.func21, Try.ntmps21
  go_wp2
  go_loopw [13] (fun i wr => ∃ k : Nat, k ≤ good.length ∧ i = .int .i64 k ∧ Below w.heap.size w wr ∧ Blk wr w.heap.size 35 #[.int .i64 0, .int .i64 0, .int .i64 0] ∧
      Blk wr (w.heap.size + 1) 35 #[.int .i64 (cnt good k), .int .i64 (ext ws good 1 k), .int .i64 (ext ws good (-1) k)]) (fun i _ => good.length - (intOf i).toNat)
  case atStart =>
    refine ⟨0, Nat.zero_le _, rfl, ((Below.refl _ _).alloc (Nat.le_refl _) _).alloc (by simp) _, (Blk.new_ _ _ _).alloc_ _, ?_⟩
    have := Blk.new_ (w.alloc (.cells #[.int .i64 0, .int .i64 0, .int .i64 0] 35)) 35 #[.int .i64 0, .int .i64 (-1), .int .i64 (-1)]
    simpa [cnt, ext] using this
  case round =>
    obtain ⟨k, hk, rfl, hBr, R0, R1⟩ := hrel
    by_cases hlt : k < good.length
    · have hk1 : k < ws.length := by omega
      have hk2 : k < good.length := by omega
      have s1 := (h1.below hBr).at_ (by simpa using (by omega : 0 < ws.length))
      have s2 := (h2.below hBr).at_ (by simpa using (by omega : 0 < good.length))
      obtain ⟨b1, o1, rfl, l1, q1⟩ := s1
      obtain ⟨b2, o2, rfl, l2, q2⟩ := s2
      obtain ⟨g, hg⟩ : ∃ g, good.getD k false = g := ⟨_, rfl⟩
      have cg : wr.cell? ⟨b2, o2 + k, none⟩ = some (.bool g) := q2 k _ (by rw [← hg]; simp [hk2])
      have Q1 := Lib.hid q1
      clear q2
      have w0 := R1.cell_ 0
      have w1 := R1.cell_ 1
      have w2 := R1.cell_ 2
      have wf := R1.free
      simp at w0 w1 w2
      have i1 : (0 : Int) ≤ (k : Int) := by omega
      have i2 : (k : Int) < (ws.length : Int) := by omega
      have i3 : (k : Int) < (good.length : Int) := by omega
      have l3 := R1.lt
      have Hg := Lib.hid hg
      have Hne1 : b1 ≠ w.heap.size + 1 := by omega
      have Hne2 : b2 ≠ w.heap.size + 1 := by omega
      have eb1 := ext_bd ws good 1 k
      have eb2 := ext_bd ws good (-1) k
      have en1 := ext_neg ws good 1 k
      have en2 := ext_neg ws good (-1) k
      have ec := cnt_le good k
      obtain ⟨e1, he1⟩ : ∃ x, ext ws good 1 k = x := ⟨_, rfl⟩
      obtain ⟨e2, he2⟩ : ∃ x, ext ws good (-1) k = x := ⟨_, rfl⟩
      obtain ⟨c, hc⟩ : ∃ x, cnt good k = x := ⟨_, rfl⟩
      rw [he1] at w1 eb1 en1 R1
      rw [he2] at w2 eb2 en2 R1
      rw [hc] at w0 en1 en2 ec R1
      have He1 := Lib.hid he1
      have He2 := Lib.hid he2
      have Hc := Lib.hid hc
      clear hg he1 he2 hc
      cases g
      · clear q1
        go_wp2
        go_roundw
        case rel =>
          refine ⟨k + 1, by omega, by go_num, hBr, R0, ?_⟩
          have a1 : cnt good (k + 1) = c := by unfold cnt; rw [Hg.out, Hc.out]; simp
          have a2 : ext ws good 1 (k + 1) = e1 := by unfold ext; rw [Hg.out, He1.out]; simp
          have a3 : ext ws good (-1) (k + 1) = e2 := by unfold ext; rw [Hg.out, He2.out]; simp
          rw [a1, a2, a3]
          exact R1
        case measure => simp [intOf]; omega
      · have kw : ∃ z, ws.getD k 0 = z := ⟨_, rfl⟩
        obtain ⟨zk, hzk⟩ := kw
        have ck : wr.cell? ⟨b1, o1 + k, none⟩ = some (.int .i64 zk) := q1 k _ (by rw [← hzk]; simp [hk1])
        have a1 : cnt good (k + 1) = c + 1 := by unfold cnt; rw [Hg.out, Hc.out]; simp
        have Ha1 := Lib.hid a1
        have Hzk := Lib.hid hzk
        clear hzk a1 q1
        have i4 : (0 : Int) ≤ (c : Int) := by omega
        have i5 : (c : Int) ≤ 1000000 := by omega
        by_cases hneg : e1 < 0
        · have hc0 : c = 0 := en1.1 hneg
          have f1 : e1 = -1 := by omega
          have f2 : e2 = -1 := by omega
          subst f1
          subst f2
          subst hc0
          clear w0 w1 w2
          have w0 := R1.cell_ 0
          have w1 := R1.cell_ 1
          have w2 := R1.cell_ 2
          simp at w0 w1 w2
          go_wp2
          go_quiet (fail)
          go_wp2
          go_quiet (fail)
          go_wp2
          go_roundw
          case rel =>
            have a2 : ext ws good 1 (k + 1) = k := by unfold ext; rw [Hg.out, He1.out]; simp
            have a3 : ext ws good (-1) (k + 1) = k := by unfold ext; rw [Hg.out, He2.out]; simp
            refine ⟨k + 1, by omega, by go_num, ?_, ?_, ?_⟩
            · exact (below_dn ((below_dn (hBr.setCell (p := ⟨w.heap.size + 1, 0, none⟩) (by simp) _) _).setCell (p := ⟨w.heap.size + 1, 1, none⟩) (by simp) _) _).setCell (p := ⟨w.heap.size + 1, 2, none⟩) (by simp) _
            · exact ((((R0.far (p := ⟨w.heap.size + 1, 0, none⟩) (by simp) _).drewN_ _).far (p := ⟨w.heap.size + 1, 1, none⟩) (by simp) _).drewN_ _).far (p := ⟨w.heap.size + 1, 2, none⟩) (by simp) _
            · rw [Ha1.out, a2, a3]
              exact ((((R1.set_ 0 _).drewN_ _).set_ 1 _).drewN_ _).set_ 2 _
          case measure => simp [intOf]; omega
        · obtain ⟨j1, rfl⟩ : ∃ j : Nat, e1 = (j : Int) := ⟨e1.toNat, by omega⟩
          obtain ⟨j2, rfl⟩ : ∃ j : Nat, e2 = (j : Int) := ⟨e2.toNat, by omega⟩
          have hj1 : j1 < ws.length := by omega
          have hj2 : j2 < ws.length := by omega
          obtain ⟨z1, hz1⟩ : ∃ z, ws.getD j1 0 = z := ⟨_, rfl⟩
          obtain ⟨z2, hz2⟩ : ∃ z, ws.getD j2 0 = z := ⟨_, rfl⟩
          have v1 : wr.cell? ⟨b1, o1 + j1, none⟩ = some (.int .i64 z1) := Q1.out j1 _ (by rw [← hz1]; simp [hj1])
          have v2 : wr.cell? ⟨b1, o1 + j2, none⟩ = some (.int .i64 z2) := Q1.out j2 _ (by rw [← hz2]; simp [hj2])
          have a2 : ext ws good 1 (k + 1) = if zk < z1 then (k : Int) else j1 := by
            unfold ext
            rw [Hg.out, He1.out, Hzk.out, Int.toNat_natCast, hz1, Int.one_mul, Int.one_mul]
            by_cases h : zk < z1 <;> simp [h] <;> omega
          have a3 : ext ws good (-1) (k + 1) = if z2 < zk then (k : Int) else j2 := by
            unfold ext
            rw [Hg.out, He2.out, Hzk.out, Int.toNat_natCast, hz2]
            by_cases h : z2 < zk
            · have h' : -1 * zk < -1 * z2 := by omega
              simp only [h, h', or_true, and_self, if_true]
            · have h' : ¬ (-1 * zk < -1 * z2) := by omega
              have h'' : ¬ ((j2 : Int) < 0) := by omega
              simp only [h, h', h'', or_self, and_false, if_false]
          have m1 : (j1 : Int) < (ws.length : Int) := by omega
          have m2 : (j2 : Int) < (ws.length : Int) := by omega
          have m3 : (0 : Int) ≤ (j1 : Int) := by omega
          have m4 : (0 : Int) ≤ (j2 : Int) := by omega
          have heq : j1 = j2 → z1 = z2 := fun h => by rw [← hz1, ← hz2, h]
          have A2 := Lib.hid a2
          have A3 := Lib.hid a3
          clear w0 w1 w2 a2 a3 hz1 hz2 en1 en2 eb1 eb2 hneg
          have w0 := R1.cell_ 0
          have w1 := R1.cell_ 1
          have w2 := R1.cell_ 2
          simp at w0 w1 w2
          by_cases hj : j1 = j2
          · subst hj
            obtain rfl := heq rfl
            clear heq v2
            by_cases hA : zk < z1
            · have hB : ¬ z1 < zk := by omega
              have HA := Lib.hid hA
              have HB := Lib.hid hB
              go_wp2
              go_quiet (fail)
              go_wp2
              go_quiet (fail)
              go_wp2
              go_roundw
              case rel =>
                refine ⟨k + 1, by omega, by go_num, below_dn ((below_dn (hBr.setCell (p := ⟨w.heap.size + 1, 0, none⟩) (by simp) _) _).setCell (p := ⟨w.heap.size + 1, 1, none⟩) (by simp) _) _, (((R0.far (p := ⟨w.heap.size + 1, 0, none⟩) (by simp) _).drewN_ _).far (p := ⟨w.heap.size + 1, 1, none⟩) (by simp) _).drewN_ _, ?_⟩
                rw [Ha1.out, A2.out, A3.out, if_pos HA.out, if_neg (Int.not_lt.2 HB.out)]
                exact (((R1.set_ 0 _).drewN_ _).set_ 1 _).drewN_ _
              case measure => simp [intOf]; omega
            · by_cases hB : z1 < zk
              · have HA := Lib.hid hA
                have HB := Lib.hid hB
                go_wp2
                go_quiet (fail)
                go_wp2
                go_quiet (fail)
                go_wp2
                go_roundw
                case rel =>
                  refine ⟨k + 1, by omega, by go_num, (below_dn (hBr.setCell (p := ⟨w.heap.size + 1, 0, none⟩) (by simp) _) _).setCell (p := ⟨w.heap.size + 1, 2, none⟩) (by simp) _, ((R0.far (p := ⟨w.heap.size + 1, 0, none⟩) (by simp) _).drewN_ _).far (p := ⟨w.heap.size + 1, 2, none⟩) (by simp) _, ?_⟩
                  rw [Ha1.out, A2.out, A3.out, if_neg (Int.not_lt.2 HA.out), if_pos HB.out]
                  exact ((R1.set_ 0 _).drewN_ _).set_ 2 _
                case measure => simp [intOf]; omega
              · skip
                have HA := Lib.hid hA
                have HB := Lib.hid hB
                go_wp2
                go_quiet (fail)
                go_wp2
                go_quiet (fail)
                go_wp2
                go_roundw
                case rel =>
                  refine ⟨k + 1, by omega, by go_num, below_dn (hBr.setCell (p := ⟨w.heap.size + 1, 0, none⟩) (by simp) _) _, (R0.far (p := ⟨w.heap.size + 1, 0, none⟩) (by simp) _).drewN_ _, ?_⟩
                  rw [Ha1.out, A2.out, A3.out, if_neg (Int.not_lt.2 HA.out), if_neg (Int.not_lt.2 HB.out)]
                  exact (R1.set_ 0 _).drewN_ _
                case measure => simp [intOf]; omega
          · clear heq
            by_cases hA : zk < z1 <;> by_cases hB : z2 < zk
            · skip
              have HA := Lib.hid hA
              have HB := Lib.hid hB
              go_wp2
              go_quiet (fail)
              go_wp2
              go_quiet (fail)
              go_wp2
              go_roundw
              case rel =>
                refine ⟨k + 1, by omega, by go_num, (below_dn ((below_dn (hBr.setCell (p := ⟨w.heap.size + 1, 0, none⟩) (by simp) _) _).setCell (p := ⟨w.heap.size + 1, 1, none⟩) (by simp) _) _).setCell (p := ⟨w.heap.size + 1, 2, none⟩) (by simp) _, ((((R0.far (p := ⟨w.heap.size + 1, 0, none⟩) (by simp) _).drewN_ _).far (p := ⟨w.heap.size + 1, 1, none⟩) (by simp) _).drewN_ _).far (p := ⟨w.heap.size + 1, 2, none⟩) (by simp) _, ?_⟩
                rw [Ha1.out, A2.out, A3.out, if_pos HA.out, if_pos HB.out]
                exact ((((R1.set_ 0 _).drewN_ _).set_ 1 _).drewN_ _).set_ 2 _
              case measure => simp [intOf]; omega
            · skip
              have HA := Lib.hid hA
              have HB := Lib.hid hB
              go_wp2
              go_quiet (fail)
              go_wp2
              go_quiet (fail)
              go_wp2
              go_roundw
              case rel =>
                refine ⟨k + 1, by omega, by go_num, below_dn ((below_dn (hBr.setCell (p := ⟨w.heap.size + 1, 0, none⟩) (by simp) _) _).setCell (p := ⟨w.heap.size + 1, 1, none⟩) (by simp) _) _, (((R0.far (p := ⟨w.heap.size + 1, 0, none⟩) (by simp) _).drewN_ _).far (p := ⟨w.heap.size + 1, 1, none⟩) (by simp) _).drewN_ _, ?_⟩
                rw [Ha1.out, A2.out, A3.out, if_pos HA.out, if_neg (Int.not_lt.2 HB.out)]
                exact (((R1.set_ 0 _).drewN_ _).set_ 1 _).drewN_ _
              case measure => simp [intOf]; omega
            · skip
              have HA := Lib.hid hA
              have HB := Lib.hid hB
              go_wp2
              go_quiet (fail)
              go_wp2
              go_quiet (fail)
              go_wp2
              go_roundw
              case rel =>
                refine ⟨k + 1, by omega, by go_num, (below_dn (hBr.setCell (p := ⟨w.heap.size + 1, 0, none⟩) (by simp) _) _).setCell (p := ⟨w.heap.size + 1, 2, none⟩) (by simp) _, ((R0.far (p := ⟨w.heap.size + 1, 0, none⟩) (by simp) _).drewN_ _).far (p := ⟨w.heap.size + 1, 2, none⟩) (by simp) _, ?_⟩
                rw [Ha1.out, A2.out, A3.out, if_neg (Int.not_lt.2 HA.out), if_pos HB.out]
                exact ((R1.set_ 0 _).drewN_ _).set_ 2 _
              case measure => simp [intOf]; omega
            · skip
              have HA := Lib.hid hA
              have HB := Lib.hid hB
              go_wp2
              go_quiet (fail)
              go_wp2
              go_quiet (fail)
              go_wp2
              go_roundw
              case rel =>
                refine ⟨k + 1, by omega, by go_num, below_dn (hBr.setCell (p := ⟨w.heap.size + 1, 0, none⟩) (by simp) _) _, (R0.far (p := ⟨w.heap.size + 1, 0, none⟩) (by simp) _).drewN_ _, ?_⟩
                rw [Ha1.out, A2.out, A3.out, if_neg (Int.not_lt.2 HA.out), if_neg (Int.not_lt.2 HB.out)]
                exact (R1.set_ 0 _).drewN_ _
              case measure => simp [intOf]; omega
    · have hk' : k = good.length := by omega
      subst hk'
      have w0 := R1.cell_ 0
      have w1 := R1.cell_ 1
      have w2 := R1.cell_ 2
      simp at w0 w1 w2
      have wf := R0.free
      have r0 := R0.cell_ 0
      have r1 := R0.cell_ 1
      have r2 := R0.cell_ 2
      simp at r0 r1 r2
      go_wp2
      refine bodyPost_ret (v := .agg #[.int .i64 (cnt good good.length), .int .i64 (ext ws good 1 good.length), .int .i64 (ext ws good (-1) good.length)]) (by simp [results, Try.results21, go_sem, *]) rfl ⟨rfl, ?_⟩
      exact ((hBr.setCell (by simp) _).setCell (by simp) _).setCell (by simp) _

theorem look_any (ws : List Int) (good : List Bool) (A1 A2 : Option Addr) (c1 c2 : Nat) (w : World)
    (h1 : Sl w w.heap.size A1 (ws.map (Value.int .i64))) (h2 : Sl w w.heap.size A2 (good.map Value.bool)) (n1 : ws.length ≤ 1000000) (n2 : good.length ≤ 1000000)
    (hw : ∀ z ∈ ws, -4611686018427387904 ≤ z ∧ z ≤ 4611686018427387904) :
    Calls Try.prog 21 #[.slice A1 ws.length c1, .slice A2 good.length c2] w fun e w' =>
      e = .returned (.agg #[.int .i64 (cnt good (mlen ws good)), .int .i64 (ext ws good 1 (mlen ws good)), .int .i64 (ext ws good (-1) (mlen ws good))]) ∧ Below w.heap.size w w' := by
  by_cases h : ws.length ≤ good.length
  · exact look_le ws good A1 A2 c1 c2 w h1 h2 n1 n2 hw h
  · exact look_ge ws good A1 A2 c1 c2 w h1 h2 n1 n2 hw (by omega)
end Go.Proofs.Ytlabkkmpllccoaa
