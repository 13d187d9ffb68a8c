/- Chapter 11's own extreme, by its contract. -/
import Derived.Test.YtlabkkmpllccoaaSl
import Derived.Test.YtlabkkmpllccoaaWearS
namespace Go.Proofs.Ytlabkkmpllccoaa
open Go.ChangeShapes Go.WideShapes Go.ChangeAt Go.RowKit

set_option maxRecDepth 100000 in
set_option maxHeartbeats 8000000 in
theorem extreme_any (ws : List Int) (good : List Bool) (s : Int) (A1 A2 : Option Addr) (c1 c2 : Nat) (w : World)
    (h1 : Sl w w.heap.size A1 (ws.map (Value.int .i64))) (h2 : Sl w w.heap.size A2 (good.map Value.bool)) (n1 : ws.length ≤ 1000000) (n2 : good.length ≤ 1000000)
    (hw : ∀ z ∈ ws, -4611686018427387904 ≤ s * z ∧ s * z ≤ 4611686018427387904) :
    Calls Try.prog 22 #[.slice A1 ws.length c1, .slice A2 good.length c2, .int .i64 s] w fun e w' =>
      e = .returned (.int .i64 (ext ws good s (mlen ws good))) ∧ Below w.heap.size w w' := by
  have em1 : mlen ws good ≤ ws.length := by unfold mlen; omega
  have em2 : mlen ws good ≤ good.length := by unfold mlen; omega
  have em3 : ws.length ≤ mlen ws good ∨ good.length ≤ mlen ws good := by unfold mlen; omega
  obtain ⟨m, hm⟩ : ∃ m, mlen ws good = m := ⟨_, rfl⟩
  rw [hm] at em1 em2 em3 ⊢
  have HW := Lib.hid hw
  have Em := Lib.hid em3
  clear hm hw em3
  go_enter Try.func22, Try.ntmps22
  go_wp2
  go_loopw [7, 8] (fun a i wr => ∃ k : Nat, k ≤ m ∧ i = .int .i64 k ∧ a = .int .i64 (ext ws good s k) ∧ Below w.heap.size w wr) (fun _ i _ => m - (intOf i).toNat)
  case atStart => exact ⟨0, Nat.zero_le _, rfl, rfl, Below.refl _ _⟩
  case round =>
    obtain ⟨k, hk, rfl, rfl, hBr⟩ := hrel
    by_cases hlt : k < m
    · have hk1 : k < ws.length := by omega
      have hk2 : k < good.length := by omega
      have s1 := (h1.below hBr).at_ (by simpa using (by omega : 0 < ws.length))
      have s2 := (h2.below hBr).at_ (by simpa using (by omega : 0 < good.length))
      obtain ⟨b1, o1, rfl, l1, q1⟩ := s1
      obtain ⟨b2, o2, rfl, l2, q2⟩ := s2
      obtain ⟨g, hg⟩ : ∃ g, good.getD k false = g := ⟨_, rfl⟩
      have cg : wr.cell? ⟨b2, o2 + k, none⟩ = some (.bool g) := q2 k _ (by rw [← hg]; simp [hk2])
      have Q1 := Lib.hid q1
      clear q1 q2
      have i1 : (0 : Int) ≤ (k : Int) := by omega
      have i2 : (k : Int) < (ws.length : Int) := by omega
      have i3 : (k : Int) < (good.length : Int) := by omega
      have Hg := Lib.hid hg
      have eb1 := ext_bd ws good s k
      obtain ⟨e1, he1⟩ : ∃ x, ext ws good s k = x := ⟨_, rfl⟩
      rw [he1] at eb1 ⊢
      have He1 := Lib.hid he1
      clear hg he1
      cases g
      · clear eb1
        have a2 : ext ws good s (k + 1) = e1 := by unfold ext; rw [Hg.out, He1.out]; simp
        have A2 := Lib.hid a2
        clear a2
        go_wp2
        go_quiet (fail)
        go_wp2
        go_roundw
        case rel => exact ⟨k + 1, by omega, by go_num, by rw [A2.out], below_dn hBr _⟩
        case measure => simp [intOf]; omega
      · obtain ⟨zk, hzk⟩ : ∃ z, ws.getD k 0 = z := ⟨_, rfl⟩
        have ck : wr.cell? ⟨b1, o1 + k, none⟩ = some (.int .i64 zk) := Q1.out k _ (by rw [← hzk]; simp [hk1])
        have bk : -4611686018427387904 ≤ s * zk ∧ s * zk ≤ 4611686018427387904 := HW.out zk (by rw [← hzk]; simp [hk1])
        have Hzk := Lib.hid hzk
        clear hzk
        have wk : IntKind.i64.wrap (s * zk) = s * zk := IntWalk.i64_in _ (by omega)
        by_cases hneg : e1 < 0
        · have f1 : e1 = -1 := by omega
          subst f1
          have a2 : ext ws good s (k + 1) = k := by unfold ext; rw [Hg.out, He1.out]; simp
          have A2 := Lib.hid a2
          clear a2 eb1 bk wk hneg
          go_wp2
          go_quiet (fail)
          go_wp2
          go_roundw
          case rel => exact ⟨k + 1, by omega, by go_num, by rw [A2.out], below_dn hBr _⟩
          case measure => simp [intOf]; omega
        · obtain ⟨j1, rfl⟩ : ∃ j : Nat, e1 = (j : Int) := ⟨e1.toNat, by omega⟩
          have hj1 : j1 < ws.length := by omega
          obtain ⟨z1, hz1⟩ : ∃ z, ws.getD j1 0 = z := ⟨_, rfl⟩
          have v1 : wr.cell? ⟨b1, o1 + j1, none⟩ = some (.int .i64 z1) := Q1.out j1 _ (by rw [← hz1]; simp [hj1])
          have b1' : -4611686018427387904 ≤ s * z1 ∧ s * z1 ≤ 4611686018427387904 := HW.out z1 (by rw [← hz1]; simp [hj1])
          have w1 : IntKind.i64.wrap (s * z1) = s * z1 := IntWalk.i64_in _ (by omega)
          have a2 : ext ws good s (k + 1) = if s * zk < s * z1 then (k : Int) else j1 := by
            unfold ext
            rw [Hg.out, He1.out, Hzk.out, Int.toNat_natCast, hz1]
            have h'' : ¬ ((j1 : Int) < 0) := by omega
            by_cases h : s * zk < s * z1
            · simp only [h, or_true, and_self, if_true]
            · simp only [h, h'', or_self, and_false, if_false]
          have m1 : (j1 : Int) < (ws.length : Int) := by omega
          have m3 : (0 : Int) ≤ (j1 : Int) := by omega
          have A2 := Lib.hid a2
          clear a2 hz1 eb1 hneg bk b1'
          by_cases hA : s * zk < s * z1
          · have HA : Hid (ext ws good s (k + 1) = k) := A2.out.trans (if_pos hA)
            have hd : decide (s * zk < s * z1) = true := by simpa using hA
            clear A2 hA
            go_wp2
            go_quiet (fail)
            go_wp2
            go_roundw
            case rel => exact ⟨k + 1, by omega, by go_num, by rw [HA.out], below_dn hBr _⟩
            case measure => simp [intOf]; omega
          · have HA : Hid (ext ws good s (k + 1) = j1) := A2.out.trans (if_neg hA)
            have hd : decide (s * zk < s * z1) = false := by simpa using hA
            clear A2 hA
            go_wp2
            go_quiet (fail)
            go_wp2
            go_roundw
            case rel => exact ⟨k + 1, by omega, by go_num, by rw [HA.out], below_dn hBr _⟩
            case measure => simp [intOf]; omega
    · have hk' : k = m := by omega
      subst hk'
      have hE := Em.out
      rcases hE with hE | hE
      · have t1 : ¬ ((k : Int) < (ws.length : Int)) := by omega
        go_wp2
        go_ret
        exact ⟨rfl, hBr⟩
      · have t1 : ¬ ((k : Int) < (good.length : Int)) := by omega
        go_wp2
        all_goals
          go_ret
          exact ⟨rfl, hBr⟩
end Go.Proofs.Ytlabkkmpllccoaa
