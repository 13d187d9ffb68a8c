/- The laws' own low: a list of numbers, each from 0 to below a bound; a row of the call's own. -/
import Derived.Test.YtlabkkmpllccoaaSl
import Derived.Test.YtlabkkmpllccoaaLow
import Derived.OwnWalk
namespace Go.Proofs.Ytlabkkmpllccoaa
open Go.ChangeShapes Go.WideShapes Go.ChangeAt Go.RowKit

theorem infoInt : (Try.prog.info? 3).map (fun i => (i.zero, i.size, i.bytes)) = some (some (.int .i64 0), 1, 8) := by kernel_rfl

/-- What the laws' low makes of a list. -/
def lowL (n : Int) (ws : List Int) : List Int := ws.map fun z => lowI z n

theorem lowL_snoc (n : Int) (ws : List Int) (k : Nat) (h : k < ws.length) : lowL n (ws.take (k + 1)) = lowL n (ws.take k) ++ [lowI (ws.getD k 0) n] := by
  unfold lowL
  rw [List.take_succ_eq_append_getElem h, List.map_append]
  simp [h]

theorem lowL_bd {n : Int} (hn : 1 ≤ n) {ws : List Int} {z : Int} (hz : z ∈ lowL n ws) : 0 ≤ z ∧ z < n := by
  unfold lowL at hz
  obtain ⟨y, _, rfl⟩ := List.mem_map.1 hz
  exact lowI_bd y n hn

set_option maxRecDepth 100000 in
set_option maxHeartbeats 4000000 in
theorem lowlist_any (m : Int) (hm1 : 1 ≤ m) (hm2 : m ≤ 4611686018427387904) (ws : List Int) (A : Option Addr) (c : Nat) (w : World) (h1 : Sl w w.heap.size A (ws.map (Value.int .i64))) (n1 : ws.length ≤ 1000000) :
    Calls Try.prog 7 #[.slice A ws.length c, .int .i64 m] w fun e w' =>
      ∃ v, e = .returned v ∧ w'.ownsRow w.heap.size 3 1 v ws.length ((lowL m ws).map (Value.int .i64)) ∧ Below w.heap.size w w' := by
  obtain ⟨i0, hi, hz0, hz1, hz2⟩ := info_parts infoInt
  go_enter Try.func7, Try.ntmps7
  go_wp2
  go_loopw [5, 6] (fun v i wr => ∃ k : Nat, k ≤ ws.length ∧ i = .int .i64 k ∧ wr.ownsRow w.heap.size 3 1 v k ((lowL m (ws.take k)).map (Value.int .i64)) ∧ Below w.heap.size w wr) (fun _ i _ => ws.length - (intOf i).toNat)
  case atStart => exact ⟨0, Nat.zero_le _, rfl, World.ownsRow_nil _ _ _ _, Below.refl _ _⟩
  case round =>
    obtain ⟨k, hk, rfl, hown, hBr⟩ := hrel
    by_cases hlt : k < ws.length
    · have s1 := (h1.below hBr).at_ (by simpa using (by omega : 0 < ws.length))
      obtain ⟨b1, o1, rfl, l1, q1⟩ := s1
      obtain ⟨zk, hzk⟩ : ∃ z, ws.getD k 0 = z := ⟨_, rfl⟩
      have ck : wr.cell? ⟨b1, o1 + k, none⟩ = some (.int .i64 zk) := q1 k _ (by rw [← hzk]; simp [hlt])
      have Hzk := Lib.hid hzk
      clear q1 hzk
      have i1 : (0 : Int) ≤ (k : Int) := by omega
      have i2 : (k : Int) < (ws.length : Int) := by omega
      have hsz := hBr.size
      go_wp2_with (first
        | (go_at_call 16; refine (low_any _ _ _ (by omega) (by omega)).mono ?_; rintro e w' ⟨rfl, rfl⟩)
        | (at_builtin; refine wpList_append_own _ rfl _ _ 22 rfl w.heap.size 3 i0 (.int .i64 0) 1 8 Try.underlying22 hi hz0 hz1 hz2 rfl (by decide) _ _ _ rfl (hown.alloc _) ⟨wr.heap.size, 0, none⟩ 1 1 [.int .i64 (lowI zk m)] rfl rfl ?c1 ?c2 ?c3 ?c4 ?c5 ?_))
      case c1 =>
        intro j u hj
        match j, hj with
        | 0, hj => simp at hj; subst hj; simp [Addr.add]
      case c2 => intro u hu; simp at hu; subst hu; rfl
      case c3 => unfold maxLen; omega
      case c4 => omega
      case c5 => simp; omega
      intro v' w1 hown' hgrow _
      have hl := lowL_snoc m ws k hlt
      rw [Hzk.out] at hl
      have hown2 : w1.ownsRow w.heap.size 3 1 v' (k + 1) ((lowL m (ws.take (k + 1))).map (Value.int .i64)) := by
        rw [hl, List.map_append]
        exact hown'
      have hB2 : Below w.heap.size w w1 := (hBr.alloc hsz _).grown hgrow (by simp; omega) (fun j hj => (hown.lt j hj).1)
      clear hl hown' hgrow hown
      go_wp2
      go_roundw
      case rel => exact ⟨k + 1, by omega, by go_num, hown2, hB2⟩
      case measure => simp [intOf]; omega
    · have hk' : k = ws.length := by omega
      subst hk'
      go_wp2
      go_ret
      exact ⟨_, rfl, by rw [List.take_length] at hown; exact hown, hBr⟩

theorem low_list (m : Int) (hm1 : 1 ≤ m) (hm2 : m ≤ 4611686018427387904) (ws : List Int) (A : Option Addr) (c : Nat) (w : World) (h1 : Sl w w.heap.size A (ws.map (Value.int .i64))) (n1 : ws.length ≤ 1000000) :
    Calls Try.prog 7 #[.slice A ws.length c, .int .i64 m] w fun e w' =>
      ∃ (ys : List Int) (A' : Option Addr) (c' : Nat), ys = lowL m ws ∧ e = .returned (.slice A' ys.length c') ∧ ys.length ≤ c' ∧ c' ≤ maxLen ∧ Sl w' w'.heap.size A' (ys.map (Value.int .i64)) ∧ Below w.heap.size w w' := by
  refine (lowlist_any m hm1 hm2 ws A c w h1 n1).mono fun e w' ⟨v, he, hown, hb⟩ => ?_
  have hl : (lowL m ws).length = ws.length := by simp [lowL]
  rcases Joins.ownsRow_forms hown with ⟨rfl, h0⟩ | ⟨g, cap, rfl⟩
  · refine ⟨_, none, 0, rfl, ?_, by omega, by unfold maxLen; omega, ?_, hb⟩
    · rw [hl, h0]
      exact he
    · left
      simp [List.eq_nil_of_length_eq_zero (hl.trans h0)]
  · have hcap : ws.length ≤ cap ∧ cap ≤ maxLen := by
      rcases hown.2 with ⟨hv, _⟩ | ⟨g', cap', cur, hv, _, _, hnc, hmx, _⟩
      · cases hv
      · cases hv; exact ⟨hnc, hmx⟩
    refine ⟨_, some ⟨g, 0, none⟩, cap, rfl, ?_, by rw [hl]; exact hcap.1, hcap.2, Sl.of_own hown, hb⟩
    rw [hl]
    exact he
end Go.Proofs.Ytlabkkmpllccoaa
