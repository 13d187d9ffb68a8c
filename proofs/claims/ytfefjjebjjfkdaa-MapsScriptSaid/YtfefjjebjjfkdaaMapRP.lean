/- Chapter 13's own map: plain facts. OverInts. -/
import Derived.Test.YtfefjjebjjfkdaaMapT
import Derived.Test.YtfefjjebjjfkdaaGeomR13
namespace Go.Proofs.Ytfefjjebjjfkdaa
open Go.ChangeShapes Go.WideShapes Go.ChangeAt Go.RowKit
set_option linter.unusedSimpArgs false
set_option linter.unusedVariables false

theorem sum_one (g : Nat → Nat) (t : Nat) : ∀ a, t < a → (∀ k, k < a → k ≠ t → g k = 0) → ((List.range a).map g).sum = g t
  | 0, h, _ => absurd h (by omega)
  | a + 1, h, hz => by
    rw [List.range_succ, List.map_append, List.sum_append]
    by_cases ht : t = a
    · subst ht
      have : ∀ k, k ≤ t → ((List.range k).map g).sum = 0 := by
        intro k
        induction k with
        | zero => intro _; rfl
        | succ k ih =>
          intro hk
          rw [List.range_succ, List.map_append, List.sum_append, ih (by omega)]
          simp [hz k (by omega) (by omega)]
      rw [this t (Nat.le_refl _)]
      simp
    · rw [sum_one g t a (by omega) (fun k hk => hz k (by omega))]
      simp [hz a (by omega) (fun h => ht h.symm)]
theorem sum_none (g : Nat → Nat) : ∀ a, (∀ k, k < a → g k = 0) → ((List.range a).map g).sum = 0
  | 0, _ => rfl
  | a + 1, hz => by
    rw [List.range_succ, List.map_append, List.sum_append, sum_none g a (fun k hk => hz k (by omega))]
    simp [hz a (by omega)]
def liveR (b : Int) (A : List Int) (x : Int) (j : Nat) : Nat := (List.range j).countP fun (p : Nat) => decide (0 ≤ A.getD p (-1)) && decide (A.getD p (-1) / b = x)
theorem liveR_succ (b : Int) (A : List Int) (x : Int) (j : Nat) : liveR b A x (j + 1) = liveR b A x j + if (decide (0 ≤ A.getD j (-1)) && decide (A.getD j (-1) / b = x)) then 1 else 0 := by
  simp [liveR, List.range_succ, List.countP_append, List.countP_cons]
theorem liveR_le (b : Int) (A : List Int) (x : Int) (j : Nat) : liveR b A x j ≤ j := by
  have := List.countP_le_length (p := fun p : Nat => decide (0 ≤ A.getD p (-1)) && decide (A.getD p (-1) / b = x)) (l := List.range j)
  simpa [liveR] using this
def inBlk (b x z : Int) : Int := if 0 ≤ z ∧ z / b = x then z else -1
theorem inBlk_mem {b x : Int} {A : List Int} {z : Int} (hz : 0 ≤ z) : z ∈ A.map (inBlk b x) ↔ z ∈ A ∧ z / b = x := by
  rw [List.mem_map]
  constructor
  · rintro ⟨y, hy, he⟩
    unfold inBlk at he
    split at he
    · subst he
      rename_i h
      exact ⟨hy, h.2⟩
    · omega
  · rintro ⟨h1, h2⟩
    exact ⟨z, h1, by unfold inBlk; rw [if_pos ⟨hz, h2⟩]⟩
theorem inBlk_dec (b x z : Int) : (decide (0 ≤ z) && decide (z / b = x)) = true ↔ decide (inBlk b x z ≠ -1) = true := by
  unfold inBlk
  split
  · rename_i h1
    simp [h1.1, h1.2]
    omega
  · rename_i h1
    simp
    intro h2 h3
    exact h1 ⟨h2, h3⟩
theorem liveR_eq {a b : Int} {L N : Nat} {A W : List Int} (h : InvM N A W) (hL : A.length = L) (ha : 0 ≤ a) (hb : 1 ≤ b) (hN : (N : Int) = a * b) (t : Int) : liveR b A t L = liveF a b A t b.toNat := by
  obtain ⟨x, rfl⟩ : ∃ x : Nat, a = (x : Int) := ⟨a.toNat, by omega⟩
  obtain ⟨y, rfl⟩ : ∃ y : Nat, b = (y : Int) := ⟨b.toNat, by omega⟩
  have hN' : N = x * y := by
    have : ((x * y : Nat) : Int) = (N : Int) := by rw [hN]; push_cast; rfl
    omega
  have hy : (0 : Int) < (y : Int) := by omega
  have e1 : liveR (y : Int) A t L = (A.map (inBlk (y : Int) t)).countP (fun z => decide (z ≠ -1)) := by
    have : A = (List.range L).map (fun p => A.getD p (-1)) := by
      apply List.ext_getElem
      · simp [hL]
      · intro i h1 h2
        simp only [List.getElem_map, List.getElem_range]
        rw [getD_at h1]
    conv => rhs; rw [this]
    rw [List.map_map, List.countP_map]
    unfold liveR
    apply List.countP_congr
    intro p _
    exact inBlk_dec _ _ _
  have hdiv : ∀ k i : Nat, i < y → ((k * y + i : Nat) : Int) / (y : Int) = (k : Int) := by
    intro k i hi
    have : (k * y + i) / y = k := by
      rw [Nat.mul_comm, Nat.mul_add_div (by omega), Nat.div_eq_of_lt hi]
      rfl
    have h2 : ((k * y + i : Nat) : Int) / (y : Int) = (((k * y + i) / y : Nat) : Int) := by simp
    rw [h2, this]
  rw [e1, ← count_in N _ ?_ ?_, hN', count_blocks]
  · by_cases ht : 0 ≤ t ∧ t < (x : Int)
    · obtain ⟨k, rfl⟩ : ∃ k : Nat, t = (k : Int) := ⟨t.toNat, by omega⟩
      rw [sum_one _ k x (by omega)]
      · unfold liveF
        rw [Int.toNat_natCast]
        apply List.countP_congr
        intro i hi
        have hi' := List.mem_range.1 hi
        have ht : thereB (x : Int) (y : Int) (k : Int) (i : Int) = true := by
          unfold thereB withinB
          simp
          omega
        have hc : (k : Int) * (y : Int) + (i : Int) = ((k * y + i : Nat) : Int) := by push_cast; rfl
        rw [whoB, ht, hc, whoI_in, decide_eq_true_eq, inBlk_mem (by omega), hdiv k i hi']
        simp
      · intro k' hk' hne
        rw [List.countP_eq_zero]
        intro i hi
        have hi' := List.mem_range.1 hi
        rw [decide_eq_true_eq, inBlk_mem (by omega), hdiv k' i hi']
        rintro ⟨_, he⟩
        omega
    · rw [liveF_out A (by omega), sum_none]
      intro k hk
      rw [List.countP_eq_zero]
      intro i hi
      have hi' := List.mem_range.1 hi
      rw [decide_eq_true_eq, inBlk_mem (by omega), hdiv k i hi']
      rintro ⟨_, he⟩
      omega
  · intro z hz
    obtain ⟨u, hu, rfl⟩ := List.mem_map.1 hz
    obtain ⟨p, hp, rfl⟩ := mem_getD hu
    have := h.rng p hp
    unfold inBlk
    split <;> omega
  · rw [List.pairwise_map, List.pairwise_iff_getElem]
    intro i j hi hj hij he
    unfold inBlk at he ⊢
    split at he
    · rename_i h1
      split at he
      · have := h.inj i j hi hj (by rw [getD_at hi, getD_at hj]; exact he) (by rw [getD_at hi]; exact h1.1)
        omega
      · omega
    · rename_i h1
      rw [if_neg h1]
      omega
set_option maxRecDepth 100000 in
set_option maxHeartbeats 4000000 in
theorem overI_any (A : Option Addr) (n cap : Nat) (xs : List Value) (base : Nat) (w : World) (ho : w.ownsRow base 3 1 (.slice A n cap) n xs) (hb : base ≤ w.heap.size) (hn : n ≤ 100000) :
    Calls Try.prog 23 #[.slice A n cap] w fun e w' => (∃ v, e = .returned v) ∧ Below base w w' := by
  obtain ⟨i0, hi, hz0, hz1, hz2⟩ := info_parts infoInt
  go_enter Try.func23, Try.ntmps23
  go_wp2
  go_loopw [2] (fun i wr => ∃ (k : Nat) (ys : List Value), k ≤ n ∧ i = .int .i64 k ∧ wr.ownsRow base 3 1 (.slice A n cap) n ys ∧ Below base w wr) (fun i _ => n - (intOf i).toNat)
  case atStart => exact ⟨0, xs, Nat.zero_le _, rfl, ho, Below.refl _ _⟩
  case round =>
    obtain ⟨k, ys, hk, rfl, hr, hB⟩ := hrel
    clear ho
    by_cases hlt : k < n
    · have hyl : ys.length = n := by have := hr.1; omega
      obtain ⟨g, cap', hg, -⟩ := hr.form (by omega)
      cases hg
      have c1 : wr.cell? ⟨g, k, none⟩ = some (ys.getD k (.bool false)) := by
        rw [hr.cellAt k (by omega)]
        simp [show k < ys.length by omega]
      have f1 : wr.frozen? ⟨g, k, none⟩ = false := hr.frozenAt k
      have i0' : (0 : Int) ≤ (k : Int) := by omega
      have i1 : (k : Int) < (n : Int) := by omega
      have hst := hr.stored k (.int .i64 (-999))
      have hgl := (hr.lt g rfl).1
      clear hyl
      go_wp2
      go_roundw
      case rel => exact ⟨k + 1, ys.set k (.int .i64 (-999)), by omega, by go_num, hst.1, hB.setCell hgl _⟩
      case measure => simp [intOf]; omega
    · go_wp2_with (at_builtin; refine wpList_app _ rfl (.tmp 12) (.tmp 13) _ rfl base 3 i0 _ 1 8 Try.underlying41 hi hz0 hz1 hz2 rfl (by decide) _ _ _ rfl (hr.alloc _) _ 1 _ [.int .i64 (-999)] rfl (Rd.one (by simp)) (by simp [Value.oneCell']) (by unfold maxLen; omega) (by omega) (by simp; have := hB.size; omega) ?_; intro s2 w2 ho2 hg2 hv2)
      have HF : Below base w w2 := (hB.alloc (by have := hB.size; omega) _).trans (below_app (Nat.le_refl _) (by simp; have := hB.size; omega) (hr.alloc _) hg2)
      exact bodyPost_end (v := .tuple #[]) (by simp [results, Try.results23, go_sem]) rfl ⟨⟨_, rfl⟩, HF⟩
end Go.Proofs.Ytfefjjebjjfkdaa
