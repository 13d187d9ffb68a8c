/- Faults that may be: plain facts. -/
import Derived.Test.YtplniojeaodjiaaPlanB
namespace Go.Proofs.Ytplniojeaodjiaa

theorem preB_all {a : Int} {fs : List Flt} : ∀ n, n ≤ fs.length → preB a fs n = true → ∀ f ∈ fs.take n, mayF a f = true
  | 0, _, _, f, hf => by simp at hf
  | n + 1, hn, h, f, hf => by
    unfold preB at h
    simp only [Bool.and_eq_true] at h
    rw [List.take_succ_eq_append_getElem (by omega)] at hf
    rcases List.mem_append.1 hf with h1 | h1
    · exact preB_all n (by omega) h.1 f h1
    · have e : fs.getD n default = fs[n] := by simp [show n < fs.length by omega]
      rw [List.mem_singleton.1 h1, ← e]
      exact h.2.1
theorem planMay_bd {a b c d e : Int} {fs : List Flt} (h : planMay a b c d e fs = true) : mayB a b c d e = true ∧ fs.length ≤ 8 ∧ preB a fs fs.length = true := by
  unfold planMay at h
  simp only [Bool.and_eq_true, decide_eq_true_eq] at h
  exact ⟨h.1, h.2.1, h.2.2⟩
theorem planMay_all {a b c d e : Int} {fs : List Flt} (h : planMay a b c d e fs = true) : ∀ f ∈ fs, mayF a f = true := by
  have := preB_all fs.length (Nat.le_refl _) (planMay_bd h).2.2
  simpa using this
theorem mayF_bd {a : Int} {f : Flt} (h : mayF a f = true) : 0 ≤ f.blk ∧ f.blk < a ∧ 0 ≤ f.aft ∧ f.aft ≤ 1073741824 ∧ (f.fac = true → f.aft = 0) := by
  unfold mayF at h
  simp only [Bool.and_eq_true, Bool.not_eq_true', decide_eq_false_iff_not, Bool.or_eq_true, beq_iff_eq] at h
  refine ⟨by omega, by omega, by omega, by omega, fun hf => ?_⟩
  rcases h.2.2.2.2 with h1 | h1
  · rw [hf] at h1; cases h1
  · exact h1
theorem fails_more {fs : List Flt} {b d m : Int} (hm : 0 ≤ m) (h : failsB fs b d = true) : failsB fs b (d + m) = true := by
  unfold failsB at h ⊢
  obtain ⟨f, hf, hp⟩ := List.any_eq_true.1 h
  refine List.any_eq_true.2 ⟨f, hf, ?_⟩
  simp only [Bool.and_eq_true, decide_eq_true_eq] at hp ⊢
  exact ⟨hp.1, by omega⟩
theorem bad_fails {a b c d e : Int} {fs : List Flt} (h : planMay a b c d e fs = true) {blk : Int} (hb : badB fs blk = true) : failsB fs blk 0 = true := by
  unfold badB at hb
  unfold failsB
  obtain ⟨f, hf, hp⟩ := List.any_eq_true.1 hb
  refine List.any_eq_true.2 ⟨f, hf, ?_⟩
  simp only [Bool.and_eq_true, decide_eq_true_eq] at hp ⊢
  have := (mayF_bd (planMay_all h f hf)).2.2.2.2 hp.2
  exact ⟨hp.1, by omega⟩
theorem names_fails {a b c d e : Int} {fs : List Flt} (h : planMay a b c d e fs = true) {blk : Int} (hb : namesB fs blk = true) : failsB fs blk 1073741824 = true := by
  unfold namesB at hb
  unfold failsB
  obtain ⟨f, hf, hp⟩ := List.any_eq_true.1 hb
  refine List.any_eq_true.2 ⟨f, hf, ?_⟩
  simp only [Bool.and_eq_true, decide_eq_true_eq]
  have := mayF_bd (planMay_all h f hf)
  exact ⟨hp, by omega⟩
theorem names_none {fs : List Flt} {blk : Int} (hb : namesB fs blk = false) (d : Int) : failsB fs blk d = false ∧ badB fs blk = false := by
  unfold namesB at hb
  unfold failsB badB
  rw [List.any_eq_false] at hb
  constructor
  all_goals
    rw [List.any_eq_false]
    intro f hf
    have := hb f hf
    simp only [Bool.not_eq_true] at this
    rw [this]
    simp
end Go.Proofs.Ytplniojeaodjiaa
