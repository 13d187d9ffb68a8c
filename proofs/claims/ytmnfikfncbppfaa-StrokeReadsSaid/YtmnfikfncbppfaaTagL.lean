/- Raw pages, plainly: what was laid reads as it was laid; one byte another one, and it is torn. And what Read answers, in one form. -/
import Derived.Test.YtmnfikfncbppfaaTagE
import Derived.Test.YtmnfikfncbppfaaApp
import Derived.Test.YtmnfikfncbppfaaLendB
import Derived.Test.YtmnfikfncbppfaaSl2
import Derived.Deep.RegionHeld3
import Derived.Deep.DrawnRows
import Derived.Deep.DeepCutAuto
namespace Go.Proofs.Ytmnfikfncbppfaa
open Go.ChangeShapes Go.WideShapes Go.ChangeAt Go.RowKit
attribute [local go_sem ↓] Go.wp_at_zero Go.wp_at_succ
set_option linter.unusedSimpArgs false
set_option linter.unusedVariables false

theorem getD_eq {l : List Nat} {i : Nat} (h : i < l.length) : l.getD i 0 = l[i] := by simp [h]

/-- Sixteen bytes behind the data. -/
def tailB (k p s e C : Nat) : List Nat := [74, k, p / 256 % 256, p % 256, s / 16777216 % 256, s / 65536 % 256, s / 256 % 256, s % 256, e / 65536 % 256, e / 256 % 256, e % 256, C / 16777216 % 256, C / 65536 % 256, C / 256 % 256, C % 256, 0]
theorem raw_tail (d : List Nat) (k p s e : Nat) : rawB d k p s e = d ++ tailB k p s e (crcMore 0 (bodyB d k p s e)) := by
  unfold rawB
  obtain ⟨C, hC⟩ : ∃ C, crcMore 0 (bodyB d k p s e) = C := ⟨_, rfl⟩
  rw [hC]
  simp [bodyB, tailB, beB_2, beB_3, beB_4]
theorem raw_body (d : List Nat) (k p s e : Nat) : (rawB d k p s e).take (d.length + 11) = bodyB d k p s e := by
  unfold rawB
  rw [List.append_assoc, List.take_append_of_le_length (by rw [bodyB_len]; exact Nat.le_refl _), List.take_of_length_le (by rw [bodyB_len]; exact Nat.le_refl _)]
theorem raw_sum (d : List Nat) (k p s e : Nat) : part (rawB d k p s e) (d.length + 11) 4 = beB (crcMore 0 (bodyB d k p s e)) 4 := by
  unfold rawB part
  rw [List.append_assoc, List.drop_append_of_le_length (by rw [bodyB_len]; exact Nat.le_refl _), List.drop_of_length_le (by rw [bodyB_len]; exact Nat.le_refl _), List.nil_append, List.take_append_of_le_length (by rw [beB_len]; exact Nat.le_refl _), List.take_of_length_le (by rw [beB_len]; exact Nat.le_refl _)]
theorem raw_data (d : List Nat) (k p s e : Nat) : (rawB d k p s e).take d.length = d := by rw [raw_tail, List.take_left]
theorem raw_drop (d : List Nat) (k p s e : Nat) : (rawB d k p s e).drop d.length = tailB k p s e (crcMore 0 (bodyB d k p s e)) := by rw [raw_tail, List.drop_left]
theorem raw_mark (d : List Nat) (k p s e : Nat) : (rawB d k p s e).getD d.length 0 = 74 := by rw [raw_tail]; simp [tailB]
theorem raw_kind (d : List Nat) (k p s e : Nat) : (rawB d k p s e).getD (d.length + 1) 0 = k := by rw [raw_tail]; simp [tailB]
theorem raw_last (d : List Nat) (k p s e : Nat) : (rawB d k p s e).getD (d.length + 15) 0 = 0 := by rw [raw_tail]; simp [tailB]
theorem tail_tK (k p s e C : Nat) : tK (tailB k p s e C) = k := rfl
theorem tail_tP {k p s e C : Nat} (h : p < 65536) : tP (tailB k p s e C) = p := by simp [tP, part, tailB, numB]; omega
theorem tail_tS {k p s e C : Nat} (h : s < 4294967296) : tS (tailB k p s e C) = s := by simp [tS, part, tailB, numB]; omega
theorem tail_tE {k p s e C : Nat} (h : e < 16777216) : tE (tailB k p s e C) = e := by simp [tE, part, tailB, numB]; omega

theorem not_blank {l : List Nat} {i : Nat} (hi : i < l.length) (h : l.getD i 0 ≠ 255) : blankB l = false := by
  unfold blankB
  rw [List.all_eq_false]
  refine ⟨l[i], List.getElem_mem hi, ?_⟩
  rw [getD_eq hi] at h
  simpa using h

/-- It may be laid. -/
def LayOk (d : List Nat) (k p s e : Nat) : Prop := 24 ≤ d.length ∧ d.length ≤ 64 ∧ 1 ≤ k ∧ k ≤ 3 ∧ (k = 3 → p = 0) ∧ p < 65536 ∧ s < 4294967296 ∧ e < 16777216 ∧ Bytes8 d

theorem raw_valid {d : List Nat} {k p s e : Nat} (h : LayOk d k p s e) : readSt (rawB d k p s e) = 1 := by
  obtain ⟨h1, h2, h3, h4, h5, h6, h7, h8, h9⟩ := h
  have hl := rawB_len d k p s e
  have hn : (rawB d k p s e).length - 16 = d.length := by omega
  unfold readSt
  rw [if_pos (by omega), hn, not_blank (i := d.length) (by omega) (by rw [raw_mark]; omega), if_neg (by simp), raw_drop, tail_tK, tail_tP h6, tail_tS h7, tail_tE h8]
  rw [if_pos]
  refine ⟨tagB_iff.2 (by omega), ?_⟩
  unfold soundB
  rw [raw_mark, raw_last, raw_sum, raw_body, num_be4 (crcMore_lt (by omega))]
  simp

theorem sum_ne {l : List Nat} {n C : Nat} (hC : numB (part l (n + 11) 4) ≠ crcMore 0 (l.take (n + 11))) : soundB l n = false := by
  unfold soundB
  rw [show (numB (part l (n + 11) 4) == crcMore 0 (l.take (n + 11))) = false from by simpa using hC]
  simp
theorem st_unsound {l : List Nat} {n : Nat} (hl : l.length = n + 16) (hs : soundB l n = false) (hb : blankB l = false) : readSt l = 2 := by
  unfold readSt
  rw [show l.length - 16 = n by omega, hb, hs]
  simp
theorem st_not1 {l : List Nat} {n : Nat} (hl : l.length = n + 16) (hs : soundB l n = false) : readSt l ≠ 1 := by
  unfold readSt
  rw [show l.length - 16 = n by omega, hs]
  simp only [Bool.false_eq_true, and_false, if_false]
  split
  · split <;> omega
  · omega
theorem numB_inj {a b : List Nat} (ha : a.length = 4) (hb : b.length = 4) (h8 : Bytes8 a) (h9 : Bytes8 b) (h : numB a = numB b) : a = b := by
  rw [← (be_num4 ha h8).1, ← (be_num4 hb h9).1, h]

/-- One byte another one: it is torn. -/
theorem raw_turned {d : List Nat} {k p s e : Nat} (h : LayOk d k p s e) {i v : Nat} (hi : i < d.length + 16) (hv : v < 256) (hne : (rawB d k p s e).getD i 0 ≠ v) : readSt ((rawB d k p s e).set i v) = 2 := by
  obtain ⟨h1, h2, h3, h4, h5, h6, h7, h8', h9⟩ := h
  have hl := rawB_len d k p s e
  have h8 : Bytes8 (rawB d k p s e) := rawB_8 h9 (by omega)
  have hb8 : Bytes8 (bodyB d k p s e) := bodyB_8 h9 (by omega)
  have hbl := bodyB_len d k p s e
  have hsum := raw_sum d k p s e
  have hbody := raw_body d k p s e
  have hmark := raw_mark d k p s e
  have hlast := raw_last d k p s e
  have hCl : crcMore 0 (bodyB d k p s e) < 4294967296 := crcMore_lt (by omega)
  have hg : ∀ j, j ≠ i → ((rawB d k p s e).set i v).getD j 0 = (rawB d k p s e).getD j 0 := fun j hj => by
    simp only [List.getD_eq_getElem?_getD, List.getElem?_set]
    rw [if_neg (by omega)]
  have hnb : blankB ((rawB d k p s e).set i v) = false := by
    by_cases h15 : i = d.length + 15
    · exact not_blank (i := d.length) (by simp; omega) (by rw [hg _ (by omega), hmark]; omega)
    · exact not_blank (i := d.length + 15) (by simp; omega) (by rw [hg _ (by omega), hlast]; omega)
  refine st_unsound (n := d.length) (by rw [List.length_set]; omega) ?_ hnb
  by_cases hc1 : i < d.length + 11
  · refine sum_ne (C := 0) ?_
    have e1 : part ((rawB d k p s e).set i v) (d.length + 11) 4 = part (rawB d k p s e) (d.length + 11) 4 := by
      unfold part
      rw [List.drop_set_of_lt hc1]
    rw [e1, hsum, num_be4 hCl, List.take_set, hbody]
    refine fun he => bit_one (bodyB d k p s e) hb8 i v (by omega) hv ?_ he.symm
    intro hx
    apply hne
    rw [getD_eq (by omega)]
    rw [← hx]
    have : (rawB d k p s e)[i]? = (bodyB d k p s e)[i]? := by rw [← hbody, List.getElem?_take, if_pos hc1]
    rw [List.getElem?_eq_getElem (by omega), List.getElem?_eq_getElem (by omega)] at this
    exact Option.some.inj this
  · by_cases hc2 : i < d.length + 15
    · refine sum_ne (C := 0) ?_
      have e3 : ((rawB d k p s e).set i v).take (d.length + 11) = bodyB d k p s e := by
        rw [List.take_set, hbody]
        exact List.set_eq_of_length_le (by omega)
      have e2 : part ((rawB d k p s e).set i v) (d.length + 11) 4 = (beB (crcMore 0 (bodyB d k p s e)) 4).set (i - (d.length + 11)) v := by
        rw [← hsum]
        unfold part
        rw [List.drop_set, if_neg (by omega), List.take_set]
      rw [e2, e3]
      intro he
      have hbb := beB_8 (crcMore 0 (bodyB d k p s e)) 4
      have hll := beB_len (crcMore 0 (bodyB d k p s e)) 4
      have hset8 : Bytes8 ((beB (crcMore 0 (bodyB d k p s e)) 4).set (i - (d.length + 11)) v) := fun b hb => by
        rcases List.mem_or_eq_of_mem_set hb with h | h
        · exact hbb b h
        · omega
      have := numB_inj (a := (beB (crcMore 0 (bodyB d k p s e)) 4).set (i - (d.length + 11)) v) (b := beB (crcMore 0 (bodyB d k p s e)) 4) (by simp [hll]) hll hset8 hbb (by rw [he, num_be4 hCl])
      apply hne
      have hi4 : i - (d.length + 11) < 4 := by omega
      have hx := congrArg (fun l => l.getD (i - (d.length + 11)) 0) this
      simp only [List.getD_eq_getElem?_getD, List.getElem?_set, hll, hi4, if_true, Option.getD_some] at hx
      have hy : (rawB d k p s e).getD i 0 = (part (rawB d k p s e) (d.length + 11) 4).getD (i - (d.length + 11)) 0 := by
        unfold part
        simp only [List.getD_eq_getElem?_getD, List.getElem?_take, hi4, if_true, List.getElem?_drop]
        rw [show d.length + 11 + (i - (d.length + 11)) = i by omega]
      rw [hy, hsum]
      simp only [List.getD_eq_getElem?_getD]
      exact hx.symm
    · have hi15 : i = d.length + 15 := by omega
      subst hi15
      unfold soundB
      have : ((rawB d k p s e).set (d.length + 15) v).getD (d.length + 15) 0 = v := by
        simp only [List.getD_eq_getElem?_getD, List.getElem?_set, hl]
        simp
      rw [this]
      rw [hlast] at hne
      have : (v == 0) = false := by simp; omega
      rw [this]
      simp

end Go.Proofs.Ytmnfikfncbppfaa
