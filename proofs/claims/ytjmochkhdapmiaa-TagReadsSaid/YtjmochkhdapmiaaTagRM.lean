/- What is valid is what was laid; bytes as a string. -/
import Derived.Test.YtjmochkhdapmiaaTagRL
import Derived.Laws.BytesString
import Derived.Laws.BytesArg
import Derived.Laws.Cells
import Derived.Laws.Strings
namespace Go.Proofs.Ytjmochkhdapmiaa
open Go.ChangeShapes Go.WideShapes Go.ChangeAt Go.RowKit
attribute [local go_sem ↓] Go.wp_at_zero Go.wp_at_succ
set_option linter.unusedSimpArgs false
set_option linter.unusedVariables false

theorem four {l : List Nat} (h : l.length = 4) : ∃ a b c d, l = [a, b, c, d] := by
  match l, h with
  | [a, b, c, d], _ => exact ⟨a, b, c, d, rfl⟩

/-- What is sound, with a tag that may be, is what Lay lays. -/
theorem sound_raw {bs : List Nat} {n : Nat} (hl : bs.length = n + 16) (h8 : Bytes8 bs) (hs : soundB bs n = true) :
    rawB (bs.take n) (tK (bs.drop n)) (tP (bs.drop n)) (tS (bs.drop n)) (tE (bs.drop n)) = bs := by
  have hbs : bs.take n ++ bs.drop n = bs := List.take_append_drop n bs
  have htl : (bs.drop n).length = 16 := by simp; omega
  have hdl : (bs.take n).length = n := by simp; omega
  have h8t : Bytes8 (bs.drop n) := fun x hx => h8 x (List.mem_of_mem_drop hx)
  unfold soundB at hs
  rw [Bool.and_eq_true, Bool.and_eq_true, beq_iff_eq, beq_iff_eq, beq_iff_eq] at hs
  obtain ⟨s1, s2, s3⟩ := hs
  have g1 : (bs.drop n).getD 0 0 = 74 := by
    rw [← s1]
    simp [List.getD_eq_getElem?_getD]
  have g2 : (bs.drop n).getD 15 0 = 0 := by
    have := s2
    simp only [List.getD_eq_getElem?_getD, List.getElem?_drop] at this ⊢
    exact this
  have p1 := be_num2 (part_len (tl := bs.drop n) (i := 2) (n := 2) (by omega)) (part_8 h8t 2 2)
  have p2 := be_num4 (part_len (tl := bs.drop n) (i := 4) (n := 4) (by omega)) (part_8 h8t 4 4)
  have p3 := be_num3 (part_len (tl := bs.drop n) (i := 8) (n := 3) (by omega)) (part_8 h8t 8 3)
  have p4 := be_num4 (part_len (tl := bs) (i := n + 11) (n := 4) (by omega)) (part_8 h8 (n + 11) 4)
  have e4 : part bs (n + 11) 4 = part (bs.drop n) 11 4 := by
    unfold part
    rw [List.drop_drop]
  have hbody : bodyB (bs.take n) (tK (bs.drop n)) (tP (bs.drop n)) (tS (bs.drop n)) (tE (bs.drop n)) = bs.take (n + 11) := by
    unfold bodyB tP tS tE
    rw [p1.1, p2.1, p3.1]
    have : bs.take (n + 11) = bs.take n ++ (bs.drop n).take 11 := by
      rw [← List.take_append_drop n (bs.take (n + 11)), List.take_take, List.drop_take]
      rw [show min n (n + 11) = n by omega, show n + 11 - n = 11 by omega]
    rw [this]
    obtain ⟨t, ht⟩ : ∃ t, bs.drop n = t := ⟨_, rfl⟩
    rw [ht] at g1 htl ⊢
    match t, htl with
    | [b0, b1, b2, b3, b4, b5, b6, b7, b8, b9, b10, b11, b12, b13, b14, b15], _ =>
      simp at g1
      subst g1
      simp [tK, part]
  unfold rawB
  rw [hbody, ← s3, p4.1, e4]
  have : bs = bs.take (n + 11) ++ (bs.drop n).drop 11 := by rw [List.drop_drop, List.take_append_drop]
  conv => rhs; rw [this]
  rw [List.append_assoc]
  congr 1
  obtain ⟨t, ht⟩ : ∃ t, bs.drop n = t := ⟨_, rfl⟩
  rw [ht] at g2 htl ⊢
  match t, htl with
  | [b0, b1, b2, b3, b4, b5, b6, b7, b8, b9, b10, b11, b12, b13, b14, b15], _ =>
    simp at g2
    subst g2
    simp [part]

theorem lay_of_tag {bs : List Nat} {n : Nat} (hl : bs.length = n + 16) (h1 : 24 ≤ n) (h2 : n ≤ 64) (h8 : Bytes8 bs) (ht : tagB (tK (bs.drop n)) (tP (bs.drop n)) (tS (bs.drop n)) (tE (bs.drop n)) = true) :
    LayOk (bs.take n) (tK (bs.drop n)) (tP (bs.drop n)) (tS (bs.drop n)) (tE (bs.drop n)) := by
  have := tagB_iff.1 ht
  refine ⟨by simp; omega, by simp; omega, by omega, by omega, by omega, by omega, by omega, by omega, fun b hb => h8 b (List.mem_of_mem_take hb)⟩
/-- Either it is what Lay lays, or it is erased, or torn. -/
theorem st_split {bs : List Nat} {n : Nat} (hl : bs.length = n + 16) (h1 : 24 ≤ n) (h2 : n ≤ 64) (h8 : Bytes8 bs) (ht : tagB (tK (bs.drop n)) (tP (bs.drop n)) (tS (bs.drop n)) (tE (bs.drop n)) = true)
    (he : rawB (bs.take n) (tK (bs.drop n)) (tP (bs.drop n)) (tS (bs.drop n)) (tE (bs.drop n)) = bs) : readSt bs = 1 := by
  have := raw_valid (lay_of_tag hl h1 h2 h8 ht)
  rwa [he] at this
theorem st_other {bs : List Nat} {n : Nat} (hl : bs.length = n + 16) (h1 : 24 ≤ n) (h2 : n ≤ 64) (h8 : Bytes8 bs)
    (hno : tagB (tK (bs.drop n)) (tP (bs.drop n)) (tS (bs.drop n)) (tE (bs.drop n)) = false ∨ rawB (bs.take n) (tK (bs.drop n)) (tP (bs.drop n)) (tS (bs.drop n)) (tE (bs.drop n)) ≠ bs) : readSt bs = if blankB bs = true then 0 else 2 := by
  unfold readSt
  rw [if_pos (by omega), show bs.length - 16 = n by omega]
  by_cases hb : blankB bs = true
  · rw [if_pos hb, if_pos hb]
  · rw [if_neg hb, if_neg hb, if_neg]
    rintro ⟨ht, hs⟩
    rcases hno with h | h
    · rw [ht] at h
      cases h
    · exact h (sound_raw hl h8 hs)

def strB (bs : List Nat) : ByteArray := ⟨(bs.map fun n => UInt8.ofNat n).toArray⟩
theorem conv_run (bs : List Nat) (B b o n c : Nat) (w : World) (h : Sl w B (some ⟨b, o, none⟩) (bs.map byteV)) (hn : bs.length = n) :
    (convert 22 9 (.slice (some ⟨b, o, none⟩) n c)).run Try.prog w = .ok (.string (strB bs)) w := by
  rw [run_convert_bytes_string w _ _ 5 _ _ _ Try.underlying22 Try.underlying5 Try.underlying9]
  have hc : ∀ j v, (bs.map byteV)[j]? = some v → w.cell? ((⟨b, o, none⟩ : Addr).add j) = some v := h.cells_ _ rfl
  have hl := run_loadCells_list (P := Try.prog) (w := w) ⟨b, o, none⟩ (bs.map byteV) hc
  rw [List.length_map, hn] at hl
  rw [run_bytesToString w ⟨b, o, none⟩ n c (List.map (fun x : Nat => (x : Int)) bs) (by rw [hl]; congr 2; simp [byteV, Function.comp_def])]
  congr 2
  rw [foldl_push_bytes]
  unfold strB
  simp [Function.comp_def]
theorem strB_eq {a b : List Nat} (ha : Bytes8 a) (hb : Bytes8 b) : ((strB a).toList == (strB b).toList) = decide (a = b) := by
  rw [Bool.eq_iff_iff, beq_iff_eq, decide_eq_true_eq]
  constructor
  · intro h
    have h1 : ∀ l : List Nat, (strB l).toList = l.map fun n => UInt8.ofNat n := fun l => ByteArray.toList_mk _
    rw [h1, h1] at h
    have inj : ∀ (l : List Nat), Bytes8 l → (l.map fun n => UInt8.ofNat n).map UInt8.toNat = l := fun l hl => by
      rw [List.map_map]
      refine (List.map_congr_left fun x hx => ?_).trans (List.map_id l)
      have := hl x hx
      simp
      omega
    rw [← inj a ha, ← inj b hb, h]
  · rintro rfl
    rfl
end Go.Proofs.Ytjmochkhdapmiaa
