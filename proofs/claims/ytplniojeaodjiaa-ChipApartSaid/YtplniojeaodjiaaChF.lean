/- bytes.Clone; Read of a chip. -/
import Derived.Test.YtplniojeaodjiaaChE
namespace Go.Proofs.Ytplniojeaodjiaa
open Go.ChangeShapes Go.WideShapes Go.ChangeAt Go.RowKit
set_option linter.unusedSimpArgs false
set_option linter.unusedVariables false

theorem slB_not_nil (a : Addr) (n c : Nat) (w : World) : (binOp BinOp.eql 48 (.slice (some a) n c) (.slice none 0 0)).run Try.prog w = .ok (.bool false) w := by kernel_rfl
theorem own_emptyB (w : World) (e : TypeId) : (w.alloc (.cells #[] e)).ownsRow w.heap.size e 1 (.slice (some ⟨w.heap.size, 0, none⟩) 0 0) 0 [] :=
  ⟨by simp, Or.inr ⟨w.heap.size, 0, #[], rfl, Nat.le_refl _, heap_alloc_new w _, by omega, by unfold maxLen; omega, by simp, by simp⟩⟩
theorem own_rowT {w : World} {base n : Nat} {t : TypeId} {v : Value} {xs : List Value} (h : w.ownsRow base t 1 v n xs) (hn : 1 ≤ n) : ∃ g c, v = .slice (some ⟨g, 0, none⟩) n c ∧ RowT w g t xs ∧ base ≤ g := by
  obtain ⟨hl, h'⟩ := h
  rcases h' with ⟨_, h0⟩ | ⟨g, cap, cur, rfl, hb, hh, hnc, _, hsz, ht⟩
  · rw [h0] at hl
    simp at hl
    omega
  · refine ⟨g, cap, rfl, ⟨cur.toList.drop (n * 1), ?_⟩, hb⟩
    unfold Blk
    rw [← ht, List.take_append_drop]
    exact hh
theorem bclone_any (g o n c : Nat) (bs : List Nat) (w : World) (hr : Rd w (some ⟨g, o, none⟩) n 1 (bs.map byteV)) (hlt : g < w.heap.size) (hn : 1 ≤ n) (hn2 : n ≤ 100000) :
    Calls Try.prog 57 #[.slice (some ⟨g, o, none⟩) n c] w fun e' w' => (∃ g' c', e' = .returned (.slice (some ⟨g', 0, none⟩) n c') ∧ RowT w' g' 5 (bs.map byteV) ∧ w.heap.size ≤ g') ∧ Below w.heap.size w w' := by
  have HR : Rd (w.alloc (.cells #[] 5)) (some ⟨g, o, none⟩) n 1 (bs.map byteV) := hr.keep (fun b o' e j => by
    cases e
    exact Below.cell (p := ⟨g, j, none⟩) ((Below.refl w.heap.size w).alloc (Nat.le_refl _) (.cells #[] 5)) hlt)
  have hnil := slB_not_nil ⟨g, o, none⟩ n c w
  go_enter Try.func57, Try.ntmps57
  go_upto_region 3 with fail
  refine wp_region_lit ?_
  refine wpList_plain rfl (fun K hK => ?_)
  go_simp
  refine hK _ _ ?_
  clear hK K
  try simp only [Act.put, List.setIfInBounds_toArray, List.set_cons_zero, List.set_cons_succ]
  refine wpList_plain rfl (fun K hK => ?_)
  go_simp
  refine hK _ _ ?_
  clear hK K
  try simp only [Act.put, List.setIfInBounds_toArray, List.set_cons_zero, List.set_cons_succ]
  obtain ⟨ti0, hi, hz0, hz1, hz2⟩ := info_parts infoByte
  refine wpList_app _ rfl (.tmp 5) (.tmp 6) _ rfl w.heap.size 5 ti0 _ 1 1 Try.underlying48 hi hz0 hz1 hz2 rfl (by decide) (.slice (some ⟨w.heap.size, 0, none⟩) 0 0) 0 [] rfl (own_emptyB w _) (some ⟨g, o, none⟩) n c (bs.map byteV) rfl HR (oneB bs) (by unfold maxLen; omega) (by omega) (by simp) ?_
  intro v' w' ho' hg' hv'
  clear hi hz0 hz1 hz2
  rw [Nat.zero_add, List.nil_append] at ho'
  obtain ⟨g', c', rfl, hR', hge⟩ := own_rowT ho' hn
  have HG := Lib.hid hg'
  have HRR := Lib.hid hR'
  clear hg' hR' ho' hv' hnil
  try simp only [Act.put, List.setIfInBounds_toArray, List.set_cons_zero, List.set_cons_succ]
  go_wp2_with fail
  go_ret
  exact ⟨⟨g', c', rfl, HRR.out, hge⟩, ((Below.refl _ _).alloc (Nat.le_refl _) _).grown HG.out (by simp) (fun g' hg'' => by simp [Value.ownBlock] at hg''; omega)⟩
end Go.Proofs.Ytplniojeaodjiaa
