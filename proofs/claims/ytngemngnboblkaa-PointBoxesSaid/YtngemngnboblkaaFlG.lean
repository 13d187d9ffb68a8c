/- Least and greatest parts of points; own rows of points. -/
import Derived.Test.YtngemngnboblkaaPointRing
import Derived.Test.YtngemngnboblkaaApp
import Derived.Test.YtngemngnboblkaaTch
namespace Go.Proofs.Ytngemngnboblkaa
open Go.ChangeShapes Go.WideShapes Go.ChangeAt Go.RowKit
set_option linter.unusedSimpArgs false
set_option linter.unusedVariables false

def IsLo (f : Int × Int → Int) (ps : List (Int × Int)) (v : Int) : Prop := (∀ p ∈ ps, v ≤ f p) ∧ ∃ p ∈ ps, f p = v
def IsHi (f : Int × Int → Int) (ps : List (Int × Int)) (v : Int) : Prop := (∀ p ∈ ps, f p ≤ v) ∧ ∃ p ∈ ps, f p = v
theorem IsLo.uniq {f : Int × Int → Int} {ps : List (Int × Int)} {u v : Int} (h : IsLo f ps u) (k : IsLo f ps v) : u = v := by
  obtain ⟨h1, p, hp, rfl⟩ := h
  obtain ⟨k1, q, hq, rfl⟩ := k
  have := h1 q hq
  have := k1 p hp
  omega
theorem IsHi.uniq {f : Int × Int → Int} {ps : List (Int × Int)} {u v : Int} (h : IsHi f ps u) (k : IsHi f ps v) : u = v := by
  obtain ⟨h1, p, hp, rfl⟩ := h
  obtain ⟨k1, q, hq, rfl⟩ := k
  have := h1 q hq
  have := k1 p hp
  omega
theorem lo_snoc {f : Int × Int → Int} {ps : List (Int × Int)} {v : Int} {p : Int × Int} (h : IsLo f ps v) : IsLo f (ps ++ [p]) (min v (f p)) := by
  obtain ⟨h1, q, hq, rfl⟩ := h
  refine ⟨fun r hr => ?_, ?_⟩
  · rcases List.mem_append.1 hr with hr | hr
    · have := h1 r hr
      omega
    · obtain rfl : r = p := by simpa using hr
      omega
  · by_cases hl : f q ≤ f p
    · exact ⟨q, by simp [hq], by omega⟩
    · exact ⟨p, by simp, by omega⟩
theorem hi_snoc {f : Int × Int → Int} {ps : List (Int × Int)} {v : Int} {p : Int × Int} (h : IsHi f ps v) : IsHi f (ps ++ [p]) (max v (f p)) := by
  obtain ⟨h1, q, hq, rfl⟩ := h
  refine ⟨fun r hr => ?_, ?_⟩
  · rcases List.mem_append.1 hr with hr | hr
    · have := h1 r hr
      omega
    · obtain rfl : r = p := by simpa using hr
      omega
  · by_cases hl : f p ≤ f q
    · exact ⟨q, by simp [hq], by omega⟩
    · exact ⟨p, by simp, by omega⟩
structure IsBox (ps : List (Int × Int)) (lo hi : Int × Int) : Prop where
  l1 : IsLo Prod.fst ps lo.1
  l2 : IsLo Prod.snd ps lo.2
  h1 : IsHi Prod.fst ps hi.1
  h2 : IsHi Prod.snd ps hi.2
theorem box_take (ps : List (Int × Int)) : ∀ i, i + 1 ≤ ps.length → IsBox (ps.take (i + 1)) (loF ps (i + 1)) (hiF ps (i + 1))
  | 0, h => by
    have hg : ps[0]? = some (ps[0]'(by omega)) := List.getElem?_eq_getElem _
    have e : ps.getD 0 (0, 0) = ps[0]'(by omega) := by rw [List.getD_eq_getElem?_getD, hg]; rfl
    have et : ps.take 1 = [ps[0]'(by omega)] := by rw [List.take_succ_eq_append_getElem (by omega)]; rfl
    rw [loF_step hg, hiF_step hg, et]
    have e0 : loF ps 0 = ps[0]'(by omega) := by unfold loF; rw [e]; rfl
    have e1 : hiF ps 0 = ps[0]'(by omega) := by unfold hiF; rw [e]; rfl
    rw [e0, e1]
    generalize ps[0]'(by omega) = q
    unfold loS hiS
    refine ⟨⟨fun p hp => ?_, q, by simp, by dsimp only; omega⟩, ⟨fun p hp => ?_, q, by simp, by dsimp only; omega⟩, ⟨fun p hp => ?_, q, by simp, by dsimp only; omega⟩, ⟨fun p hp => ?_, q, by simp, by dsimp only; omega⟩⟩
    all_goals (obtain rfl : p = q := by simpa using hp)
    all_goals (dsimp only; omega)
  | i + 1, h => by
    obtain ⟨a1, a2, a3, a4⟩ := box_take ps i (by omega)
    have hg : ps[i + 1]? = some (ps[i + 1]'(by omega)) := List.getElem?_eq_getElem _
    rw [loF_step hg, hiF_step hg, List.take_succ_eq_append_getElem (by omega)]
    exact ⟨lo_snoc a1, lo_snoc a2, hi_snoc a3, hi_snoc a4⟩
theorem box_is (ps : List (Int × Int)) (h : 0 < ps.length) : IsBox ps (loF ps ps.length) (hiF ps ps.length) := by
  have := box_take ps (ps.length - 1) (by omega)
  rw [show ps.length - 1 + 1 = ps.length by omega, List.take_length] at this
  exact this
/-- The box of two boxes. -/
theorem box_two {ps qs : List (Int × Int)} {a b c d lo hi : Int × Int} (h1 : IsBox ps a b) (h2 : IsBox qs c d) (h : IsBox (ps ++ qs) lo hi) : IsBox [a, b, c, d] lo hi := by
  have cl : ∀ (f : Int × Int → Int) (x y z u v : Int), IsLo f ps x → IsHi f ps y → IsLo f qs z → IsHi f qs u → IsLo f (ps ++ qs) v → v ≤ x ∧ v ≤ y ∧ v ≤ z ∧ v ≤ u ∧ (x = v ∨ z = v) := by
    intro f x y z u v ⟨m1, p1, i1, e1⟩ ⟨m2, p2, i2, e2⟩ ⟨m3, p3, i3, e3⟩ ⟨m4, p4, i4, e4⟩ ⟨m5, p5, i5, e5⟩
    have := m5 p1 (by simp [i1])
    have := m5 p2 (by simp [i2])
    have := m5 p3 (by simp [i3])
    have := m5 p4 (by simp [i4])
    refine ⟨by omega, by omega, by omega, by omega, ?_⟩
    rcases List.mem_append.1 i5 with q | q
    · have := m1 p5 q
      left
      omega
    · have := m3 p5 q
      right
      omega
  have ch : ∀ (f : Int × Int → Int) (x y z u v : Int), IsLo f ps x → IsHi f ps y → IsLo f qs z → IsHi f qs u → IsHi f (ps ++ qs) v → x ≤ v ∧ y ≤ v ∧ z ≤ v ∧ u ≤ v ∧ (y = v ∨ u = v) := by
    intro f x y z u v ⟨m1, p1, i1, e1⟩ ⟨m2, p2, i2, e2⟩ ⟨m3, p3, i3, e3⟩ ⟨m4, p4, i4, e4⟩ ⟨m5, p5, i5, e5⟩
    have := m5 p1 (by simp [i1])
    have := m5 p2 (by simp [i2])
    have := m5 p3 (by simp [i3])
    have := m5 p4 (by simp [i4])
    refine ⟨by omega, by omega, by omega, by omega, ?_⟩
    rcases List.mem_append.1 i5 with q | q
    · have := m2 p5 q
      left
      omega
    · have := m4 p5 q
      right
      omega
  obtain ⟨a1, a2, a3, a4, a5⟩ := cl _ _ _ _ _ _ h1.l1 h1.h1 h2.l1 h2.h1 h.l1
  obtain ⟨b1, b2, b3, b4, b5⟩ := cl _ _ _ _ _ _ h1.l2 h1.h2 h2.l2 h2.h2 h.l2
  obtain ⟨c1, c2, c3, c4, c5⟩ := ch _ _ _ _ _ _ h1.l1 h1.h1 h2.l1 h2.h1 h.h1
  obtain ⟨d1, d2, d3, d4, d5⟩ := ch _ _ _ _ _ _ h1.l2 h1.h2 h2.l2 h2.h2 h.h2
  refine ⟨⟨fun p hp => ?_, ?_⟩, ⟨fun p hp => ?_, ?_⟩, ⟨fun p hp => ?_, ?_⟩, ⟨fun p hp => ?_, ?_⟩⟩
  · simp only [List.mem_cons, List.not_mem_nil, or_false] at hp
    rcases hp with rfl | rfl | rfl | rfl <;> assumption
  · rcases a5 with q | q
    · exact ⟨a, by simp, q⟩
    · exact ⟨c, by simp, q⟩
  · simp only [List.mem_cons, List.not_mem_nil, or_false] at hp
    rcases hp with rfl | rfl | rfl | rfl <;> assumption
  · rcases b5 with q | q
    · exact ⟨a, by simp, q⟩
    · exact ⟨c, by simp, q⟩
  · simp only [List.mem_cons, List.not_mem_nil, or_false] at hp
    rcases hp with rfl | rfl | rfl | rfl <;> assumption
  · rcases c5 with q | q
    · exact ⟨b, by simp, q⟩
    · exact ⟨d, by simp, q⟩
  · simp only [List.mem_cons, List.not_mem_nil, or_false] at hp
    rcases hp with rfl | rfl | rfl | rfl <;> assumption
  · rcases d5 with q | q
    · exact ⟨b, by simp, q⟩
    · exact ⟨d, by simp, q⟩
theorem IsBox.uniq {ps : List (Int × Int)} {a b c d : Int × Int} (h : IsBox ps a b) (k : IsBox ps c d) : a = c ∧ b = d :=
  ⟨Prod.ext (h.l1.uniq k.l1) (h.l2.uniq k.l2), Prod.ext (h.h1.uniq k.h1) (h.h2.uniq k.h2)⟩
theorem infoC : (Try.prog.info? 22).map (fun i => (i.zero, i.size, i.bytes)) = some (some (.complex .f64 0 0), 1, 16) := by kernel_rfl
theorem build_onec (a b : Nat) (w : World) : (Instr.buildSlice 33 1 #[(0, .complex .f64 a b)]).run Try.prog w = .ok (.slice (some ⟨w.heap.size, 0, none⟩) 1 1) (w.alloc (.cells #[.complex .f64 a b] 22)) := by kernel_rfl
theorem wp_build1c {w : World} {o : Oper} {a : Act} {K : Act → World → Prop} {Q : Exit → Act → World → Prop} (x : Operand) (hop : o.op = Op.buildSlice 33 1 #[(0, x)])
    (b c : Nat) (hx : a.eval x = .complex .f64 b c)
    (hK : ∀ w' g, Blk w' g 22 #[.complex .f64 b c] → w.heap.size ≤ g → Below w.heap.size w w' → K (a.put o.dst (.slice (some ⟨g, 0, none⟩) 1 1)) w') : Oper.wp Try.prog o a w K Q := by
  have hrun := build_onec b c w
  unfold Oper.wp
  simp [execOp, hop, hx, hrun, Result.andThen]
  exact hK _ _ (Blk.new_ _ _ _) (Nat.le_refl _) ((Below.refl _ _).alloc (Nat.le_refl _) _)
theorem own_below {w w' : World} {base : Nat} {e : TypeId} {size n : Nat} {v : Value} {xs : List Value} (h : w.ownsRow base e size v n xs) (hb : Below w.heap.size w w') : w'.ownsRow base e size v n xs :=
  h.kept (row := none) ⟨hb.os, hb.tape, hb.output, hb.size, fun k hk _ => hb.block k hk⟩ (by cases v.ownBlock <;> simp)
theorem own_rowC {w : World} {base n : Nat} {t : TypeId} {v : Value} {xs : List Value} (h : w.ownsRow base t 1 v n xs) (hn : 1 ≤ n) : ∃ g c, v = .slice (some ⟨g, 0, none⟩) n c ∧ RowT w g t xs ∧ base ≤ g ∧ n ≤ c ∧ c ≤ maxLen := by
  obtain ⟨hl, h'⟩ := h
  rcases h' with ⟨_, h0⟩ | ⟨g, cap, cur, rfl, hb, hh, hnc, hcm, hsz, ht⟩
  · rw [h0] at hl
    simp at hl
    omega
  · refine ⟨g, cap, rfl, ⟨cur.toList.drop (n * 1), ?_⟩, hb, hnc, hcm⟩
    unfold Blk
    rw [← ht, List.take_append_drop]
    exact hh
def ptsOf (zs : List Int) (j : Nat) : List (Int × Int) := (List.range j).map fun i => (ofZ (zs.getD (2 * i) 0) 1000, ofZ (zs.getD (2 * i + 1) 0) 1000)
theorem ptsOf_len (zs : List Int) (j : Nat) : (ptsOf zs j).length = j := by simp [ptsOf]
theorem ptsOf_step (zs : List Int) (j : Nat) : ptsOf zs (j + 1) = ptsOf zs j ++ [(ofZ (zs.getD (2 * j) 0) 1000, ofZ (zs.getD (2 * j + 1) 0) 1000)] := by
  unfold ptsOf
  rw [List.range_succ, List.map_append]
  rfl
theorem ptsOf_ok (zs : List Int) (j : Nat) : PtsOk (ptsOf zs j) := by
  intro p hp
  obtain ⟨i, -, rfl⟩ := List.mem_map.1 hp
  have h1 := ofZ_bd (zs.getD (2 * i) 0) 1000 (by omega)
  have h2 := ofZ_bd (zs.getD (2 * i + 1) 0) 1000 (by omega)
  exact ⟨mayZ_of (by dsimp only; omega), mayZ_of (by dsimp only; omega)⟩
end Go.Proofs.Ytngemngnboblkaa
