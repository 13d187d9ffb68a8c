/- slices.BinarySearch and slices.Insert on tags; Tag. -/
import Derived.Test.YtkaoechjekffmaaDoorNv2
import Derived.Shelf.Spec.SearchS
import Derived.Shelf.Spec.SlicesInsert
import Derived.Shelf.Spec.SlicesInsertGrow
import Derived.Test.YtkaoechjekffmaaDoorNv1
import Derived.Test.YtkaoechjekffmaaDoorRows
import Derived.SevenTiedAt
import Derived.LaidHandle
import Derived.Lib.LaidIn
import Derived.Lib.LaidU8T
import Derived.PinnedBridge
import Derived.ChangeMaps5
set_option linter.unusedSimpArgs false
set_option linter.unusedVariables false
set_option maxRecDepth 100000
set_option maxHeartbeats 16000000
namespace Go.Proofs.YtkaoechjekffmaaDoor
open Go.ChangeShapes Go.WideShapes Go.ChangeAt Go.RowKit
attribute [local go_sem ↓] Go.wp_at_zero Go.wp_at_succ
theorem tgPos_spec : ∀ (l : List ByteArray) (x : ByteArray), (∀ (j : Nat) (y : ByteArray), j < tgPos l x → l[j]? = some y → lessS y x = true) ∧ (∀ y, l[tgPos l x]? = some y → lessS y x = false)
  | [], _ => ⟨fun j y _ h => by simp at h, fun y h => by simp at h⟩
  | z :: l, x => by
    have ih := tgPos_spec l x
    unfold tgPos
    by_cases hz : lessS z x = true
    · rw [if_pos hz]
      refine ⟨fun j y hj h => ?_, fun y h => ih.2 y (by simpa using h)⟩
      cases j with
      | zero => simp at h; rw [← h]; exact hz
      | succ j => exact ih.1 j y (by omega) (by simpa using h)
    · rw [if_neg hz]
      refine ⟨fun j y hj h => absurd hj (Nat.not_lt_zero _), fun y h => ?_⟩
      simp at h
      rw [← h]
      simpa using hz
theorem tgPos_hi {l : List ByteArray} (hp : l.Pairwise fun a b => lessS a b = true) (x : ByteArray) (j : Nat) (y : ByteArray) (hj : tgPos l x ≤ j) (h : l[j]? = some y) : lessS y x = false := by
  rcases Nat.eq_or_lt_of_le hj with e | hlt
  · exact (tgPos_spec l x).2 y (by rw [e]; exact h)
  · have hjl := (List.getElem?_eq_some_iff.1 h).1
    have hkl : tgPos l x < l.length := by omega
    have h1 := (tgPos_spec l x).2 _ (List.getElem?_eq_getElem hkl)
    cases h2 : lessS y x
    · rfl
    · have h3 := List.pairwise_iff_getElem.1 hp (tgPos l x) j hkl hjl hlt
      rw [(List.getElem?_eq_some_iff.1 h).2] at h3
      rw [lessS_trans h3 h2] at h1
      cases h1
theorem tg_there {l : List ByteArray} (hp : l.Pairwise fun a b => lessS a b = true) (x : ByteArray) : hasT l x = true ↔ l[tgPos l x]? = some x := by
  rw [hasT_iff]
  constructor
  · intro hx
    obtain ⟨j, hj, he⟩ := List.mem_iff_getElem.1 hx
    have hjx : l[j]? = some x := by rw [List.getElem?_eq_getElem hj, he]
    have h1 : tgPos l x ≤ j := by
      rcases Nat.lt_or_ge j (tgPos l x) with h | h
      · have := (tgPos_spec l x).1 j x h hjx
        rw [lessS_irr] at this
        cases this
      · exact h
    rcases Nat.eq_or_lt_of_le h1 with e | hlt
    · rw [e]
      exact hjx
    · have hkl : tgPos l x < l.length := by omega
      have h2 := (tgPos_spec l x).2 _ (List.getElem?_eq_getElem hkl)
      have h3 := List.pairwise_iff_getElem.1 hp (tgPos l x) j hkl hj hlt
      rw [he] at h3
      rw [h3] at h2
      cases h2
  · intro h
    exact List.mem_of_getElem? h
theorem bsStr (l : List ByteArray) (L : Nat) (A : Option Addr) (c : Nat) (x : ByteArray) (w : World) (hL : l.length = L) (hS : Sl w w.heap.size A (l.map strV)) (h4 : L ≤ 100000) (hp : l.Pairwise fun a b => lessS a b = true) :
    Calls Tryd.prog 45 #[.slice A L c, .string x] w fun e' w' => e' = .returned (.tuple #[.int .i64 (tgPos l x : Int), .bool (hasT l x)]) ∧ Below w.heap.size w w' := by
  by_cases h0 : L = 0
  · subst h0
    have : l = [] := List.length_eq_zero_iff.1 hL
    subst this
    refine (show Calls Tryd.prog 45 _ w _ from Any2.slices_BinarySearch_string_empty Tryd.laysSearch A c x w).mono ?_
    rintro e' w' ⟨rfl, rfl⟩
    exact ⟨rfl, Below.refl _ _⟩
  · obtain ⟨b, o, rfl, _, hq⟩ := hS.at_ (by rw [List.length_map]; omega)
    have hx : ∀ j (hj : j < l.length), (l[j]?).getD x = l[j] := fun j hj => by rw [List.getElem?_eq_getElem hj]; rfl
    have h := Any2.slices_BinarySearch_string Tryd.laysSearch b o L c (fun j => (l[j]?).getD x) x w (by omega) (fun j hj => by
      have hjl : j < l.length := by omega
      show w.cell? _ = some (.string ((l[j]?).getD x))
      rw [hx j hjl]
      exact hq j _ (by rw [List.getElem?_map, List.getElem?_eq_getElem hjl]; rfl))
    have hle := tgPos_le l x
    have hbs : Lib.bsGo (fun t => Op.bytesLess ((l[t]?).getD x).toList x.toList) L 0 L = tgPos l x := by
      refine Lib.bsGo_spec _ (tgPos l x) (fun t ht => ?_) (fun t ht => ?_) L 0 L (by omega) (Nat.zero_le _) (by omega)
      · have htl : t < l.length := by omega
        rw [hx t htl]
        exact (tgPos_spec l x).1 t _ ht (List.getElem?_eq_getElem htl)
      · rcases Nat.lt_or_ge t l.length with htl | htl
        · rw [hx t htl]
          exact tgPos_hi hp x t _ ht (List.getElem?_eq_getElem htl)
        · rw [List.getElem?_eq_none htl]
          exact lessS_irr x
    rw [hbs] at h
    have hb : decide (tgPos l x < L ∧ (l[tgPos l x]?).getD x = x) = hasT l x := by
      cases ht : hasT l x
      · rw [decide_eq_false_iff_not]
        rintro ⟨h1, h2⟩
        rw [hx _ (by omega)] at h2
        have : hasT l x = true := (tg_there hp x).2 (by rw [List.getElem?_eq_getElem (by omega), h2])
        rw [ht] at this
        cases this
      · rw [decide_eq_true_eq]
        have h1 := (tg_there hp x).1 ht
        exact ⟨by rw [← hL]; exact (List.getElem?_eq_some_iff.1 h1).1, by rw [h1]; rfl⟩
    rw [hb] at h
    refine (show Calls Tryd.prog 45 _ w _ from h).mono ?_
    rintro e' w' ⟨rfl, q, rfl⟩
    exact ⟨rfl, below_dn (Below.refl _ _) q⟩
theorem cells_set (g : Nat) (e : TypeId) (fr : Nat × Nat) : ∀ (vs : List Value) (o : Nat) (w : World) (cur : Array Value), w.heap[g]? = some (.cells cur e fr) → ∃ cur', (w.setCells g o vs).heap[g]? = some (.cells cur' e fr) ∧ cur'.size = cur.size ∧ (∀ j, j < o ∨ o + vs.length ≤ j → cur'[j]? = cur[j]?) ∧ (∀ j, j < vs.length → o + j < cur.size → cur'[o + j]? = vs[j]?) ∧ w.grownBy (w.setCells g o vs) (some g)
  | [], o, w, cur, h => ⟨cur, h, rfl, fun _ _ => rfl, fun j hj => absurd hj (Nat.not_lt_zero _), World.grownBy.refl w _⟩
  | u :: vs, o, w, cur, h => by
    have h1 : (w.setCell ⟨g, o, none⟩ u).heap[g]? = some (.cells (cur.setIfInBounds o u) e fr) := by
      simp only [World.setCell, Array.getElem?_modify, if_pos, h, Option.map_some]
      rfl
    obtain ⟨cur', q1, q2, q3, q4, q5⟩ := cells_set g e fr vs (o + 1) (w.setCell ⟨g, o, none⟩ u) _ h1
    refine ⟨cur', q1, by rw [q2, Array.size_setIfInBounds], fun j hj => ?_, fun j hj hjs => ?_, ?_⟩
    · rw [List.length_cons] at hj
      rw [q3 j (by omega), Array.getElem?_setIfInBounds, if_neg (by omega)]
    · rw [List.length_cons] at hj
      cases j with
      | zero =>
        rw [Nat.add_zero] at hjs ⊢
        rw [q3 o (by omega), Array.getElem?_setIfInBounds, if_pos rfl, if_pos hjs]
        rfl
      | succ j =>
        have := q4 j (by omega) (by rw [Array.size_setIfInBounds]; omega)
        rw [show o + (j + 1) = o + 1 + j by omega, this]
        rfl
    · exact ⟨q5.os.trans (set1_grown w g o u).os, q5.tape.trans (set1_grown w g o u).tape, q5.output.trans (set1_grown w g o u).output, Nat.le_trans (set1_grown w g o u).size q5.size, fun k hk hne => (q5.block k (Nat.lt_of_lt_of_le hk (set1_grown w g o u).size) hne).trans ((set1_grown w g o u).block k hk hne)⟩
theorem own_of_cur {w : World} {base g n cap : Nat} {e : TypeId} {cur : Array Value} {ys : List Value} (h : w.heap[g]? = some (.cells cur e (0, 0))) (hb : base ≤ g) (hn : n ≤ cap) (hm : cap ≤ maxLen) (hs : cur.size = cap) (hy : ys.length = n) (hc : ∀ j, j < n → cur[j]? = ys[j]?) : w.ownsRow base e 1 (.slice (some ⟨g, 0, none⟩) n cap) n ys := by
  refine ⟨by omega, Or.inr ⟨g, cap, cur, rfl, hb, h, hn, hm, by omega, ?_⟩⟩
  apply List.ext_getElem?
  intro j
  rw [List.getElem?_take, Nat.mul_one, Array.getElem?_toList]
  split
  · exact hc j (by assumption)
  · rw [List.getElem?_eq_none (by omega)]
theorem insAt {α : Type} (l : List α) (i : Nat) (x : α) (hi : i ≤ l.length) (j : Nat) : (l.take i ++ [x] ++ l.drop i)[j]? = if j < i then l[j]? else if j = i then some x else l[j - 1]? := by
  have h1 : (l.take i).length = i := by rw [List.length_take]; omega
  rw [List.append_assoc, List.getElem?_append, h1]
  split
  · rename_i h
    rw [List.getElem?_take_of_lt h]
  · rename_i h
    split
    · rename_i h2
      subst h2
      simp
    · rename_i h2
      obtain ⟨r, hr⟩ : ∃ r, j - i = r + 1 := ⟨j - i - 1, by omega⟩
      rw [hr]
      simp only [List.cons_append, List.nil_append, List.getElem?_cons_succ, List.getElem?_drop]
      congr 1
      omega
theorem insStr (w : World) (base : Nat) (A : Option Addr) (L c i vb : Nat) (l : List ByteArray) (x : ByteArray) (h : w.ownsRow base 9 1 (.slice A L c) L (l.map strV)) (hi : i ≤ L) (h4 : L ≤ 100000) (hv : Blk w vb 9 #[.string x]) (hne : (Value.slice A L c).ownBlock ≠ some vb) (hbs : base ≤ w.heap.size) :
    Calls Tryd.prog 48 #[.slice A L c, .int .i64 (i : Int), .slice (some ⟨vb, 0, none⟩) 1 1] w fun e' w' => ∃ v', e' = .returned v' ∧ w'.ownsRow base 9 1 v' (L + 1) ((l.take i ++ [x] ++ l.drop i).map strV) ∧ w.grownBy w' (Value.slice A L c).ownBlock := by
  have hl : l.length = L := by have := h.1; simpa using this
  have hcl : (l.map strV).length = L := by rw [List.length_map]; exact hl
  have hyl : ((l.take i ++ [x] ++ l.drop i).map strV).length = L + 1 := by
    simp
    omega
  have hys : ∀ j, ((l.take i ++ [x] ++ l.drop i).map strV)[j]? = if j < i then (l.map strV)[j]? else if j = i then some (.string x) else (l.map strV)[j - 1]? := fun j => by
    rw [List.getElem?_map, insAt l i x (by omega) j]
    split
    · rw [List.getElem?_map]
    · split
      · rfl
      · rw [List.getElem?_map]
  have hvs : ∀ (j : Nat) (v : Value), [Value.string x][j]? = some v → w.cell? ⟨vb, 0 + j, none⟩ = some v := fun j v hj => by
    cases j with
    | zero =>
      have := hv.cell_ 0
      simp at this hj
      rw [Nat.add_zero, ← hj]
      exact this
    | succ j => simp at hj
  have h1v : ∀ v ∈ [Value.string x], v.oneCell' = true := fun v hm => by
    simp at hm
    subst hm
    rfl
  have h1c : ∀ v ∈ l.map strV, v.oneCell' = true := fun v hm => by
    obtain ⟨t, _, rfl⟩ := List.mem_map.1 hm
    rfl
  have hnew : ∀ (cur : Array Value) (fr : Nat × Nat), w.grownBy (w.alloc (.cells cur 9 fr)) (Value.slice A L c).ownBlock := fun cur fr =>
    ⟨rfl, rfl, rfl, by simp, fun k hk _ => (by first | exact heap_alloc_old w _ hk | exact heap_alloc_old w _ k hk)⟩
  have hend : L < c + 1 → L ≤ c → c < L + 1 → i = L → (A = none → L = 0) → (∀ a, A = some a → ∀ (j : Nat) (v : Value), (l.map strV)[j]? = some v → w.cell? (a.add j) = some v) → Calls Tryd.prog 48 #[.slice A L c, .int .i64 (i : Int), .slice (some ⟨vb, 0, none⟩) 1 1] w fun e' w' => ∃ v', e' = .returned v' ∧ w'.ownsRow base 9 1 v' (L + 1) ((l.take i ++ [x] ++ l.drop i).map strV) ∧ w.grownBy w' (Value.slice A L c).ownBlock := by
    intro _ hLc hcr hiL hnil hca
    subst hiL
    have hC := Any2.slices_Insert_string_end_grow Tryd.laysInsert A i c vb 0 1 1 (l.map strV) [.string x] w (by decide) hLc hcr (by omega) hcl rfl hnil hca hvs h1v
    refine (show Calls Tryd.prog 48 _ w _ from hC).mono ?_
    rintro e' w' ⟨rfl, rfl⟩
    have hge := grownCap_ge w (i + 1) c 9
    have hle := grownCap_le_maxLen w (i + 1) c 9 (by unfold maxLen; omega)
    refine ⟨_, rfl, own_of_cur (heap_alloc_new w.drew _) hbs hge hle ?_ hyl (fun j hj => ?_), ?_⟩
    · have hz := size_zeroCells (Value.string ⟨#[]⟩).cells (grownCap w (i + 1) c 9 - (i + 1))
      have hz1 : (Value.string ⟨#[]⟩).cells.size = 1 := rfl
      rw [hz1] at hz
      rw [Array.size_append]
      show ((l.map strV) ++ [Value.string x]).toArray.size + (Builtin.zeroCells (Value.string ⟨#[]⟩).cells (grownCap w (i + 1) c 9 - (i + 1))).size = grownCap w (i + 1) c 9
      rw [hz]
      simp
      omega
    · rw [hys j, Array.getElem?_append_left (by simp; omega)]
      simp only [List.getElem?_toArray]
      by_cases hj1 : j < i
      · rw [if_pos hj1, List.getElem?_append_left (by omega)]
      · obtain rfl : j = i := by omega
        rw [if_neg hj1, if_pos rfl, List.getElem?_append_right (by omega), hcl]
        simp
    · refine ⟨rfl, rfl, rfl, Nat.le_of_lt (by show w.drew.heap.size < (w.drew.alloc _).heap.size; simp), fun k hk _ => ?_⟩
      first | exact heap_alloc_old w.drew _ hk | exact heap_alloc_old w.drew _ k hk
  rcases h.2 with ⟨hA, hL0⟩ | ⟨g, cap, cur, hA, hb, hg, hnc, hm, hs, ht⟩
  · cases hA
    exact hend (by omega) (by omega) (by omega) (by omega) (fun _ => rfl) (fun a ha => by cases ha)
  · cases hA
    have hs1 : cur.size = c := by omega
    have hcur : ∀ j, j < L → cur[j]? = (l.map strV)[j]? := fun j hj => by
      rw [← ht, List.getElem?_take, if_pos (by omega), Array.getElem?_toList]
    have hgl : g < w.heap.size := by
      rcases Nat.lt_or_ge g w.heap.size with hx | hx
      · exact hx
      · rw [Array.getElem?_eq_none hx] at hg
        cases hg
    have hgv : vb ≠ g := fun e => hne (by rw [e]; rfl)
    have hcs : ∀ (j : Nat) (v : Value), (l.map strV)[j]? = some v → w.cell? ⟨g, 0 + j, none⟩ = some v := fun j v hj => by
      have hjl : j < L := by have := (List.getElem?_eq_some_iff.1 hj).1; omega
      rw [Nat.zero_add, h.cellAt j (by omega)]
      exact hj
    have hcell : ∀ j, w.cell? ⟨g, j, none⟩ = cur[j]? := fun j => by
      simp [World.cell?, hg]
    by_cases hroom : L + 1 ≤ c
    · have hsp : ∀ j, j < L + 1 → (w.cell? ⟨g, 0 + j, none⟩).isSome = true := fun j hj => by
        rw [Nat.zero_add, hcell, Array.getElem?_eq_getElem (by omega)]
        rfl
      by_cases hil : i < L
      · have hC := Any2.slices_Insert_string_shift Tryd.laysInsert g 0 L c i vb 0 1 1 (l.map strV) [.string x] w hil (by decide) hroom (by unfold maxLen at hm; omega) hgv hcl rfl hcs hsp (fun j _ => by rw [Nat.zero_add]; exact h.frozenAt j) hvs h1c h1v 9 9 1 c (by simp only [World.shape?]; rw [show w.heap[vb]? = _ from hv]; rfl) (by simp only [World.shape?]; rw [hg, ← hs1]) (by omega) (hv.free 0) (hv.free 1)
        refine (show Calls Tryd.prog 48 _ w _ from hC).mono ?_
        rintro e' w' ⟨rfl, rfl⟩
        obtain ⟨cur1, p1, p2, p3, p4, p5⟩ := cells_set g 9 (0, 0) ((l.map strV).drop i) (0 + (i + 1)) w.drew cur hg
        obtain ⟨cur2, r1, r2, r3, r4, r5⟩ := cells_set g 9 (0, 0) [.string x] (0 + i) _ cur1 p1
        have hdl : ((l.map strV).drop i).length = L - i := by rw [List.length_drop, hcl]
        refine ⟨_, rfl, own_of_cur r1 hb hroom hm (by omega) hyl (fun j hj => ?_), ⟨r5.os.trans p5.os, r5.tape.trans p5.tape, r5.output.trans p5.output, Nat.le_trans p5.size r5.size, fun k hk hne2 => (r5.block k (Nat.lt_of_lt_of_le hk p5.size) hne2).trans (p5.block k hk hne2)⟩⟩
        rw [hys j]
        by_cases hj1 : j < i
        · rw [if_pos hj1, r3 j (by left; omega), p3 j (by left; omega), hcur j (by omega)]
        · rw [if_neg hj1]
          by_cases hj2 : j = i
          · subst hj2
            rw [if_pos rfl]
            have := r4 0 (by simp) (by omega)
            rw [Nat.add_zero, Nat.zero_add] at this
            rw [this]
            rfl
          · rw [if_neg hj2, r3 j (by right; simp; omega)]
            have := p4 (j - (i + 1)) (by omega) (by omega)
            rw [show 0 + (i + 1) + (j - (i + 1)) = j by omega, List.getElem?_drop, show i + (j - (i + 1)) = j - 1 by omega] at this
            exact this
      · obtain rfl : i = L := by omega
        have hC := Any2.slices_Insert_string_end_room Tryd.laysInsert g 0 i c vb 0 1 1 [.string x] w (by decide) hroom (by unfold maxLen at hm; omega) rfl (fun j hj => hsp (i + j) (by omega) |> fun q => by rw [show 0 + i + j = 0 + (i + j) by omega]; exact q) (fun j _ => h.frozenAt _) hvs h1v
        refine (show Calls Tryd.prog 48 _ w _ from hC).mono ?_
        rintro e' w' ⟨rfl, rfl⟩
        obtain ⟨cur2, r1, r2, r3, r4, r5⟩ := cells_set g 9 (0, 0) [.string x] (0 + i) w cur hg
        refine ⟨_, rfl, own_of_cur r1 hb hroom hm (by omega) hyl (fun j hj => ?_), r5⟩
        rw [hys j]
        by_cases hj1 : j < i
        · rw [if_pos hj1, r3 j (by left; omega), hcur j (by omega)]
        · obtain rfl : j = i := by omega
          rw [if_neg hj1, if_pos rfl]
          have := r4 0 (by simp) (by omega)
          rw [Nat.add_zero, Nat.zero_add] at this
          rw [this]
          rfl
    · by_cases hil : i < L
      · have hC := Any2.slices_Insert_string_grow Tryd.laysInsert g 0 L c i vb 0 1 1 (l.map strV) [.string x] w hil (by decide) hnc (by omega) (by omega) hcl rfl hcs hvs h1c h1v
        refine (show Calls Tryd.prog 48 _ w _ from hC).mono ?_
        rintro e' w' ⟨rfl, rfl⟩
        have hge := grownCap_ge w (L + 1) c 9
        have hle := grownCap_le_maxLen w (L + 1) c 9 (by unfold maxLen; omega)
        change ∃ v', _ = Ending.returned v' ∧ World.ownsRow (((w.alloc (.cells (((l.map strV).take i).toArray ++ Builtin.zeroCells (Value.string ⟨#[]⟩).cells (L + 1 - i) ++ Builtin.zeroCells (Value.string ⟨#[]⟩).cells (grownCap w (L + 1) c 9 - (L + 1))) 9)).drew.setCells w.heap.size i [.string x]).drew.setCells w.heap.size (i + 1) ((l.map strV).drop i)) _ _ _ _ _ _ ∧ w.grownBy (((w.alloc (.cells (((l.map strV).take i).toArray ++ Builtin.zeroCells (Value.string ⟨#[]⟩).cells (L + 1 - i) ++ Builtin.zeroCells (Value.string ⟨#[]⟩).cells (grownCap w (L + 1) c 9 - (L + 1))) 9)).drew.setCells w.heap.size i [.string x]).drew.setCells w.heap.size (i + 1) ((l.map strV).drop i)) _
        have hz1 : (Value.string ⟨#[]⟩).cells.size = 1 := rfl
        obtain ⟨cur0, hc0⟩ : ∃ a, a = ((l.map strV).take i).toArray ++ Builtin.zeroCells (Value.string ⟨#[]⟩).cells (L + 1 - i) ++ Builtin.zeroCells (Value.string ⟨#[]⟩).cells (grownCap w (L + 1) c 9 - (L + 1)) := ⟨_, rfl⟩
        have hs0 : cur0.size = grownCap w (L + 1) c 9 := by
          rw [hc0, Array.size_append, Array.size_append, size_zeroCells, size_zeroCells, hz1]
          simp
          omega
        have hg0 : ∀ j, j < i → cur0[j]? = (l.map strV)[j]? := fun j hj => by
          rw [hc0, Array.getElem?_append_left (by rw [Array.size_append]; simp; omega), Array.getElem?_append_left (by simp; omega)]
          rw [List.getElem?_toArray, List.getElem?_take_of_lt hj]
        rw [← hc0]
        have p0 : (w.alloc (.cells cur0 9)).heap[w.heap.size]? = some (.cells cur0 9 (0, 0)) := heap_alloc_new w _
        obtain ⟨cur1, p1, p2, p3, p4, p5⟩ := cells_set w.heap.size 9 (0, 0) [.string x] i (w.alloc (.cells cur0 9)).drew cur0 p0
        obtain ⟨cur2, r1, r2, r3, r4, r5⟩ := cells_set w.heap.size 9 (0, 0) ((l.map strV).drop i) (i + 1) ((w.alloc (.cells cur0 9)).drew.setCells w.heap.size i [.string x]).drew cur1 p1
        have hdl : ((l.map strV).drop i).length = L - i := by rw [List.length_drop, hcl]
        have hn1 := hnew cur0 (0, 0)
        refine ⟨_, rfl, own_of_cur r1 hbs hge hle (show cur2.size = grownCap w (L + 1) c 9 by omega) hyl (fun j hj => ?_), ⟨r5.os.trans (p5.os.trans hn1.os), r5.tape.trans (p5.tape.trans hn1.tape), r5.output.trans (p5.output.trans hn1.output), Nat.le_trans hn1.size (Nat.le_trans p5.size r5.size), fun k hk hne2 => (r5.block k (Nat.lt_of_lt_of_le hk (Nat.le_trans hn1.size p5.size)) (fun e => by cases e; omega)).trans ((p5.block k (Nat.lt_of_lt_of_le hk hn1.size) (fun e => by cases e; omega)).trans (hn1.block k hk hne2))⟩⟩
        rw [hys j]
        by_cases hj1 : j < i
        · rw [if_pos hj1, r3 j (by left; omega), p3 j (by left; omega), hg0 j hj1]
        · rw [if_neg hj1]
          by_cases hj2 : j = i
          · subst hj2
            rw [if_pos rfl, r3 j (by left; omega)]
            have := p4 0 (by simp) (by omega)
            rw [Nat.add_zero] at this
            rw [this]
            rfl
          · rw [if_neg hj2]
            have := r4 (j - (i + 1)) (by omega) (by omega)
            rw [show i + 1 + (j - (i + 1)) = j by omega, List.getElem?_drop, show i + (j - (i + 1)) = j - 1 by omega] at this
            exact this
      · exact hend (by omega) (by omega) (by omega) (by omega) (fun e => by cases e) (fun a ha j v hj => by
          cases ha
          have := hcs j v hj
          rw [Nat.zero_add] at this
          rw [Addr.add_lit, Nat.zero_add]
          exact this)
theorem ntag_yes (s : Sf) (v : Value) (y : Int) (x : ByteArray) (w : World) (hS : ShR w w.heap.size v s) (hT : Tabs w) (hc : tagC s y x = 0) :
    Calls Tryd.prog 18 #[v, .int .i64 y, .string x] w fun e' w' => ∃ v', e' = .returned (.tuple #[v', .int .i64 0]) ∧ ShW w' w.heap.size v' (tagS s y x) ∧ Below w.heap.size w w' := by
  have hS0 := hS
  obtain ⟨Ab, cb, An, cn, rfl, hB, hN, hcb, hmb, hcn, hmn⟩ := hS.ex
  clear hS
  obtain ⟨HB, B1, B2, S1⟩ := pre2 hS0
  have T1 := hT.next HB
  have hf : findC s y = 0 := by
    unfold tagC at hc
    by_cases h : findC s y = 0
    · exact h
    · have h2 : (findC s y == 0) = false := by simpa using h
      rw [h2] at hc
      exact absurd hc h
  obtain ⟨k, n, h⟩ := fdF_of hf
  obtain ⟨hN9, hH9, hL9⟩ : mayN x = true ∧ hasT n.tg x = false ∧ n.tg.length < 4 := by
    unfold tagC at hc
    rw [hf, h.of_] at hc
    cases h1 : mayN x
    · rw [h1] at hc
      cases hc
    · cases h2 : hasT n.tg x
      · rw [h1, h2] at hc
        refine ⟨rfl, rfl, ?_⟩
        rcases Nat.lt_or_ge n.tg.length 4 with h3 | h3
        · exact h3
        · rw [decide_eq_true h3] at hc
          cases hc
      · rw [h1, h2] at hc
        cases hc
  have HNN := Lib.hid h.nt
  have hMF := h.may
  have HLB : Hid (s.bs.length ≤ 100000) := Lib.hid (by have := hMF.bl; omega)
  have HLN : Hid (s.ts.length ≤ 100000) := Lib.hid (by have := hMF.tl; omega)
  have HLR := Lib.hid hMF.small
  have HKL : Hid (k < s.ts.length) := Lib.hid (List.getElem?_eq_some_iff.1 h.nt).1
  have HF := Lib.hid h
  obtain ⟨es, hel, hse, hnt⟩ := hN.ex
  have hkl : k < s.ts.length := (List.getElem?_eq_some_iff.1 h.nt).1
  obtain ⟨e0, he⟩ : ∃ e, es[k]? = some e := ⟨_, List.getElem?_eq_getElem (by omega)⟩
  obtain ⟨At, ct, As, cs, rfl, hAt, -⟩ := (hnt k n e0 h.nt he).ex
  obtain ⟨b1, o1, rfl, l1, q1⟩ := hse.at_ (by omega)
  have y3 := q1 k _ he 3 _ rfl
  have i0 : (0 : Int) ≤ (k : Int) := by omega
  have i1 : (k : Int) < (s.ts.length : Int) := by omega
  have i2 : ¬ (k : Int) < 0 := by omega
  have HL4 : Hid (n.tg.length ≤ 100000) := Lib.hid (h.may.small n (List.mem_of_getElem? h.nt)).1
  have hmt := tg_iff.1 (mayNt_iff.1 (h.may.ts n (List.mem_of_getElem? h.nt)).2.2).2.2.2
  have HSRT := Lib.hid hmt.2.2
  have HRS : Hid (tagS s y x = { s with ts := s.ts.set k { n with tg := tgIns n.tg x } }) := Lib.hid (by unfold tagS; rw [h.of_, h.put])
  obtain ⟨L, hL⟩ : ∃ L, n.tg.length = L := ⟨_, rfl⟩
  obtain ⟨T, hTe⟩ : ∃ T, s.ts.length = T := ⟨_, rfl⟩
  have HLL := Lib.hid hL
  have HTT := Lib.hid hTe
  rw [hL] at y3
  rw [hTe] at i1 HB B1 B2 S1 T1 ⊢
  rw [hL] at HL4
  obtain ⟨P, hP⟩ : ∃ P, tgPos n.tg x = P := ⟨_, rfl⟩
  have HP := Lib.hid hP
  rw [hL] at hL9
  have HI9 : Hid (n.tg.take P ++ [x] ++ n.tg.drop P = tgIns n.tg x) := Lib.hid (by unfold tgIns; rw [hP])
  have hPL : P ≤ L := by rw [← hP, ← hL]; exact tgPos_le _ _
  have HH := Lib.hid hH9
  have HN : Hid (nameB x.data.toList = true) := Lib.hid hN9
  have hL8 := HL4.out
  have g5 : ¬ (4 : Int) ≤ (L : Int) := by omega
  clear hP hH9 hN9 hmt hc h hL hTe hkl he q1 hse hel hnt hN hB hS0 hT hcb hmb hcn hmn hf hMF
  go_enter Tryd.func18, Tryd.ntmps18
  go_upto_region 12 with (first | (go_at_call 44; ((with_reducible refine (nfind_yes s _ y _ S1 T1 k n HF.out).mono ?_); rintro e' w3 ⟨rfl, bx⟩; (try clear k0 k1 k2 k3 k4 r0 r1 r2 r3 r4 t0 t1 t2 t3 t4); obtain ⟨S1, T1, B1, B2, HB, k0, k1, k2, k3, k4, r0, r1, r2, r3, r4, t0, t1, t2, t3, t4⟩ := keepT S1 T1 B1 B2 HB bx; clear bx; have z3 := (HB.cell (p := ⟨b1, o1 + k * 5 + 3, none⟩) l1).trans y3; have SA := (hAt.below HB).mono_ HB.size)) | (go_at_call 45; ((with_reducible refine (bsStr n.tg L At ct x _ HLL.out SA HL4.out HSRT.out).mono ?_); rintro e' w4 ⟨rfl, bx⟩; rw [HP.out, HH.out]; clear SA; (try clear k0 k1 k2 k3 k4 r0 r1 r2 r3 r4 t0 t1 t2 t3 t4); obtain ⟨S1, T1, B1, B2, HB, k0, k1, k2, k3, k4, r0, r1, r2, r3, r4, t0, t1, t2, t3, t4⟩ := keepT S1 T1 B1 B2 HB bx; clear bx)) | (go_at_call 46; ((with_reducible refine (nmay_any x _ _ T1 HN.out).mono ?_); rintro e' w5 ⟨rfl, bx⟩; (try clear k0 k1 k2 k3 k4 r0 r1 r2 r3 r4 t0 t1 t2 t3 t4); obtain ⟨S1, T1, B1, B2, HB, k0, k1, k2, k3, k4, r0, r1, r2, r3, r4, t0, t1, t2, t3, t4⟩ := keepT S1 T1 B1 B2 HB bx; clear bx)))
  have hW5 : w.heap.size + 2 ≤ w5.heap.size := by have := B2.lt; omega
  go_upto_region 13 with (go_at_call 47; ((with_reducible refine (clone_ap s _ _ S1 HLB.out HLN.out HLR.out).mono ?_); rintro e' w9 ⟨v6, rfl, hQ, b6⟩; obtain ⟨Ab6, cb6, An6, cn6, rfl, hBk, hNt, q1, q2, q3, q4⟩ := ShA.parts hQ; have B1 := B1.below b6 B1.lt; have B2 := B2.below b6 B2.lt; have HB := btr HB HB.size b6; have hz6 := b6.size; (try clear k0 k1 k2 k3 k4 r0 r1 r2 r3 r4 t0 t1 t2 t3 t4); have k0 := B1.cell_ 0; have t0 := B1.free 0; have k1 := B1.cell_ 1; have t1 := B1.free 1; have k2 := B1.cell_ 2; have t2 := B1.free 2; have k3 := B1.cell_ 3; have t3 := B1.free 3; have k4 := B1.cell_ 4; have t4 := B1.free 4; simp at k0 k1 k2 k3 k4; clear b6 hQ S1 T1))
  have B1u := B1.st5_ (.int .i64 s.nb) (.int .i64 s.nn) (.int .i64 s.ns) (.slice Ab6 s.bs.length cb6) (.slice An6 s.ts.length cn6)
  have hg6 := st5_grown w9 w.heap.size 0 (.int .i64 s.nb) (.int .i64 s.nn) (.int .i64 s.ns) (.slice Ab6 s.bs.length cb6) (.slice An6 s.ts.length cn6)
  have B2u := B2.grown hg6 (by omega)
  have hBk2 := hBk.far hg6 (by omega)
  have hNt2 := hNt.far hg6 (by omega)
  have hb2 := below_grown HB hg6 (Nat.le_refl _) HB.size
  have HSZ : Hid (w5.heap.size ≤ (st5 w9 w.heap.size 0 (.int .i64 s.nb) (.int .i64 s.nn) (.int .i64 s.ns) (.slice Ab6 s.bs.length cb6) (.slice An6 s.ts.length cn6)).heap.size) := Lib.hid (by have := hz6; have := hg6.size; omega)
  clear hg6
  obtain ⟨Wd, hWd⟩ : ∃ V : World, V = (st5 w9 w.heap.size 0 (.int .i64 s.nb) (.int .i64 s.nn) (.int .i64 s.ns) (.slice Ab6 s.bs.length cb6) (.slice An6 s.ts.length cn6)) := ⟨_, rfl⟩
  change Code.wp _ _ _ _ (st5 w9 w.heap.size 0 (.int .i64 s.nb) (.int .i64 s.nn) (.int .i64 s.ns) (.slice Ab6 s.bs.length cb6) (.slice An6 s.ts.length cn6))
  rw [← hWd] at B1u B2u hBk2 hNt2 hb2 HSZ ⊢
  clear hWd y3 z3 hAt B1 B2 HB hBk hNt k0 k1 k2 k3 k4 t0 t1 t2 t3 t4 hz6
  have HW5 := Lib.hid hW5
  obtain ⟨es, hel, hon, hnt, hap⟩ := hNt2
  have hkT := (List.getElem?_eq_some_iff.1 HNN.out).1
  obtain ⟨e0, he⟩ : ∃ e, es[k]? = some e := ⟨_, List.getElem?_eq_getElem (by omega)⟩
  obtain ⟨vt, vs, rfl, q1, q2⟩ := hnt k n e0 HNN.out he
  obtain ⟨At9, ct9, rfl, ht1, ht2⟩ := own_shape q1
  obtain ⟨As9, cs9, rfl, hs1, hs2⟩ := own_shape q2
  obtain ⟨gn, hgn, hgn2⟩ : ∃ gn, An6 = some ⟨gn, 0, none⟩ ∧ w5.heap.size ≤ gn := by
    rcases hon.2 with ⟨h, h0⟩ | ⟨g, c, cu, h, hb, _⟩
    · omega
    · injection h with h1 h2 h3
      exact ⟨g, h1, hb⟩
  subst hgn
  have h5 := es_five hel hnt
  have hga : gn ≠ Wd.heap.size := by
    have := (hon.lt gn rfl).2
    omega
  have HE := Lib.hid he
  have HEL := Lib.hid hel
  have HON := Lib.hid hon
  rw [HLL.out] at he q1
  rw [HTT.out] at hon hel
  have k0 := B1u.cell_ 0
  have k1 := B1u.cell_ 1
  have k2 := B1u.cell_ 2
  have k3 := B1u.cell_ 3
  have k4 := B1u.cell_ 4
  simp at k0 k1 k2 k3 k4
  rw [HTT.out] at k4
  have x4 := own_cellE hon h5 he (j := 3) rfl
  have kd : Wd.drew.cell? ⟨w.heap.size, 4, none⟩ = some (.slice (some ⟨gn, 0, none⟩) T cn6) := drew_cell k4
  have ka : (Wd.alloc (.cells #[.string x] 9)).drew.cell? ⟨w.heap.size, 4, none⟩ = some (.slice (some ⟨gn, 0, none⟩) T cn6) := by
    rw [← HTT.out]
    exact drew_cell ((B1u.alloc_ _).cell_ 4)
  have xd : Wd.drew.cell? ⟨gn, k * 5 + 3, none⟩ = some (.slice At9 L ct9) := drew_cell x4
  have xa : (Wd.alloc (.cells #[.string x] 9)).drew.cell? ⟨gn, k * 5 + 3, none⟩ = some (.slice At9 L ct9) := own_cellE (drew_own (hon.alloc _)) h5 he (j := 3) rfl
  have hqb : ∀ g, (Value.slice At9 L ct9).ownBlock = some g → w5.heap.size ≤ g := fun g hg => (q1.lt g hg).1
  have hqn : (Value.slice At9 L ct9).ownBlock ≠ some Wd.heap.size := fun e => by
    have := (q1.lt _ e).2
    omega
  have hzA : w5.heap.size ≤ (Wd.alloc (.cells #[.string x] 9)).drew.heap.size := by
    have := HSZ.out
    show w5.heap.size ≤ (Wd.alloc (.cells #[.string x] 9)).heap.size
    simp
    omega
  clear k0 k1 k2 k3 k4 x4
  refine wp_region_noPanic ?_
  refine wp_region_held_drew (S := (fun w_ => w_.cell? ⟨w.heap.size, 4, none⟩ = some (.slice (some ⟨gn, 0, none⟩) T cn6))) (by kernel_rfl) ?_ (fun hHeld => ?_)
  · (first | with_reducible exact kd | with_reducible exact ka | with_reducible exact k4' | with_reducible exact kb)
  refine tk 0 ⟨some 50, .fieldAddr 25 (.tmp 3) 4, 0, "note.go:54", #[], none⟩ ?_; try simp only [Act.put, pz1, pz2, pz3]
  refine tk 1 ⟨some 51, .load 23 (.tmp 50), 23, "note.go:54", #[⟨0, .data⟩], none⟩ ?_; try simp only [Act.put, pz1, pz2, pz3]
  refine tk 2 ⟨some 52, .move (.tmp 8), 3, "note.go:54", #[], none⟩ ?_; try simp only [Act.put, pz1, pz2, pz3]
  refine tk 3 ⟨some 53, .fieldAddr 25 (.tmp 3) 4, 0, "note.go:54", #[], none⟩ ?_; try simp only [Act.put, pz1, pz2, pz3]
  refine tk 4 ⟨some 54, .load 23 (.tmp 53), 23, "note.go:54", #[⟨3, .data⟩], none⟩ ?_; try simp only [Act.put, pz1, pz2, pz3]
  refine tk 5 ⟨some 55, .move (.tmp 8), 3, "note.go:54", #[], none⟩ ?_; try simp only [Act.put, pz1, pz2, pz3]
  refine tk 6 ⟨some 56, .indexAddr 23 (.tmp 54) (.tmp 55), 0, "note.go:54", #[⟨4, .data⟩, ⟨5, .data⟩], none⟩ ?_; try simp only [Act.put, pz1, pz2, pz3]
  refine tk 7 ⟨some 57, .fieldAddr 49 (.tmp 56) 3, 0, "note.go:54", #[⟨6, .data⟩], none⟩ ?_; try simp only [Act.put, pz1, pz2, pz3]
  refine tk 9 ⟨some 59, .move (.tmp 11), 3, "note.go:54", #[], none⟩ ?_; try simp only [Act.put, pz1, pz2, pz3]
  refine tk 10 ⟨some 60, .move (.tmp 2), 9, "note.go:54", #[], none⟩ ?_; try simp only [Act.put, pz1, pz2, pz3]
  refine wpAnyH_ready (rs := [8, 11]) (by kernel_rfl) (by simp) ?_
  refine (AllReadyH.cons (o := ⟨some 58, .load 46 (.tmp 57), 46, "note.go:54", #[⟨7, .data⟩], none⟩) rfl (fun K hK => ?_) (AllReadyH.cons (o := ⟨some 61, .buildSlice 46 1 #[(0, .tmp 60)], 46, "note.go:54", #[⟨10, .data⟩], none⟩) rfl (fun K hK => ?_) AllReadyH.nil))
  · go_simp
    refine hK.out _ _ ?_ (fun hNew => ?_)
    · (first | with_reducible exact kd | with_reducible exact ka | with_reducible exact k4' | with_reducible exact kb)
    clear hK K hHeld
    have hHeld := hNew
    clear hNew
    try simp only [Act.put, pz1, pz2, pz3]
    refine wpAnyH_ready (rs := [11]) (by kernel_rfl) (by simp) ?_
    refine AllReadyH.cons (o := ⟨some 61, .buildSlice 46 1 #[(0, .tmp 60)], 46, "note.go:54", #[⟨10, .data⟩], none⟩) rfl (fun K hK => ?_) AllReadyH.nil
    go_simp
    refine hK.out _ _ ?_ (fun hNew => ?_)
    · (first | with_reducible exact kd | with_reducible exact ka | with_reducible exact k4' | with_reducible exact kb)
    clear hK K hHeld
    have hHeld := hNew
    clear hNew
    try simp only [Act.put, pz1, pz2, pz3]
    refine wpAnyH_ready (rs := [12]) (by kernel_rfl) (by simp) ?_
    refine AllReadyH.cons (o := ⟨some 62, .call { callee := .value (.func 48), args := #[.tmp 58, .tmp 59, .tmp 61], argTypes := #[46, 3, 46] }, 46, "note.go:54", #[⟨8, .data⟩, ⟨9, .data⟩, ⟨11, .data⟩], none⟩) rfl (fun K hK => ?_) AllReadyH.nil
    go_simp
    (go_at_call 48; ((with_reducible refine (insStr _ w5.heap.size At9 L ct9 P Wd.heap.size n.tg x (drew_own (q1.alloc (.cells #[.string x] 9))) hPL hL8 (drew_blk (Blk.new_ Wd 9 #[.string x])) hqn hzA).mono ?_); rintro e' w7 ⟨v9, rfl, ho', hg'⟩; have hof : ∀ j, j < w5.heap.size → (Value.slice At9 L ct9).ownBlock ≠ some j := fun j hj h => (by have := hqb j h; omega); rw [HI9.out] at ho'; have B1a := (drew_blk (B1u.alloc_ (.cells #[.string x] 9))).grownR hg' (hof _ (by have := HW5.out; omega)); have B2a := (drew_blk (B2u.alloc_ (.cells #[.string x] 9))).grownR hg' (hof _ (by have := HW5.out; omega)); have HBa := (drew_below (hb2.alloc hb2.size _)).trans (below_app (B := w.heap.size) (by have := HW5.out; omega) hzA (drew_own (q1.alloc (.cells #[.string x] 9))) hg'); have hon7 := (drew_own (hon.alloc (.cells #[.string x] 9))).kept hg' (own_apart (drew_own (hon.alloc (.cells #[.string x] 9))) (drew_own (q1.alloc (.cells #[.string x] 9))) (by decide)); have k4' := B1a.cell_ 4; simp at k4'; rw [HTT.out] at k4'; obtain ⟨A7, c7, rfl, q21, q22⟩ := own_shape ho'; have x7 := own_cellE hon7 h5 he (j := 3) rfl; have f7 := World.ownsRow.frozenAt hon7 (k * 5 + 3); have kb : (w7.setCell ⟨gn, k * 5 + 3, none⟩ (.slice A7 (L + 1) c7)).cell? ⟨w.heap.size, 4, none⟩ = some (.slice (some ⟨gn, 0, none⟩) T cn6) := (by have := (B1a.grown (set1_grown w7 gn (k * 5 + 3) (.slice A7 (L + 1) c7)) (by have := HW5.out; omega)).cell_ 4; simp at this; rw [HTT.out] at this; exact this)))
    go_wp2_with fail
    refine hK.out _ _ ?_ (fun hNew => ?_)
    · (first | with_reducible exact kd | with_reducible exact ka | with_reducible exact k4' | with_reducible exact kb)
    clear hK K hHeld
    have hHeld := hNew
    clear hNew
    try simp only [Act.put, pz1, pz2, pz3]
    refine tk 13 ⟨some 63, .indexAddr 23 (.tmp 51) (.tmp 52), 0, "note.go:54", #[⟨1, .data⟩, ⟨2, .data⟩, ⟨0, .phase⟩, ⟨1, .phase⟩, ⟨2, .phase⟩, ⟨3, .phase⟩, ⟨4, .phase⟩, ⟨5, .phase⟩, ⟨6, .phase⟩, ⟨7, .phase⟩, ⟨8, .phase⟩, ⟨9, .phase⟩, ⟨10, .phase⟩, ⟨11, .phase⟩, ⟨12, .phase⟩], none⟩ ?_; try simp only [Act.put, pz1, pz2, pz3]
    refine tk 14 ⟨some 64, .fieldAddr 49 (.tmp 63) 3, 0, "note.go:54", #[⟨13, .data⟩, ⟨0, .phase⟩, ⟨1, .phase⟩, ⟨2, .phase⟩, ⟨3, .phase⟩, ⟨4, .phase⟩, ⟨5, .phase⟩, ⟨6, .phase⟩, ⟨7, .phase⟩, ⟨8, .phase⟩, ⟨9, .phase⟩, ⟨10, .phase⟩, ⟨11, .phase⟩, ⟨12, .phase⟩], none⟩ ?_; try simp only [Act.put, pz1, pz2, pz3]
    refine wpAnyH_ready (rs := [15]) (by kernel_rfl) (by simp) ?_
    refine AllReadyH.cons (o := ⟨none, .store 46 (.tmp 64) (.tmp 62), 0, "note.go:54", #[⟨14, .data⟩, ⟨12, .data⟩, ⟨12, .chain⟩, ⟨0, .phase⟩, ⟨1, .phase⟩, ⟨2, .phase⟩, ⟨3, .phase⟩, ⟨4, .phase⟩, ⟨5, .phase⟩, ⟨6, .phase⟩, ⟨7, .phase⟩, ⟨8, .phase⟩, ⟨9, .phase⟩, ⟨10, .phase⟩, ⟨11, .phase⟩, ⟨12, .phase⟩], none⟩) rfl (fun K hK => ?_) AllReadyH.nil
    go_simp
    refine hK.out _ _ ?_ (fun hNew => ?_)
    · (first | with_reducible exact kd | with_reducible exact ka | with_reducible exact k4' | with_reducible exact kb)
    clear hK K hHeld
    have hHeld := hNew
    clear hNew
    try simp only [Act.put, pz1, pz2, pz3]
    refine wpAnyH_done (by kernel_rfl) ?_ _
    refine NoPanic.normal ?_
    have hb0 : Below Wd.heap.size Wd (Wd.alloc (.cells #[.string x] 9)).drew := drew_below ((Below.refl _ Wd).alloc (Nat.le_refl _) _)
    have hl9 : (tgIns n.tg x).length = L + 1 := by rw [tgIns_len, HLL.out]
    obtain ⟨hNw, hgw⟩ := nt_tags (xs := tgIns n.tg x) HEL.out (drew_own (HON.out.alloc (.cells #[.string x] 9))) (fun k n e a b => (hnt k n e a b).below hb0) hap HNN.out HE.out (by rw [HLL.out]; exact hg') (by rw [hl9]; exact ho')
    have B1w := B1a.grown hgw (by have := HW5.out; omega)
    have B2w := B2a.grown hgw (by have := HW5.out; omega)
    have hB7 : BksW w7 w5.heap.size (.slice Ab6 s.bs.length cb6) s.bs := World.ownsRow.kept (own_belowW hBk2 hb0) hg' (own_apart (own_belowW hBk2 hb0) (drew_own (q1.alloc (.cells #[.string x] 9))) (by decide))
    have hBw := BksW.apartN hB7 hon7 hgw
    have hbw := below_grown HBa hgw (by have := HW5.out; omega) HBa.size
    obtain ⟨Wx, hWx⟩ : ∃ V : World, V = w7.setCell ⟨gn, k * 5 + 3, none⟩ (.slice A7 (L + 1) c7) := ⟨_, rfl⟩
    rw [← hWx] at hNw B1w B2w hBw hbw ⊢
    clear hWx hgw hB7 hb0 hl9 B1a B2a HBa ho' hg' hon7 k4' x7 f7 kb hof
    have k0 := B1w.cell_ 0
    have r0 := B2w.cell_ 0
    have t0 := B2w.free 0
    have k1 := B1w.cell_ 1
    have r1 := B2w.cell_ 1
    have t1 := B2w.free 1
    have k2 := B1w.cell_ 2
    have r2 := B2w.cell_ 2
    have t2 := B2w.free 2
    have k3 := B1w.cell_ 3
    have r3 := B2w.cell_ 3
    have t3 := B2w.free 3
    have k4 := B1w.cell_ 4
    have r4 := B2w.cell_ 4
    have t4 := B2w.free 4
    simp at k0 k1 k2 k3 k4 r0 r1 r2 r3 r4
    go_wp2_with fail
    have B2e := B2w.st5_ (.int .i64 s.nb) (.int .i64 s.nn) (.int .i64 s.ns) (.slice Ab6 s.bs.length cb6) (.slice (some ⟨gn, 0, none⟩) s.ts.length cn6)
    have hgE := st5_grown Wx (w.heap.size + 1) 0 (.int .i64 s.nb) (.int .i64 s.nn) (.int .i64 s.ns) (.slice Ab6 s.bs.length cb6) (.slice (some ⟨gn, 0, none⟩) s.ts.length cn6)
    have hBe := hBw.far hgE (by have := HW5.out; omega)
    have hNe := hNw.far hgE (by have := HW5.out; omega)
    have hbe := below_grown hbw hgE (by omega) hbw.size
    change bodyPost _ _ _ _ _ (st5 Wx (w.heap.size + 1) 0 (.int .i64 s.nb) (.int .i64 s.nn) (.int .i64 s.ns) (.slice Ab6 s.bs.length cb6) (.slice (some ⟨gn, 0, none⟩) s.ts.length cn6))
    clear hgE
    generalize st5 Wx (w.heap.size + 1) 0 (.int .i64 s.nb) (.int .i64 s.nn) (.int .i64 s.ns) (.slice Ab6 s.bs.length cb6) (.slice (some ⟨gn, 0, none⟩) s.ts.length cn6) = WF at B2e hBe hNe hbe ⊢
    apply bodyPost_ret (v := .tuple #[.agg #[.int .i64 s.nb, .int .i64 s.nn, .int .i64 s.ns, .slice Ab6 s.bs.length cb6, .slice (some ⟨gn, 0, none⟩) s.ts.length cn6], .int .i64 0])
    · exact results_cell1 Tryd.results18 _ WF (w.heap.size + 1) 25 _ (0, 0) _ rfl B2e Tryd.underlying25 rfl (by kernel_rfl)
    · rfl
    · refine ⟨_, rfl, ?_, hbe⟩
      rw [HRS.out]
      exact ShW.base_ (ShW.make (s := { s with ts := s.ts.set k { n with tg := tgIns n.tg x } }) (w := WF) (base := w5.heap.size) (vb := .slice Ab6 s.bs.length cb6) (vn := .slice (some ⟨gn, 0, none⟩) s.ts.length cn6) hBe hNe) (by have := HW5.out; omega)
  · go_simp
    refine hK.out _ _ ?_ (fun hNew => ?_)
    · (first | with_reducible exact kd | with_reducible exact ka | with_reducible exact k4' | with_reducible exact kb)
    clear hK K hHeld
    have hHeld := hNew
    clear hNew
    try simp only [Act.put, pz1, pz2, pz3]
    refine wpAnyH_ready (rs := [8]) (by kernel_rfl) (by simp) ?_
    refine AllReadyH.cons (o := ⟨some 58, .load 46 (.tmp 57), 46, "note.go:54", #[⟨7, .data⟩], none⟩) rfl (fun K hK => ?_) AllReadyH.nil
    go_simp
    refine hK.out _ _ ?_ (fun hNew => ?_)
    · (first | with_reducible exact kd | with_reducible exact ka | with_reducible exact k4' | with_reducible exact kb)
    clear hK K hHeld
    have hHeld := hNew
    clear hNew
    try simp only [Act.put, pz1, pz2, pz3]
    refine wpAnyH_ready (rs := [12]) (by kernel_rfl) (by simp) ?_
    refine AllReadyH.cons (o := ⟨some 62, .call { callee := .value (.func 48), args := #[.tmp 58, .tmp 59, .tmp 61], argTypes := #[46, 3, 46] }, 46, "note.go:54", #[⟨8, .data⟩, ⟨9, .data⟩, ⟨11, .data⟩], none⟩) rfl (fun K hK => ?_) AllReadyH.nil
    go_simp
    (go_at_call 48; ((with_reducible refine (insStr _ w5.heap.size At9 L ct9 P Wd.heap.size n.tg x (drew_own (q1.alloc (.cells #[.string x] 9))) hPL hL8 (drew_blk (Blk.new_ Wd 9 #[.string x])) hqn hzA).mono ?_); rintro e' w7 ⟨v9, rfl, ho', hg'⟩; have hof : ∀ j, j < w5.heap.size → (Value.slice At9 L ct9).ownBlock ≠ some j := fun j hj h => (by have := hqb j h; omega); rw [HI9.out] at ho'; have B1a := (drew_blk (B1u.alloc_ (.cells #[.string x] 9))).grownR hg' (hof _ (by have := HW5.out; omega)); have B2a := (drew_blk (B2u.alloc_ (.cells #[.string x] 9))).grownR hg' (hof _ (by have := HW5.out; omega)); have HBa := (drew_below (hb2.alloc hb2.size _)).trans (below_app (B := w.heap.size) (by have := HW5.out; omega) hzA (drew_own (q1.alloc (.cells #[.string x] 9))) hg'); have hon7 := (drew_own (hon.alloc (.cells #[.string x] 9))).kept hg' (own_apart (drew_own (hon.alloc (.cells #[.string x] 9))) (drew_own (q1.alloc (.cells #[.string x] 9))) (by decide)); have k4' := B1a.cell_ 4; simp at k4'; rw [HTT.out] at k4'; obtain ⟨A7, c7, rfl, q21, q22⟩ := own_shape ho'; have x7 := own_cellE hon7 h5 he (j := 3) rfl; have f7 := World.ownsRow.frozenAt hon7 (k * 5 + 3); have kb : (w7.setCell ⟨gn, k * 5 + 3, none⟩ (.slice A7 (L + 1) c7)).cell? ⟨w.heap.size, 4, none⟩ = some (.slice (some ⟨gn, 0, none⟩) T cn6) := (by have := (B1a.grown (set1_grown w7 gn (k * 5 + 3) (.slice A7 (L + 1) c7)) (by have := HW5.out; omega)).cell_ 4; simp at this; rw [HTT.out] at this; exact this)))
    go_wp2_with fail
    refine hK.out _ _ ?_ (fun hNew => ?_)
    · (first | with_reducible exact kd | with_reducible exact ka | with_reducible exact k4' | with_reducible exact kb)
    clear hK K hHeld
    have hHeld := hNew
    clear hNew
    try simp only [Act.put, pz1, pz2, pz3]
    refine tk 13 ⟨some 63, .indexAddr 23 (.tmp 51) (.tmp 52), 0, "note.go:54", #[⟨1, .data⟩, ⟨2, .data⟩, ⟨0, .phase⟩, ⟨1, .phase⟩, ⟨2, .phase⟩, ⟨3, .phase⟩, ⟨4, .phase⟩, ⟨5, .phase⟩, ⟨6, .phase⟩, ⟨7, .phase⟩, ⟨8, .phase⟩, ⟨9, .phase⟩, ⟨10, .phase⟩, ⟨11, .phase⟩, ⟨12, .phase⟩], none⟩ ?_; try simp only [Act.put, pz1, pz2, pz3]
    refine tk 14 ⟨some 64, .fieldAddr 49 (.tmp 63) 3, 0, "note.go:54", #[⟨13, .data⟩, ⟨0, .phase⟩, ⟨1, .phase⟩, ⟨2, .phase⟩, ⟨3, .phase⟩, ⟨4, .phase⟩, ⟨5, .phase⟩, ⟨6, .phase⟩, ⟨7, .phase⟩, ⟨8, .phase⟩, ⟨9, .phase⟩, ⟨10, .phase⟩, ⟨11, .phase⟩, ⟨12, .phase⟩], none⟩ ?_; try simp only [Act.put, pz1, pz2, pz3]
    refine wpAnyH_ready (rs := [15]) (by kernel_rfl) (by simp) ?_
    refine AllReadyH.cons (o := ⟨none, .store 46 (.tmp 64) (.tmp 62), 0, "note.go:54", #[⟨14, .data⟩, ⟨12, .data⟩, ⟨12, .chain⟩, ⟨0, .phase⟩, ⟨1, .phase⟩, ⟨2, .phase⟩, ⟨3, .phase⟩, ⟨4, .phase⟩, ⟨5, .phase⟩, ⟨6, .phase⟩, ⟨7, .phase⟩, ⟨8, .phase⟩, ⟨9, .phase⟩, ⟨10, .phase⟩, ⟨11, .phase⟩, ⟨12, .phase⟩], none⟩) rfl (fun K hK => ?_) AllReadyH.nil
    go_simp
    refine hK.out _ _ ?_ (fun hNew => ?_)
    · (first | with_reducible exact kd | with_reducible exact ka | with_reducible exact k4' | with_reducible exact kb)
    clear hK K hHeld
    have hHeld := hNew
    clear hNew
    try simp only [Act.put, pz1, pz2, pz3]
    refine wpAnyH_done (by kernel_rfl) ?_ _
    refine NoPanic.normal ?_
    have hb0 : Below Wd.heap.size Wd (Wd.alloc (.cells #[.string x] 9)).drew := drew_below ((Below.refl _ Wd).alloc (Nat.le_refl _) _)
    have hl9 : (tgIns n.tg x).length = L + 1 := by rw [tgIns_len, HLL.out]
    obtain ⟨hNw, hgw⟩ := nt_tags (xs := tgIns n.tg x) HEL.out (drew_own (HON.out.alloc (.cells #[.string x] 9))) (fun k n e a b => (hnt k n e a b).below hb0) hap HNN.out HE.out (by rw [HLL.out]; exact hg') (by rw [hl9]; exact ho')
    have B1w := B1a.grown hgw (by have := HW5.out; omega)
    have B2w := B2a.grown hgw (by have := HW5.out; omega)
    have hB7 : BksW w7 w5.heap.size (.slice Ab6 s.bs.length cb6) s.bs := World.ownsRow.kept (own_belowW hBk2 hb0) hg' (own_apart (own_belowW hBk2 hb0) (drew_own (q1.alloc (.cells #[.string x] 9))) (by decide))
    have hBw := BksW.apartN hB7 hon7 hgw
    have hbw := below_grown HBa hgw (by have := HW5.out; omega) HBa.size
    obtain ⟨Wx, hWx⟩ : ∃ V : World, V = w7.setCell ⟨gn, k * 5 + 3, none⟩ (.slice A7 (L + 1) c7) := ⟨_, rfl⟩
    rw [← hWx] at hNw B1w B2w hBw hbw ⊢
    clear hWx hgw hB7 hb0 hl9 B1a B2a HBa ho' hg' hon7 k4' x7 f7 kb hof
    have k0 := B1w.cell_ 0
    have r0 := B2w.cell_ 0
    have t0 := B2w.free 0
    have k1 := B1w.cell_ 1
    have r1 := B2w.cell_ 1
    have t1 := B2w.free 1
    have k2 := B1w.cell_ 2
    have r2 := B2w.cell_ 2
    have t2 := B2w.free 2
    have k3 := B1w.cell_ 3
    have r3 := B2w.cell_ 3
    have t3 := B2w.free 3
    have k4 := B1w.cell_ 4
    have r4 := B2w.cell_ 4
    have t4 := B2w.free 4
    simp at k0 k1 k2 k3 k4 r0 r1 r2 r3 r4
    go_wp2_with fail
    have B2e := B2w.st5_ (.int .i64 s.nb) (.int .i64 s.nn) (.int .i64 s.ns) (.slice Ab6 s.bs.length cb6) (.slice (some ⟨gn, 0, none⟩) s.ts.length cn6)
    have hgE := st5_grown Wx (w.heap.size + 1) 0 (.int .i64 s.nb) (.int .i64 s.nn) (.int .i64 s.ns) (.slice Ab6 s.bs.length cb6) (.slice (some ⟨gn, 0, none⟩) s.ts.length cn6)
    have hBe := hBw.far hgE (by have := HW5.out; omega)
    have hNe := hNw.far hgE (by have := HW5.out; omega)
    have hbe := below_grown hbw hgE (by omega) hbw.size
    change bodyPost _ _ _ _ _ (st5 Wx (w.heap.size + 1) 0 (.int .i64 s.nb) (.int .i64 s.nn) (.int .i64 s.ns) (.slice Ab6 s.bs.length cb6) (.slice (some ⟨gn, 0, none⟩) s.ts.length cn6))
    clear hgE
    generalize st5 Wx (w.heap.size + 1) 0 (.int .i64 s.nb) (.int .i64 s.nn) (.int .i64 s.ns) (.slice Ab6 s.bs.length cb6) (.slice (some ⟨gn, 0, none⟩) s.ts.length cn6) = WF at B2e hBe hNe hbe ⊢
    apply bodyPost_ret (v := .tuple #[.agg #[.int .i64 s.nb, .int .i64 s.nn, .int .i64 s.ns, .slice Ab6 s.bs.length cb6, .slice (some ⟨gn, 0, none⟩) s.ts.length cn6], .int .i64 0])
    · exact results_cell1 Tryd.results18 _ WF (w.heap.size + 1) 25 _ (0, 0) _ rfl B2e Tryd.underlying25 rfl (by kernel_rfl)
    · rfl
    · refine ⟨_, rfl, ?_, hbe⟩
      rw [HRS.out]
      exact ShW.base_ (ShW.make (s := { s with ts := s.ts.set k { n with tg := tgIns n.tg x } }) (w := WF) (base := w5.heap.size) (vb := .slice Ab6 s.bs.length cb6) (vn := .slice (some ⟨gn, 0, none⟩) s.ts.length cn6) hBe hNe) (by have := HW5.out; omega)
end Go.Proofs.YtkaoechjekffmaaDoor
namespace Go.Proofs.YtkaoechjekffmaaDoor
open Go.ChangeShapes Go.WideShapes Go.ChangeAt Go.RowKit
attribute [local go_sem ↓] Go.wp_at_zero Go.wp_at_succ
theorem ShW.out {w : World} {base : Nat} {v : Value} {s : Sf} (h : ShW w base v s) : ∃ (A1 : Option Addr) (c1 : Nat) (A2 : Option Addr) (c2 : Nat), v = .agg #[.int .i64 s.nb, .int .i64 s.nn, .int .i64 s.ns, .slice A1 s.bs.length c1, .slice A2 s.ts.length c2] ∧ ShR w w.heap.size (.agg #[.int .i64 s.nb, .int .i64 s.nn, .int .i64 s.ns, .slice A1 s.bs.length c1, .slice A2 s.ts.length c2]) s := by
  have h2 := h.toR
  obtain ⟨A1, c1, A2, c2, rfl, -⟩ := h.parts
  exact ⟨A1, c1, A2, c2, rfl, h2⟩
theorem shtC_cases {s : Sf} {y : Int} {i : Nat} (h : shtC s y (i : Int) = 0) : ∃ k n, FdF s y k n ∧ ntOf s y = n ∧ i < n.sh.length := by
  have hf : findC s y = 0 := by
    unfold shtC at h
    by_cases h1 : findC s y = 0
    · exact h1
    · have h2 : (findC s y == 0) = false := by simpa using h1
      rw [h2] at h
      exact absurd h h1
  obtain ⟨k, n, hF⟩ := fdF_of hf
  refine ⟨k, n, hF, hF.of_, ?_⟩
  unfold shtC at h
  rw [hf, hF.of_] at h
  rcases Nat.lt_or_ge i n.sh.length with h1 | h1
  · exact h1
  · have h2 : decide ((n.sh.length : Int) ≤ (i : Int)) = true := decide_eq_true (by omega)
    rw [h2, Bool.or_true] at h
    cases h
theorem nrem_of (s : Sf) (v : Value) (y : Int) (i : Nat) (x : Int) (w : World) (hS : ShR w w.heap.size v s) (hT : Tabs w) (hc : shtC s y (i : Int) = 0) (hx : (ntOf s y).sh[i]? = some x) : Calls Tryd.prog 22 #[v, .int .i64 y, .int .i64 (i : Int)] w fun e' w' => ∃ v', e' = .returned (.tuple #[v', .int .i64 x, .int .i64 0]) ∧ ShW w' w.heap.size v' (remS s y (i : Int)) ∧ Below w.heap.size w w' := by
  obtain ⟨k, n, hF, hn, hi⟩ := shtC_cases hc
  rw [hn] at hx
  exact nrem_yes s v y w hS hT k n hF i x hx
theorem nsheet_go (s : Sf) (v : Value) (y : Int) (i : Nat) (x : Int) (w : World) (hS : ShR w w.heap.size v s) (hT : Tabs w) (hc : shtC s y (i : Int) = 0) (hx : (ntOf s y).sh[i]? = some x) : Calls Tryd.prog 12 #[v, .int .i64 y, .int .i64 (i : Int)] w fun e' w' => e' = .returned (.tuple #[.int .i64 x, .int .i64 0]) ∧ Below w.heap.size w w' := by
  obtain ⟨k, n, hF, hn, hi⟩ := shtC_cases hc
  rw [hn] at hx
  exact nsheet_yes s v y w hS hT k n hF i x hx
theorem napp_go (s : Sf) (v : Value) (y : Int) (w : World) (hS : ShR w w.heap.size v s) (hT : Tabs w) (hc : appC s y = 0) (q : Sf) (hq : appS s y = q) :
    Calls Tryd.prog 21 #[v, .int .i64 y] w fun e' w' => ∃ A1 c1 A2 c2, e' = .returned (.tuple #[.agg #[.int .i64 q.nb, .int .i64 q.nn, .int .i64 q.ns, .slice A1 q.bs.length c1, .slice A2 q.ts.length c2], .int .i64 s.ns, .int .i64 0]) ∧ ShR w' w'.heap.size (.agg #[.int .i64 q.nb, .int .i64 q.nn, .int .i64 q.ns, .slice A1 q.bs.length c1, .slice A2 q.ts.length c2]) q ∧ Below w.heap.size w w' := by
  subst hq
  refine (napp_yes s v y w hS hT hc).mono ?_
  rintro e' w' ⟨v', rfl, h1, h2⟩
  obtain ⟨A1, c1, A2, c2, rfl, h3⟩ := h1.out
  exact ⟨A1, c1, A2, c2, rfl, h3, h2⟩
theorem nrem_go (s : Sf) (v : Value) (y : Int) (i : Nat) (x : Int) (w : World) (hS : ShR w w.heap.size v s) (hT : Tabs w) (hc : shtC s y (i : Int) = 0) (hx : (ntOf s y).sh[i]? = some x) (q : Sf) (hq : remS s y (i : Int) = q) :
    Calls Tryd.prog 22 #[v, .int .i64 y, .int .i64 (i : Int)] w fun e' w' => ∃ A1 c1 A2 c2, e' = .returned (.tuple #[.agg #[.int .i64 q.nb, .int .i64 q.nn, .int .i64 q.ns, .slice A1 q.bs.length c1, .slice A2 q.ts.length c2], .int .i64 x, .int .i64 0]) ∧ ShR w' w'.heap.size (.agg #[.int .i64 q.nb, .int .i64 q.nn, .int .i64 q.ns, .slice A1 q.bs.length c1, .slice A2 q.ts.length c2]) q ∧ Below w.heap.size w w' := by
  subst hq
  refine (nrem_of s v y i x w hS hT hc hx).mono ?_
  rintro e' w' ⟨v', rfl, h1, h2⟩
  obtain ⟨A1, c1, A2, c2, rfl, h3⟩ := h1.out
  exact ⟨A1, c1, A2, c2, rfl, h3, h2⟩
theorem ntag_go (s : Sf) (v : Value) (y : Int) (x : ByteArray) (w : World) (hS : ShR w w.heap.size v s) (hT : Tabs w) (hc : tagC s y x = 0) (q : Sf) (hq : tagS s y x = q) :
    Calls Tryd.prog 18 #[v, .int .i64 y, .string x] w fun e' w' => ∃ A1 c1 A2 c2, e' = .returned (.tuple #[.agg #[.int .i64 q.nb, .int .i64 q.nn, .int .i64 q.ns, .slice A1 q.bs.length c1, .slice A2 q.ts.length c2], .int .i64 0]) ∧ ShR w' w'.heap.size (.agg #[.int .i64 q.nb, .int .i64 q.nn, .int .i64 q.ns, .slice A1 q.bs.length c1, .slice A2 q.ts.length c2]) q ∧ Below w.heap.size w w' := by
  subst hq
  refine (ntag_yes s v y x w hS hT hc).mono ?_
  rintro e' w' ⟨v', rfl, h1, h2⟩
  obtain ⟨A1, c1, A2, c2, rfl, h3⟩ := h1.out
  exact ⟨A1, c1, A2, c2, rfl, h3, h2⟩
def sN : ByteArray := ⟨#[110]⟩
def sBb : ByteArray := ⟨#[98]⟩
def sX : ByteArray := ⟨#[120]⟩
def sfO : Sf := ⟨2, 2, 1, [⟨1, sBb⟩], [⟨1, 1, sN, [], []⟩]⟩
def ntO : Nt := ⟨1, 1, sN, [], []⟩
theorem one_any (w : World) :
    Calls Tryd.prog 26 #[] w fun e' w' => ∃ A1 c1 A2 c2, e' = .returned (.agg #[.int .i64 sfO.nb, .int .i64 sfO.nn, .int .i64 sfO.ns, .slice A1 sfO.bs.length c1, .slice A2 sfO.ts.length c2]) ∧ ShR w' w'.heap.size (.agg #[.int .i64 sfO.nb, .int .i64 sfO.nn, .int .i64 sfO.ns, .slice A1 sfO.bs.length c1, .slice A2 sfO.ts.length c2]) sfO ∧ Below w.heap.size w w' := by
  have B0 : Blk (((w.alloc (.cells #[.int .i64 2, .int .i64 2, .int .i64 1, .slice (some ⟨w.heap.size + 1, 0, none⟩) 1 1, .slice (some ⟨w.heap.size + 2, 0, none⟩) 1 1] 25)).alloc (.cells #[.int .i64 1, .string ⟨#[98]⟩] 61)).alloc (.cells #[.int .i64 1, .int .i64 1, .string ⟨#[110]⟩, .slice none 0 0, .slice none 0 0] 49)) w.heap.size 25 #[.int .i64 2, .int .i64 2, .int .i64 1, .slice (some ⟨w.heap.size + 1, 0, none⟩) 1 1, .slice (some ⟨w.heap.size + 2, 0, none⟩) 1 1] := ((Blk.new_ w 25 #[.int .i64 2, .int .i64 2, .int .i64 1, .slice (some ⟨w.heap.size + 1, 0, none⟩) 1 1, .slice (some ⟨w.heap.size + 2, 0, none⟩) 1 1]).alloc_ _).alloc_ _
  have hb0 : Below w.heap.size w (((w.alloc (.cells #[.int .i64 2, .int .i64 2, .int .i64 1, .slice (some ⟨w.heap.size + 1, 0, none⟩) 1 1, .slice (some ⟨w.heap.size + 2, 0, none⟩) 1 1] 25)).alloc (.cells #[.int .i64 1, .string ⟨#[98]⟩] 61)).alloc (.cells #[.int .i64 1, .int .i64 1, .string ⟨#[110]⟩, .slice none 0 0, .slice none 0 0] 49)) := (((Below.refl w.heap.size w).alloc (Nat.le_refl _) _).alloc (by first | (simp; done) | (simp; omega)) _).alloc (by first | (simp; done) | (simp; omega)) _
  have hs1 : (w.alloc (.cells #[.int .i64 2, .int .i64 2, .int .i64 1, .slice (some ⟨w.heap.size + 1, 0, none⟩) 1 1, .slice (some ⟨w.heap.size + 2, 0, none⟩) 1 1] 25)).heap.size = w.heap.size + 1 := by simp
  have hs2 : ((w.alloc (.cells #[.int .i64 2, .int .i64 2, .int .i64 1, .slice (some ⟨w.heap.size + 1, 0, none⟩) 1 1, .slice (some ⟨w.heap.size + 2, 0, none⟩) 1 1] 25)).alloc (.cells #[.int .i64 1, .string ⟨#[98]⟩] 61)).heap.size = w.heap.size + 2 := by simp
  have hBk : BksW (((w.alloc (.cells #[.int .i64 2, .int .i64 2, .int .i64 1, .slice (some ⟨w.heap.size + 1, 0, none⟩) 1 1, .slice (some ⟨w.heap.size + 2, 0, none⟩) 1 1] 25)).alloc (.cells #[.int .i64 1, .string ⟨#[98]⟩] 61)).alloc (.cells #[.int .i64 1, .int .i64 1, .string ⟨#[110]⟩, .slice none 0 0, .slice none 0 0] 49)) (w.heap.size + 1) (.slice (some ⟨w.heap.size + 1, 0, none⟩) 1 1) sfO.bs := by
    have h := (World.ownsRow_lit (base := w.heap.size + 1) (e := 61) (size := 2) (w.alloc (.cells #[.int .i64 2, .int .i64 2, .int .i64 1, .slice (some ⟨w.heap.size + 1, 0, none⟩) 1 1, .slice (some ⟨w.heap.size + 2, 0, none⟩) 1 1] 25)) #[.int .i64 1, .string ⟨#[98]⟩] 1 (by rw [hs1]; omega) (by unfold maxLen; omega) rfl).alloc (.cells #[.int .i64 1, .int .i64 1, .string ⟨#[110]⟩, .slice none 0 0, .slice none 0 0] 49)
    rw [hs1] at h
    exact h
  have hNt : NtsW (((w.alloc (.cells #[.int .i64 2, .int .i64 2, .int .i64 1, .slice (some ⟨w.heap.size + 1, 0, none⟩) 1 1, .slice (some ⟨w.heap.size + 2, 0, none⟩) 1 1] 25)).alloc (.cells #[.int .i64 1, .string ⟨#[98]⟩] 61)).alloc (.cells #[.int .i64 1, .int .i64 1, .string ⟨#[110]⟩, .slice none 0 0, .slice none 0 0] 49)) (w.heap.size + 1) (.slice (some ⟨w.heap.size + 2, 0, none⟩) 1 1) sfO.ts := by
    have h := World.ownsRow_lit (base := w.heap.size + 1) (e := 49) (size := 5) ((w.alloc (.cells #[.int .i64 2, .int .i64 2, .int .i64 1, .slice (some ⟨w.heap.size + 1, 0, none⟩) 1 1, .slice (some ⟨w.heap.size + 2, 0, none⟩) 1 1] 25)).alloc (.cells #[.int .i64 1, .string ⟨#[98]⟩] 61)) #[.int .i64 1, .int .i64 1, .string ⟨#[110]⟩, .slice none 0 0, .slice none 0 0] 1 (by rw [hs2]; omega) (by unfold maxLen; omega) rfl
    rw [hs2] at h
    refine ⟨[ntC ntO (.slice none 0 0) (.slice none 0 0)], rfl, h, fun k n e a b => ?_⟩
    cases k with
    | zero =>
      cases a
      cases b
      exact ⟨_, _, rfl, World.ownsRow_nil _ _ _ _, World.ownsRow_nil _ _ _ _⟩
    | succ k => simp [sfO] at a
  go_enter Tryd.func26, Tryd.ntmps26
  go_wp2_with fail
  have hW := ShW.make (s := sfO) hBk hNt
  change bodyPost _ _ _ _ _ (((w.alloc (.cells #[.int .i64 2, .int .i64 2, .int .i64 1, .slice (some ⟨w.heap.size + 1, 0, none⟩) 1 1, .slice (some ⟨w.heap.size + 2, 0, none⟩) 1 1] 25)).alloc (.cells #[.int .i64 1, .string ⟨#[98]⟩] 61)).alloc (.cells #[.int .i64 1, .int .i64 1, .string ⟨#[110]⟩, .slice none 0 0, .slice none 0 0] 49))
  generalize (((w.alloc (.cells #[.int .i64 2, .int .i64 2, .int .i64 1, .slice (some ⟨w.heap.size + 1, 0, none⟩) 1 1, .slice (some ⟨w.heap.size + 2, 0, none⟩) 1 1] 25)).alloc (.cells #[.int .i64 1, .string ⟨#[98]⟩] 61)).alloc (.cells #[.int .i64 1, .int .i64 1, .string ⟨#[110]⟩, .slice none 0 0, .slice none 0 0] 49)) = WF at B0 hW hb0 ⊢
  apply bodyPost_ret (v := .agg #[.int .i64 2, .int .i64 2, .int .i64 1, .slice (some ⟨w.heap.size + 1, 0, none⟩) 1 1, .slice (some ⟨w.heap.size + 2, 0, none⟩) 1 1])
  · exact results_cell_row Tryd.results26 _ WF w.heap.size 25 _ (0, 0) _ rfl B0 Tryd.underlying25 rfl (by kernel_rfl)
  · rfl
  · exact ⟨_, _, _, _, rfl, hW.toR, hb0⟩
def sq1 : Sf := ⟨2, 2, 2, [⟨1, sBb⟩], [⟨1, 1, sN, [], [1]⟩]⟩
def sq2 : Sf := ⟨2, 2, 3, [⟨1, sBb⟩], [⟨1, 1, sN, [], [1, 2]⟩]⟩
def sq3 : Sf := ⟨2, 2, 3, [⟨1, sBb⟩], [⟨1, 1, sN, [], [2]⟩]⟩
def sqT : Sf := ⟨2, 2, 1, [⟨1, sBb⟩], [⟨1, 1, sN, [sX], []⟩]⟩
theorem aw1 (v : Value) (w : World) (hS : ShR w w.heap.size v sfO) (hT : Tabs w) :
    Calls Tryd.prog 21 #[v, .int .i64 1] w fun e' w' => ∃ A1 c1 A2 c2, e' = .returned (.tuple #[.agg #[.int .i64 2, .int .i64 2, .int .i64 2, .slice A1 1 c1, .slice A2 1 c2], .int .i64 1, .int .i64 0]) ∧ ShR w' w'.heap.size (.agg #[.int .i64 2, .int .i64 2, .int .i64 2, .slice A1 1 c1, .slice A2 1 c2]) sq1 ∧ Below w.heap.size w w' := napp_go sfO v 1 w hS hT (by decide +kernel) sq1 (by kernel_rfl)
theorem aw2 (v : Value) (w : World) (hS : ShR w w.heap.size v sq1) (hT : Tabs w) :
    Calls Tryd.prog 21 #[v, .int .i64 1] w fun e' w' => ∃ A1 c1 A2 c2, e' = .returned (.tuple #[.agg #[.int .i64 2, .int .i64 2, .int .i64 3, .slice A1 1 c1, .slice A2 1 c2], .int .i64 2, .int .i64 0]) ∧ ShR w' w'.heap.size (.agg #[.int .i64 2, .int .i64 2, .int .i64 3, .slice A1 1 c1, .slice A2 1 c2]) sq2 ∧ Below w.heap.size w w' := napp_go sq1 v 1 w hS hT (by decide +kernel) sq2 (by kernel_rfl)
theorem aw3 (v : Value) (w : World) (hS : ShR w w.heap.size v sq2) (hT : Tabs w) :
    Calls Tryd.prog 22 #[v, .int .i64 1, .int .i64 0] w fun e' w' => ∃ A1 c1 A2 c2, e' = .returned (.tuple #[.agg #[.int .i64 2, .int .i64 2, .int .i64 3, .slice A1 1 c1, .slice A2 1 c2], .int .i64 1, .int .i64 0]) ∧ ShR w' w'.heap.size (.agg #[.int .i64 2, .int .i64 2, .int .i64 3, .slice A1 1 c1, .slice A2 1 c2]) sq3 ∧ Below w.heap.size w w' := nrem_go sq2 v 1 0 1 w hS hT (by decide +kernel) (by decide +kernel) sq3 (by kernel_rfl)
theorem aw4 (v : Value) (w : World) (hS : ShR w w.heap.size v sq3) (hT : Tabs w) :
    Calls Tryd.prog 12 #[v, .int .i64 1, .int .i64 0] w fun e' w' => e' = .returned (.tuple #[.int .i64 2, .int .i64 0]) ∧ Below w.heap.size w w' := nsheet_go sq3 v 1 0 2 w hS hT (by decide +kernel) (by decide +kernel)
theorem aw5 (v : Value) (w : World) (hS : ShR w w.heap.size v sfO) (hT : Tabs w) :
    Calls Tryd.prog 18 #[v, .int .i64 1, .string ⟨#[120]⟩] w fun e' w' => ∃ A1 c1 A2 c2, e' = .returned (.tuple #[.agg #[.int .i64 2, .int .i64 2, .int .i64 1, .slice A1 1 c1, .slice A2 1 c2], .int .i64 0]) ∧ ShR w' w'.heap.size (.agg #[.int .i64 2, .int .i64 2, .int .i64 1, .slice A1 1 c1, .slice A2 1 c2]) sqT ∧ Below w.heap.size w w' := ntag_go sfO v 1 sX w hS hT (by decide +kernel) sqT (by kernel_rfl)
theorem one_lit (w : World) :
    Calls Tryd.prog 26 #[] w fun e' w' => ∃ A1 c1 A2 c2, e' = .returned (.agg #[.int .i64 2, .int .i64 2, .int .i64 1, .slice A1 1 c1, .slice A2 1 c2]) ∧ ShR w' w'.heap.size (.agg #[.int .i64 2, .int .i64 2, .int .i64 1, .slice A1 1 c1, .slice A2 1 c2]) sfO ∧ Below w.heap.size w w' := one_any w
theorem tag_row {w : World} {a b c : Int} {A B : Option Addr} {ca cb : Nat} (h : ShR w w.heap.size (.agg #[.int .i64 a, .int .i64 b, .int .i64 c, .slice A 1 ca, .slice B 1 cb]) sqT) : ∃ b1 o1 At ct, B = some ⟨b1, o1, none⟩ ∧ b1 < w.heap.size ∧ w.cell? ⟨b1, o1 + 3, none⟩ = some (.slice At 1 ct) ∧ Sl w w.heap.size At ([sX].map strV) := by
  obtain ⟨Ab, cb', An, cn, he, hB, hN, _⟩ := h.ex
  obtain ⟨es, hel, hse, hnt⟩ := hN.ex
  have hel1 : es.length = 1 := hel
  obtain ⟨e0, he0⟩ : ∃ e, es[0]? = some e := ⟨_, List.getElem?_eq_getElem (by omega)⟩
  obtain ⟨At, ct, As, cs, rfl, hAt, -⟩ := (hnt 0 ⟨1, 1, sN, [sX], []⟩ e0 rfl he0).ex
  obtain ⟨b1, o1, rfl, l1, q1⟩ := hse.at_ (by omega)
  have hAn : B = some ⟨b1, o1, none⟩ := by
    injection he with he
    have h4 := congrArg (fun x : Array Value => x[4]?) he
    simp at h4
    exact h4.1
  have y3 := q1 0 _ he0 3 _ rfl
  rw [Nat.zero_mul, Nat.add_zero] at y3
  exact ⟨b1, o1, At, ct, hAn, l1, y3, hAt⟩
theorem aw6 (A B : Option Addr) (c d : Nat) (w : World) (h1 : Sl w w.heap.size A ([sX].map strV)) (h2 : Sl w w.heap.size B ([sX].map strV)) : Calls Tryd.prog 27 #[.slice A 1 c, .slice B 1 d] w fun e' w' => e' = .returned (.bool true) ∧ Below w.heap.size w w' := sameTexts_yes [sX] A B c d w (by decide) h1 h2
theorem sl_one (w : World) (x : ByteArray) : Sl (w.alloc (.cells #[.string x] 9)) (w.alloc (.cells #[.string x] 9)).heap.size (some ⟨w.heap.size, 0, none⟩) ([x].map strV) := by
  refine Or.inr ⟨w.heap.size, 0, rfl, by simp, fun j u hj => ?_⟩
  cases j with
  | zero =>
    rw [Joins.cell_of_block (heap_alloc_new w _)]
    simp at hj
    rw [← hj]
    rfl
  | succ j => simp at hj
theorem aw7 (A : Option Addr) (c b : Nat) (w : World) (hb : b = w.heap.size) (h1 : Sl w w.heap.size A ([sX].map strV)) : Calls Tryd.prog 27 #[.slice A 1 c, .slice (some ⟨b, 0, none⟩) 1 1] (w.alloc (.cells #[.string ⟨#[120]⟩] 9)) fun e' w' => e' = .returned (.bool true) ∧ Below (w.alloc (.cells #[.string ⟨#[120]⟩] 9)).heap.size (w.alloc (.cells #[.string ⟨#[120]⟩] 9)) w' := by
  subst hb
  exact aw6 _ _ _ _ _ (h1.next ((Below.refl _ _).alloc (Nat.le_refl _) _)) (sl_one w sX)
theorem awake_any (w : World) (hT : Tabs w) :
    Calls Tryd.prog 9 #[] w fun e' w' => e' = .returned (.bool true) ∧ Below w.heap.size w w' := by
  have HB : Below w.heap.size w w := Below.refl _ _
  have T1 := hT
  clear hT
  go_enter Tryd.func9, Tryd.ntmps9
  go_wp2_with (first | (go_at_call 26; ((with_reducible refine (one_lit _).mono ?_); rintro e' w1 ⟨A1, c1, A2, c2, rfl, S0, bx⟩; have T1 := T1.next bx; have HB := btr HB HB.size bx; clear bx)) | (go_at_call 21; ((with_reducible refine (aw1 _ _ S0 T1).mono ?_); rintro e' w2 ⟨A3, c3, A4, c4, rfl, hN, bx⟩; have AL : Below w2.heap.size w2 (w2.alloc (.cells #[.int .i64 2, .int .i64 2, .int .i64 2, .slice A3 1 c3, .slice A4 1 c4] 25)) := (Below.refl _ _).alloc (Nat.le_refl _) _; have BX : Blk (w2.alloc (.cells #[.int .i64 2, .int .i64 2, .int .i64 2, .slice A3 1 c3, .slice A4 1 c4] 25)) w2.heap.size 25 #[.int .i64 2, .int .i64 2, .int .i64 2, .slice A3 1 c3, .slice A4 1 c4] := Blk.new_ w2 25 #[.int .i64 2, .int .i64 2, .int .i64 2, .slice A3 1 c3, .slice A4 1 c4]; have T1 := (T1.next bx).next AL; have HB := btr (btr HB HB.size bx) (btr HB HB.size bx).size AL; have S1 := hN.next AL; (try clear k0 k1 k2 k3 k4); have k0 := BX.cell_ 0; have k1 := BX.cell_ 1; have k2 := BX.cell_ 2; have k3 := BX.cell_ 3; have k4 := BX.cell_ 4; simp at k0 k1 k2 k3 k4; clear bx AL hN)) | (go_at_call 21; ((with_reducible refine (aw2 _ _ S1 T1).mono ?_); rintro e' w3 ⟨A5, c5, A6, c6, rfl, hN, bx⟩; have AL : Below w3.heap.size w3 (w3.alloc (.cells #[.int .i64 2, .int .i64 2, .int .i64 3, .slice A5 1 c5, .slice A6 1 c6] 25)) := (Below.refl _ _).alloc (Nat.le_refl _) _; have BX : Blk (w3.alloc (.cells #[.int .i64 2, .int .i64 2, .int .i64 3, .slice A5 1 c5, .slice A6 1 c6] 25)) w3.heap.size 25 #[.int .i64 2, .int .i64 2, .int .i64 3, .slice A5 1 c5, .slice A6 1 c6] := Blk.new_ w3 25 #[.int .i64 2, .int .i64 2, .int .i64 3, .slice A5 1 c5, .slice A6 1 c6]; have T1 := (T1.next bx).next AL; have HB := btr (btr HB HB.size bx) (btr HB HB.size bx).size AL; have S1 := hN.next AL; (try clear k0 k1 k2 k3 k4); have k0 := BX.cell_ 0; have k1 := BX.cell_ 1; have k2 := BX.cell_ 2; have k3 := BX.cell_ 3; have k4 := BX.cell_ 4; simp at k0 k1 k2 k3 k4; clear bx AL hN)) | (go_at_call 22; ((with_reducible refine (aw3 _ _ S1 T1).mono ?_); rintro e' w4 ⟨A7, c7, A8, c8, rfl, hN, bx⟩; have AL : Below w4.heap.size w4 (w4.alloc (.cells #[.int .i64 2, .int .i64 2, .int .i64 3, .slice A7 1 c7, .slice A8 1 c8] 25)) := (Below.refl _ _).alloc (Nat.le_refl _) _; have BX : Blk (w4.alloc (.cells #[.int .i64 2, .int .i64 2, .int .i64 3, .slice A7 1 c7, .slice A8 1 c8] 25)) w4.heap.size 25 #[.int .i64 2, .int .i64 2, .int .i64 3, .slice A7 1 c7, .slice A8 1 c8] := Blk.new_ w4 25 #[.int .i64 2, .int .i64 2, .int .i64 3, .slice A7 1 c7, .slice A8 1 c8]; have T1 := (T1.next bx).next AL; have HB := btr (btr HB HB.size bx) (btr HB HB.size bx).size AL; have S1 := hN.next AL; (try clear k0 k1 k2 k3 k4); have k0 := BX.cell_ 0; have k1 := BX.cell_ 1; have k2 := BX.cell_ 2; have k3 := BX.cell_ 3; have k4 := BX.cell_ 4; simp at k0 k1 k2 k3 k4; clear bx AL hN)) | (go_at_call 12; ((with_reducible refine (aw4 _ _ S1 T1).mono ?_); rintro e' w5 ⟨rfl, bx⟩; have T1 := T1.next bx; have HB := btr HB HB.size bx; clear bx S1; clear k0 k1 k2 k3 k4)) | (go_at_call 18; ((with_reducible refine (aw5 _ _ S0 T1).mono ?_); rintro e' w6 ⟨A9, c9, A10, c10, rfl, hN, bx⟩; have AL : Below w6.heap.size w6 (w6.alloc (.cells #[.int .i64 2, .int .i64 2, .int .i64 1, .slice A9 1 c9, .slice A10 1 c10] 25)) := (Below.refl _ _).alloc (Nat.le_refl _) _; have BX : Blk (w6.alloc (.cells #[.int .i64 2, .int .i64 2, .int .i64 1, .slice A9 1 c9, .slice A10 1 c10] 25)) w6.heap.size 25 #[.int .i64 2, .int .i64 2, .int .i64 1, .slice A9 1 c9, .slice A10 1 c10] := Blk.new_ w6 25 #[.int .i64 2, .int .i64 2, .int .i64 1, .slice A9 1 c9, .slice A10 1 c10]; have T1 := (T1.next bx).next AL; have HB := btr (btr HB HB.size bx) (btr HB HB.size bx).size AL; have S1 := hN.next AL; (try clear k0 k1 k2 k3 k4); have k0 := BX.cell_ 0; have k1 := BX.cell_ 1; have k2 := BX.cell_ 2; have k3 := BX.cell_ 3; have k4 := BX.cell_ 4; simp at k0 k1 k2 k3 k4; clear bx AL hN; obtain ⟨b1, o1, At, ct, rfl, SB, y3, TG⟩ := tag_row S1)) | (go_at_call 27; ((with_reducible refine (aw7 _ ct _ _ (by simp) TG).mono ?_); rintro e' w7 ⟨rfl, bx⟩; have HB := btr (HB.alloc HB.size _) (HB.alloc HB.size _).size bx)))
  go_ret
  exact ⟨rfl, HB⟩
end Go.Proofs.YtkaoechjekffmaaDoor
namespace Go.Proofs.YtkaoechjekffmaaDoor
open Go.ChangeShapes Go.WideShapes Go.ChangeAt Go.RowKit
attribute [local go_sem ↓] Go.wp_at_zero Go.wp_at_succ
theorem tord_inj {l : List Nt} (h : l.Pairwise fun a b => a.id < b.id) {i j : Nat} {a b : Nt} (h1 : l[i]? = some a) (h2 : l[j]? = some b) (he : a.id = b.id) : i = j := by
  rw [List.pairwise_iff_getElem] at h
  obtain ⟨l1, e1⟩ := List.getElem?_eq_some_iff.1 h1
  obtain ⟨l2, e2⟩ := List.getElem?_eq_some_iff.1 h2
  rcases Nat.lt_trichotomy i j with h3 | h3 | h3
  · have := h i j l1 l2 h3
    rw [e1, e2] at this
    omega
  · exact h3
  · have := h j i l2 l1 h3
    rw [e1, e2] at this
    omega
theorem noteAt_ix {s : Sf} (hF : MayF s) {k : Nat} {m : Nt} (h : s.ts[k]? = some m) : noteAt s m.id = (k : Int) := by
  obtain ⟨k2, h1, h2⟩ := noteAt_of hF (List.mem_of_getElem? h)
  rw [h1, tord_inj hF.tord h2 h rfl]
structure RemF (s q : Sf) (y : Int) (kn : Nat) (n : Nt) (j : Nat) : Prop where
  c : shtC s y (j : Int) = 0
  at_ : ∀ x, n.sh[j]? = some x → (ntOf s y).sh[j]? = some x
  may : mayS q = true
  low : ∀ (k : Nat) (x : Int), k < j → n.sh[k]? = some x → shtC q y (k : Int) = 0 ∧ (ntOf q y).sh[k]? = some x
  high : ∀ (k : Nat) (x : Int), j ≤ k → n.sh[k + 1]? = some x → shtC q y (k : Int) = 0 ∧ (ntOf q y).sh[k]? = some x
  end_ : shtC q y ((n.sh.length : Int) - 1) = 2
  note : ∀ (k : Nat) (m : Nt), s.ts[k]? = some m → noteAt q m.id = (k : Int) ∧ ∃ m2, q.ts[k]? = some m2 ∧ (m.id ≠ y → m2 = m) ∧ m2.tg.length ≤ 100000 ∧ m2.sh.length ≤ 100000
theorem remF_of {s : Sf} {y : Int} {k : Nat} {n : Nt} {j : Nat} (h : FdF s y k n) (hj : j < n.sh.length) : RemF s (remS s y (j : Int)) y k n j := by
  have hm := rem_may (i := (j : Int)) h
  have e := remS_eq (i := (j : Int)) h
  rw [Int.toNat_natCast] at e
  have hf2 : FdF (remS s y (j : Int)) y k { n with sh := n.sh.eraseIdx j } := by
    rw [e] at hm ⊢
    exact h.again s.ns rfl hm
  have hlen : (n.sh.eraseIdx j).length = n.sh.length - 1 := by rw [List.length_eraseIdx, if_pos hj]
  have hlt := (List.getElem?_eq_some_iff.1 h.nt).1
  refine ⟨(sht_at h).2 ⟨by omega, by omega⟩, fun x hx => by rw [h.of_]; exact hx, mayS_conv hm, fun i x h1 h2 => ⟨(sht_at hf2).2 ⟨by omega, ?_⟩, ?_⟩, fun i x h1 h2 => ⟨(sht_at hf2).2 ⟨by omega, ?_⟩, ?_⟩, ?_, fun i m h1 => ?_⟩
  · show (i : Int) < ((n.sh.eraseIdx j).length : Int)
    rw [hlen]
    omega
  · rw [hf2.of_]
    show (n.sh.eraseIdx j)[i]? = some x
    rw [List.getElem?_eraseIdx, if_pos h1, h2]
  · show (i : Int) < ((n.sh.eraseIdx j).length : Int)
    have := (List.getElem?_eq_some_iff.1 h2).1
    rw [hlen]
    omega
  · rw [hf2.of_]
    show (n.sh.eraseIdx j)[i]? = some x
    rw [List.getElem?_eraseIdx, if_neg (by omega), h2]
  · unfold shtC
    rw [findC_of hf2, hf2.of_]
    show (cond (decide ((n.sh.length : Int) - 1 < 0) || decide (((n.sh.eraseIdx j).length : Int) ≤ (n.sh.length : Int) - 1)) 2 0 : Int) = 2
    rw [hlen, decide_eq_true (p := ((n.sh.length - 1 : Nat) : Int) ≤ (n.sh.length : Int) - 1) (by omega), Bool.or_true]
    rfl
  · have hts : (remS s y (j : Int)).ts = s.ts.set k { n with sh := n.sh.eraseIdx j } := by rw [e]
    by_cases hik : i = k
    · subst hik
      obtain rfl : m = n := Option.some.inj (h1.symm.trans h.nt)
      have h3 : (remS s y (j : Int)).ts[i]? = some { m with sh := m.sh.eraseIdx j } := by rw [hts, List.getElem?_set_self hlt]
      have h7 := noteAt_ix hm h3
      refine ⟨h7, _, h3, fun h4 => absurd h.id h4, ?_⟩
      exact hm.small _ (List.mem_of_getElem? h3)
    · have h3 : (remS s y (j : Int)).ts[i]? = some m := by rw [hts, List.getElem?_set_ne (fun h4 => hik h4.symm)]; exact h1
      exact ⟨noteAt_ix hm h3, m, h3, fun _ => rfl, hm.small _ (List.mem_of_getElem? h3)⟩
end Go.Proofs.YtkaoechjekffmaaDoor
namespace Go.Proofs.YtkaoechjekffmaaDoor
open Go.ChangeShapes Go.WideShapes Go.ChangeAt Go.RowKit
attribute [local go_sem ↓] Go.wp_at_zero Go.wp_at_succ
theorem below_drew (w : World) : Below w.heap.size w w.drew := below_dn (Below.refl w.heap.size w) 1
theorem keep_cell {w w_ : World} {g o : Nat} {v : Value} (h : w.cell? ⟨g, o, none⟩ = some v) (hb : Below w.heap.size w w_) (hg : g < w.heap.size) : w_.cell? ⟨g, o, none⟩ = some v := (hb.cell (p := ⟨g, o, none⟩) hg).trans h
theorem keep_7 {w w_ : World} {b0 o0 b1 o1 b2 o2 b3 o3 b4 o4 b5 o5 b6 o6 : Nat} {u0 u1 u2 u3 u4 u5 u6 : Value} (h : w.cell? ⟨b0, o0, none⟩ = some u0 ∧ w.cell? ⟨b1, o1, none⟩ = some u1 ∧ w.cell? ⟨b2, o2, none⟩ = some u2 ∧ w.cell? ⟨b3, o3, none⟩ = some u3 ∧ w.cell? ⟨b4, o4, none⟩ = some u4 ∧ w.cell? ⟨b5, o5, none⟩ = some u5 ∧ w.cell? ⟨b6, o6, none⟩ = some u6) (hb : Below w.heap.size w w_) (l0 : b0 < w.heap.size) (l1 : b1 < w.heap.size) (l2 : b2 < w.heap.size) (l3 : b3 < w.heap.size) (l4 : b4 < w.heap.size) (l5 : b5 < w.heap.size) (l6 : b6 < w.heap.size) : w_.cell? ⟨b0, o0, none⟩ = some u0 ∧ w_.cell? ⟨b1, o1, none⟩ = some u1 ∧ w_.cell? ⟨b2, o2, none⟩ = some u2 ∧ w_.cell? ⟨b3, o3, none⟩ = some u3 ∧ w_.cell? ⟨b4, o4, none⟩ = some u4 ∧ w_.cell? ⟨b5, o5, none⟩ = some u5 ∧ w_.cell? ⟨b6, o6, none⟩ = some u6 := by
  obtain ⟨h0, h1, h2, h3, h4, h5, h6⟩ := h
  exact ⟨(hb.cell (p := ⟨b0, o0, none⟩) l0).trans h0, (hb.cell (p := ⟨b1, o1, none⟩) l1).trans h1, (hb.cell (p := ⟨b2, o2, none⟩) l2).trans h2, (hb.cell (p := ⟨b3, o3, none⟩) l3).trans h3, (hb.cell (p := ⟨b4, o4, none⟩) l4).trans h4, (hb.cell (p := ⟨b5, o5, none⟩) l5).trans h5, (hb.cell (p := ⟨b6, o6, none⟩) l6).trans h6⟩
theorem keep_11 {w w_ : World} {b0 o0 b1 o1 b2 o2 b3 o3 b4 o4 b5 o5 b6 o6 b7 o7 b8 o8 b9 o9 b10 o10 : Nat} {u0 u1 u2 u3 u4 u5 u6 u7 u8 u9 u10 : Value} (h : w.cell? ⟨b0, o0, none⟩ = some u0 ∧ w.cell? ⟨b1, o1, none⟩ = some u1 ∧ w.cell? ⟨b2, o2, none⟩ = some u2 ∧ w.cell? ⟨b3, o3, none⟩ = some u3 ∧ w.cell? ⟨b4, o4, none⟩ = some u4 ∧ w.cell? ⟨b5, o5, none⟩ = some u5 ∧ w.cell? ⟨b6, o6, none⟩ = some u6 ∧ w.cell? ⟨b7, o7, none⟩ = some u7 ∧ w.cell? ⟨b8, o8, none⟩ = some u8 ∧ w.cell? ⟨b9, o9, none⟩ = some u9 ∧ w.cell? ⟨b10, o10, none⟩ = some u10) (hb : Below w.heap.size w w_) (l0 : b0 < w.heap.size) (l1 : b1 < w.heap.size) (l2 : b2 < w.heap.size) (l3 : b3 < w.heap.size) (l4 : b4 < w.heap.size) (l5 : b5 < w.heap.size) (l6 : b6 < w.heap.size) (l7 : b7 < w.heap.size) (l8 : b8 < w.heap.size) (l9 : b9 < w.heap.size) (l10 : b10 < w.heap.size) : w_.cell? ⟨b0, o0, none⟩ = some u0 ∧ w_.cell? ⟨b1, o1, none⟩ = some u1 ∧ w_.cell? ⟨b2, o2, none⟩ = some u2 ∧ w_.cell? ⟨b3, o3, none⟩ = some u3 ∧ w_.cell? ⟨b4, o4, none⟩ = some u4 ∧ w_.cell? ⟨b5, o5, none⟩ = some u5 ∧ w_.cell? ⟨b6, o6, none⟩ = some u6 ∧ w_.cell? ⟨b7, o7, none⟩ = some u7 ∧ w_.cell? ⟨b8, o8, none⟩ = some u8 ∧ w_.cell? ⟨b9, o9, none⟩ = some u9 ∧ w_.cell? ⟨b10, o10, none⟩ = some u10 := by
  obtain ⟨h0, h1, h2, h3, h4, h5, h6, h7, h8, h9, h10⟩ := h
  exact ⟨(hb.cell (p := ⟨b0, o0, none⟩) l0).trans h0, (hb.cell (p := ⟨b1, o1, none⟩) l1).trans h1, (hb.cell (p := ⟨b2, o2, none⟩) l2).trans h2, (hb.cell (p := ⟨b3, o3, none⟩) l3).trans h3, (hb.cell (p := ⟨b4, o4, none⟩) l4).trans h4, (hb.cell (p := ⟨b5, o5, none⟩) l5).trans h5, (hb.cell (p := ⟨b6, o6, none⟩) l6).trans h6, (hb.cell (p := ⟨b7, o7, none⟩) l7).trans h7, (hb.cell (p := ⟨b8, o8, none⟩) l8).trans h8, (hb.cell (p := ⟨b9, o9, none⟩) l9).trans h9, (hb.cell (p := ⟨b10, o10, none⟩) l10).trans h10⟩
theorem shifts_walk (s : Sf) (v : Value) (y : Int) (z : Int) (w : World) (hS : ShR w w.heap.size v s) (hy : i64in y) (hT : Tabs w) :
    Calls Tryd.prog 7 #[v, .int .i64 y, .int .i64 z] w fun e' w' => e' = .returned (.bool true) ∧ Below w.heap.size w w' := by
  have hS0 := hS
  obtain ⟨Ab, cb, An, cn, rfl, hB, hN, hcb, hmb, hcn, hmn⟩ := hS.ex
  clear hS
  have HB : Below w.heap.size w (w.alloc (.cells #[.int .i64 s.nb, .int .i64 s.nn, .int .i64 s.ns, .slice Ab s.bs.length cb, .slice An s.ts.length cn] 25)) := ((Below.refl w.heap.size w).alloc (by first | (simp; done) | (simp; omega)) _)
  have B1 : Blk (w.alloc (.cells #[.int .i64 s.nb, .int .i64 s.nn, .int .i64 s.ns, .slice Ab s.bs.length cb, .slice An s.ts.length cn] 25)) w.heap.size 25 #[.int .i64 s.nb, .int .i64 s.nn, .int .i64 s.ns, .slice Ab s.bs.length cb, .slice An s.ts.length cn] := Blk.new_ w 25 #[.int .i64 s.nb, .int .i64 s.nn, .int .i64 s.ns, .slice Ab s.bs.length cb, .slice An s.ts.length cn]
  have S1 : ShR (w.alloc (.cells #[.int .i64 s.nb, .int .i64 s.nn, .int .i64 s.ns, .slice Ab s.bs.length cb, .slice An s.ts.length cn] 25)) ((w.alloc (.cells #[.int .i64 s.nb, .int .i64 s.nn, .int .i64 s.ns, .slice Ab s.bs.length cb, .slice An s.ts.length cn] 25))).heap.size (.agg #[.int .i64 s.nb, .int .i64 s.nn, .int .i64 s.ns, .slice Ab s.bs.length cb, .slice An s.ts.length cn]) s := hS0.next HB
  have T1 := hT.next HB
  obtain ⟨G, hG⟩ : ∃ G, greatS s = G := ⟨_, rfl⟩
  obtain ⟨M, hM⟩ : ∃ M, mayS s = M := ⟨_, rfl⟩
  have HG := Lib.hid hG
  have HM := Lib.hid hM
  have HNR := Lib.hid hN
  clear hG hM hS0 hT hB hN hcb hmb hcn hmn
  cases G
  · cases M
    · skip
      go_enter Tryd.func7, Tryd.ntmps7
      go_wp2_with (first | (go_at_call 8; ((with_reducible refine (greatShelf_any s _ _ S1 _ HG.out).mono ?_); rintro e' w2 ⟨rfl, bx⟩; have T1 := T1.next bx; have HB := btr HB HB.size bx; have B1 := B1.below bx B1.lt; have S1 := S1.next bx; (try clear ks0 ks1 ks2 ks3 ks4); have ks0 := B1.cell_ 0; have ks1 := B1.cell_ 1; have ks2 := B1.cell_ 2; have ks3 := B1.cell_ 3; have ks4 := B1.cell_ 4; simp at ks0 ks1 ks2 ks3 ks4; clear bx)) | (go_at_call 17; ((with_reducible refine (smay_any s _ _ S1 T1 _ HM.out).mono ?_); rintro e' w3 ⟨rfl, bx⟩; have T1 := T1.next bx; have HB := btr HB HB.size bx; have B1 := B1.below bx B1.lt; have S1 := S1.next bx; (try clear ks0 ks1 ks2 ks3 ks4); have ks0 := B1.cell_ 0; have ks1 := B1.cell_ 1; have ks2 := B1.cell_ 2; have ks3 := B1.cell_ 3; have ks4 := B1.cell_ 4; simp at ks0 ks1 ks2 ks3 ks4; clear bx)) | (go_at_call 9; ((with_reducible refine (awake_any _ T1).mono ?_); rintro e' wA ⟨rfl, bx⟩; have HB := btr HB HB.size bx)))
      go_ret
      exact ⟨rfl, HB⟩
    · by_cases hna : noteAt s y < 0
      · have HNA := Lib.hid hna
        have HC : Hid (shtC s y z = 4) := Lib.hid (by
          unfold shtC findC
          rw [HM.out, decide_eq_true hna]
          rfl)
        clear hna
        go_enter Tryd.func7, Tryd.ntmps7
        go_wp2_with (first | (go_at_call 8; ((with_reducible refine (greatShelf_any s _ _ S1 _ HG.out).mono ?_); rintro e' w2 ⟨rfl, bx⟩; have T1 := T1.next bx; have HB := btr HB HB.size bx; have B1 := B1.below bx B1.lt; have S1 := S1.next bx; (try clear ks0 ks1 ks2 ks3 ks4); have ks0 := B1.cell_ 0; have ks1 := B1.cell_ 1; have ks2 := B1.cell_ 2; have ks3 := B1.cell_ 3; have ks4 := B1.cell_ 4; simp at ks0 ks1 ks2 ks3 ks4; clear bx)) | (go_at_call 17; ((with_reducible refine (smay_any s _ _ S1 T1 _ HM.out).mono ?_); rintro e' w3 ⟨rfl, bx⟩; have T1 := T1.next bx; have HB := btr HB HB.size bx; have B1 := B1.below bx B1.lt; have S1 := S1.next bx; (try clear ks0 ks1 ks2 ks3 ks4); have ks0 := B1.cell_ 0; have ks1 := B1.cell_ 1; have ks2 := B1.cell_ 2; have ks3 := B1.cell_ 3; have ks4 := B1.cell_ 4; simp at ks0 ks1 ks2 ks3 ks4; clear bx)) | (go_at_call 19; ((with_reducible refine (find_no s _ y _ S1 T1 _ HM.out (Or.inr HNA.out)).mono ?_); rintro e' w10 ⟨rfl, bq⟩; have AL : Below w10.heap.size w10 (w10.alloc (.cells #[.int .i64 0, .int .i64 0, .string ⟨#[]⟩, .slice none 0 0, .slice none 0 0] 49)) := (Below.refl _ _).alloc (Nat.le_refl _) _; have Bx : Blk (w10.alloc (.cells #[.int .i64 0, .int .i64 0, .string ⟨#[]⟩, .slice none 0 0, .slice none 0 0] 49)) w10.heap.size 49 #[.int .i64 0, .int .i64 0, .string ⟨#[]⟩, .slice none 0 0, .slice none 0 0] := Blk.new_ w10 49 #[.int .i64 0, .int .i64 0, .string ⟨#[]⟩, .slice none 0 0, .slice none 0 0]; have bx := btr bq bq.size AL; have T1 := T1.next bx; have HB := btr HB HB.size bx; have B1 := B1.below bx B1.lt; have S1 := S1.next bx; (try clear ks0 ks1 ks2 ks3 ks4); have ks0 := B1.cell_ 0; have ks1 := B1.cell_ 1; have ks2 := B1.cell_ 2; have ks3 := B1.cell_ 3; have ks4 := B1.cell_ 4; have kx0 := Bx.cell_ 0; have kx1 := Bx.cell_ 1; have kx2 := Bx.cell_ 2; have kx3 := Bx.cell_ 3; have kx4 := Bx.cell_ 4; simp at ks0 ks1 ks2 ks3 ks4 kx0 kx1 kx2 kx3 kx4; clear bx bq AL)) | (go_at_call 22; ((with_reducible refine (nrem_no s _ y z _ S1 T1 4 HC.out (by decide)).mono ?_); rintro e' w11 ⟨rfl, bq⟩; have AL : Below w11.heap.size w11 (w11.alloc (.cells #[.int .i64 0, .int .i64 0, .int .i64 0, .slice none 0 0, .slice none 0 0] 25)) := (Below.refl _ _).alloc (Nat.le_refl _) _; have Ba : Blk (w11.alloc (.cells #[.int .i64 0, .int .i64 0, .int .i64 0, .slice none 0 0, .slice none 0 0] 25)) w11.heap.size 25 #[.int .i64 0, .int .i64 0, .int .i64 0, .slice none 0 0, .slice none 0 0] := Blk.new_ w11 25 #[.int .i64 0, .int .i64 0, .int .i64 0, .slice none 0 0, .slice none 0 0]; have bx := btr bq bq.size AL; have T1 := T1.next bx; have HB := btr HB HB.size bx; have B1 := B1.below bx B1.lt; have S1 := S1.next bx; have Bx := Bx.below bx Bx.lt; (try clear ks0 ks1 ks2 ks3 ks4 kx0 kx1 kx2 kx3 kx4); have ks0 := B1.cell_ 0; have ks1 := B1.cell_ 1; have ks2 := B1.cell_ 2; have ks3 := B1.cell_ 3; have ks4 := B1.cell_ 4; have kx0 := Bx.cell_ 0; have kx1 := Bx.cell_ 1; have kx2 := Bx.cell_ 2; have kx3 := Bx.cell_ 3; have kx4 := Bx.cell_ 4; have ka0 := Ba.cell_ 0; have ka1 := Ba.cell_ 1; have ka2 := Ba.cell_ 2; have ka3 := Ba.cell_ 3; have ka4 := Ba.cell_ 4; simp at ks0 ks1 ks2 ks3 ks4 kx0 kx1 kx2 kx3 kx4 ka0 ka1 ka2 ka3 ka4; clear bx bq AL)) | (go_at_call 9; ((with_reducible refine (awake_any _ T1).mono ?_); rintro e' wA ⟨rfl, bx⟩; have HB := btr HB HB.size bx)))
        go_ret
        exact ⟨rfl, HB⟩
      · obtain ⟨kn, n, hkn, hnn, hnid⟩ := noteAt_get (Int.not_lt.1 hna)
        have HNA := Lib.hid hkn
        have HNN := Lib.hid hnn
        obtain ⟨L, hL⟩ : ∃ L, n.sh.length = L := ⟨_, rfl⟩
        have HLL := Lib.hid hL
        have hfd : FdF s y kn n := ⟨mayF_of HM.out, hkn, hnn, hnid⟩
        by_cases hl0 : L = 0
        · subst hl0
          have HC : Hid (shtC s y z = 2) := Lib.hid (by
            unfold shtC
            rw [findC_of hfd, hfd.of_, hL]
            show (cond (decide (z < 0) || decide (((0 : Nat) : Int) ≤ z)) 2 0 : Int) = 2
            by_cases hz : z < 0
            · rw [decide_eq_true hz]
              rfl
            · rw [decide_eq_false hz, decide_eq_true (p := ((0 : Nat) : Int) ≤ z) (by omega)]
              rfl)
          clear hfd hL hkn hnn hnid hna
          go_enter Tryd.func7, Tryd.ntmps7
          go_wp2_with (first | (go_at_call 8; ((with_reducible refine (greatShelf_any s _ _ S1 _ HG.out).mono ?_); rintro e' w2 ⟨rfl, bx⟩; have T1 := T1.next bx; have HB := btr HB HB.size bx; have B1 := B1.below bx B1.lt; have S1 := S1.next bx; (try clear ks0 ks1 ks2 ks3 ks4); have ks0 := B1.cell_ 0; have ks1 := B1.cell_ 1; have ks2 := B1.cell_ 2; have ks3 := B1.cell_ 3; have ks4 := B1.cell_ 4; simp at ks0 ks1 ks2 ks3 ks4; clear bx)) | (go_at_call 17; ((with_reducible refine (smay_any s _ _ S1 T1 _ HM.out).mono ?_); rintro e' w3 ⟨rfl, bx⟩; have T1 := T1.next bx; have HB := btr HB HB.size bx; have B1 := B1.below bx B1.lt; have S1 := S1.next bx; (try clear ks0 ks1 ks2 ks3 ks4); have ks0 := B1.cell_ 0; have ks1 := B1.cell_ 1; have ks2 := B1.cell_ 2; have ks3 := B1.cell_ 3; have ks4 := B1.cell_ 4; simp at ks0 ks1 ks2 ks3 ks4; clear bx)) | (go_at_call 19; ((with_reducible refine (find_yes s _ y _ S1 T1 HM.out kn n HNA.out HNN.out).mono ?_); rintro e' w10 ⟨v1, v2, rfl, p1, p2, bq⟩; obtain ⟨A11, c11, rfl, -, -⟩ := own_shape p1; obtain ⟨A12, c12, rfl, -, -⟩ := own_shape p2; rw [HLL.out] at p2 ⊢; clear p1; have AL : Below w10.heap.size w10 (w10.alloc (.cells #[.int .i64 n.id, .int .i64 n.bk, .string n.nm, .slice A11 n.tg.length c11, .slice A12 0 c12] 49)) := (Below.refl _ _).alloc (Nat.le_refl _) _; have Bx : Blk (w10.alloc (.cells #[.int .i64 n.id, .int .i64 n.bk, .string n.nm, .slice A11 n.tg.length c11, .slice A12 0 c12] 49)) w10.heap.size 49 #[.int .i64 n.id, .int .i64 n.bk, .string n.nm, .slice A11 n.tg.length c11, .slice A12 0 c12] := Blk.new_ w10 49 #[.int .i64 n.id, .int .i64 n.bk, .string n.nm, .slice A11 n.tg.length c11, .slice A12 0 c12]; have bx := btr bq bq.size AL; have P2 := (Sl.of_own p2).next AL; clear p2; have T1 := T1.next bx; have HB := btr HB HB.size bx; have B1 := B1.below bx B1.lt; have S1 := S1.next bx; (try clear ks0 ks1 ks2 ks3 ks4); have ks0 := B1.cell_ 0; have ks1 := B1.cell_ 1; have ks2 := B1.cell_ 2; have ks3 := B1.cell_ 3; have ks4 := B1.cell_ 4; have kx0 := Bx.cell_ 0; have kx1 := Bx.cell_ 1; have kx2 := Bx.cell_ 2; have kx3 := Bx.cell_ 3; have kx4 := Bx.cell_ 4; simp at ks0 ks1 ks2 ks3 ks4 kx0 kx1 kx2 kx3 kx4; clear bx bq AL)) | (go_at_call 22; ((with_reducible refine (nrem_no s _ y z _ S1 T1 2 HC.out (by decide)).mono ?_); rintro e' w11 ⟨rfl, bq⟩; have AL : Below w11.heap.size w11 (w11.alloc (.cells #[.int .i64 0, .int .i64 0, .int .i64 0, .slice none 0 0, .slice none 0 0] 25)) := (Below.refl _ _).alloc (Nat.le_refl _) _; have Ba : Blk (w11.alloc (.cells #[.int .i64 0, .int .i64 0, .int .i64 0, .slice none 0 0, .slice none 0 0] 25)) w11.heap.size 25 #[.int .i64 0, .int .i64 0, .int .i64 0, .slice none 0 0, .slice none 0 0] := Blk.new_ w11 25 #[.int .i64 0, .int .i64 0, .int .i64 0, .slice none 0 0, .slice none 0 0]; have bx := btr bq bq.size AL; have T1 := T1.next bx; have HB := btr HB HB.size bx; have B1 := B1.below bx B1.lt; have S1 := S1.next bx; have Bx := Bx.below bx Bx.lt; (try clear ks0 ks1 ks2 ks3 ks4 kx0 kx1 kx2 kx3 kx4); have ks0 := B1.cell_ 0; have ks1 := B1.cell_ 1; have ks2 := B1.cell_ 2; have ks3 := B1.cell_ 3; have ks4 := B1.cell_ 4; have kx0 := Bx.cell_ 0; have kx1 := Bx.cell_ 1; have kx2 := Bx.cell_ 2; have kx3 := Bx.cell_ 3; have kx4 := Bx.cell_ 4; have ka0 := Ba.cell_ 0; have ka1 := Ba.cell_ 1; have ka2 := Ba.cell_ 2; have ka3 := Ba.cell_ 3; have ka4 := Ba.cell_ 4; simp at ks0 ks1 ks2 ks3 ks4 kx0 kx1 kx2 kx3 kx4 ka0 ka1 ka2 ka3 ka4; clear bx bq AL)) | (go_at_call 9; ((with_reducible refine (awake_any _ T1).mono ?_); rintro e' wA ⟨rfl, bx⟩; have HB := btr HB HB.size bx)))
          go_ret
          exact ⟨rfl, HB⟩
        · have hL8 : L ≤ 100000 := by rw [← hL]; exact (hfd.may.small n (List.mem_of_getElem? hnn)).2
          have hL1 : (1 : Int) ≤ (L : Int) := by omega
          have hL2 : (L : Int) ≤ 4611686018427387904 := by omega
          obtain ⟨j, hj⟩ : ∃ j : Nat, lowI z (L : Int) = (j : Int) := ⟨(lowI z (L : Int)).toNat, by have := lowI_bd z (L : Int) hL1; omega⟩
          have HLO := Lib.hid hj
          have hjl : j < L := by have := lowI_bd z (L : Int) hL1; omega
          obtain ⟨qa, hqa⟩ : ∃ q, remS s y (j : Int) = q := ⟨_, rfl⟩
          have hrf : RemF s qa y kn n j := by rw [← hqa]; exact remF_of hfd (by rw [hL]; exact hjl)
          obtain ⟨xj, hxj⟩ : ∃ x, n.sh[j]? = some x := ⟨_, List.getElem?_eq_getElem (by rw [hL]; exact hjl)⟩
          have HQA := Lib.hid hqa
          have HCJ := Lib.hid hrf.c
          have HXJ := Lib.hid (hrf.at_ xj hxj)
          have HMQ := Lib.hid hrf.may
          have HXN := Lib.hid hxj
          have HRE : Hid (shtC qa y ((L : Int) - 1) = 2) := Lib.hid (by have := hrf.end_; rw [hL] at this; exact this)
          have HRF := Lib.hid hrf
          have hlw : IntKind.i64.wrap ((L : Int) - 1) = (L : Int) - 1 := wrapS _ (by omega) (by omega)
          obtain ⟨T, hTe⟩ : ∃ T, s.ts.length = T := ⟨_, rfl⟩
          have HTT := Lib.hid hTe
          have hT12 : T ≤ 12 := by rw [← hTe]; exact hfd.may.tl
          have i0 : (0 : Int) ≤ (j : Int) := by omega
          have i1 : (j : Int) < (L : Int) := by omega
          clear hfd hL hkn hnn hnid hna hj hqa hrf hxj hTe hl0
          go_enter Tryd.func7, Tryd.ntmps7
          go_upto_region 9 with (first | (go_at_call 8; ((with_reducible refine (greatShelf_any s _ _ S1 _ HG.out).mono ?_); rintro e' w2 ⟨rfl, bx⟩; have T1 := T1.next bx; have HB := btr HB HB.size bx; have B1 := B1.below bx B1.lt; have S1 := S1.next bx; (try clear ks0 ks1 ks2 ks3 ks4); have ks0 := B1.cell_ 0; have ks1 := B1.cell_ 1; have ks2 := B1.cell_ 2; have ks3 := B1.cell_ 3; have ks4 := B1.cell_ 4; simp at ks0 ks1 ks2 ks3 ks4; clear bx)) | (go_at_call 17; ((with_reducible refine (smay_any s _ _ S1 T1 _ HM.out).mono ?_); rintro e' w3 ⟨rfl, bx⟩; have T1 := T1.next bx; have HB := btr HB HB.size bx; have B1 := B1.below bx B1.lt; have S1 := S1.next bx; (try clear ks0 ks1 ks2 ks3 ks4); have ks0 := B1.cell_ 0; have ks1 := B1.cell_ 1; have ks2 := B1.cell_ 2; have ks3 := B1.cell_ 3; have ks4 := B1.cell_ 4; simp at ks0 ks1 ks2 ks3 ks4; clear bx)) | (go_at_call 19; ((with_reducible refine (find_yes s _ y _ S1 T1 HM.out kn n HNA.out HNN.out).mono ?_); rintro e' w10 ⟨v1, v2, rfl, p1, p2, bq⟩; obtain ⟨A11, c11, rfl, -, -⟩ := own_shape p1; obtain ⟨A12, c12, rfl, -, -⟩ := own_shape p2; (have P2 := Sl.of_own p2); rw [HLL.out] at p2 ⊢; obtain ⟨b2, o2, rfl, l2, q2⟩ := P2.at_ (by rw [List.length_map, HLL.out]; omega); clear p1 p2 P2; (have HQ2 : Hid (∀ (j : Nat) (x : Int), n.sh[j]? = some x → w10.cell? ⟨b2, o2 + j, none⟩ = some (.int .i64 x)) := Lib.hid (fun j x hx => q2 j _ (by rw [List.getElem?_map, hx]; rfl))); clear q2; have AL : Below w10.heap.size w10 (w10.alloc (.cells #[.int .i64 n.id, .int .i64 n.bk, .string n.nm, .slice A11 n.tg.length c11, .slice (some ⟨b2, o2, none⟩) L c12] 49)) := (Below.refl _ _).alloc (Nat.le_refl _) _; have Bx : Blk (w10.alloc (.cells #[.int .i64 n.id, .int .i64 n.bk, .string n.nm, .slice A11 n.tg.length c11, .slice (some ⟨b2, o2, none⟩) L c12] 49)) w10.heap.size 49 #[.int .i64 n.id, .int .i64 n.bk, .string n.nm, .slice A11 n.tg.length c11, .slice (some ⟨b2, o2, none⟩) L c12] := Blk.new_ w10 49 #[.int .i64 n.id, .int .i64 n.bk, .string n.nm, .slice A11 n.tg.length c11, .slice (some ⟨b2, o2, none⟩) L c12]; have bx := btr bq bq.size AL; have HC : Below w10.heap.size w10 _ := AL; have T1 := T1.next bx; have HB := btr HB HB.size bx; have B1 := B1.below bx B1.lt; have S1 := S1.next bx; (try clear ks0 ks1 ks2 ks3 ks4); have ks0 := B1.cell_ 0; have ks1 := B1.cell_ 1; have ks2 := B1.cell_ 2; have ks3 := B1.cell_ 3; have ks4 := B1.cell_ 4; have kx0 := Bx.cell_ 0; have kx1 := Bx.cell_ 1; have kx2 := Bx.cell_ 2; have kx3 := Bx.cell_ 3; have kx4 := Bx.cell_ 4; simp at ks0 ks1 ks2 ks3 ks4 kx0 kx1 kx2 kx3 kx4; clear bx bq AL)) | (go_at_call 23; ((with_reducible refine (low_any z (L : Int) _ hL1 hL2).mono ?_); rw [HLO.out]; rintro e' wL ⟨rfl, rfl⟩)) | (go_at_call 22; ((with_reducible refine (nrem_go s _ y j xj _ S1 T1 HCJ.out HXJ.out qa HQA.out).mono ?_); rintro e' w11 ⟨A3, c3, A4, c4, rfl, hN, bq⟩; have AL : Below w11.heap.size w11 (w11.alloc (.cells #[.int .i64 qa.nb, .int .i64 qa.nn, .int .i64 qa.ns, .slice A3 qa.bs.length c3, .slice A4 qa.ts.length c4] 25)) := (Below.refl _ _).alloc (Nat.le_refl _) _; have Ba : Blk (w11.alloc (.cells #[.int .i64 qa.nb, .int .i64 qa.nn, .int .i64 qa.ns, .slice A3 qa.bs.length c3, .slice A4 qa.ts.length c4] 25)) w11.heap.size 25 #[.int .i64 qa.nb, .int .i64 qa.nn, .int .i64 qa.ns, .slice A3 qa.bs.length c3, .slice A4 qa.ts.length c4] := Blk.new_ w11 25 #[.int .i64 qa.nb, .int .i64 qa.nn, .int .i64 qa.ns, .slice A3 qa.bs.length c3, .slice A4 qa.ts.length c4]; have Sa := hN.next AL; have bx := btr bq bq.size AL; have T1 := T1.next bx; have HB := btr HB HB.size bx; have B1 := B1.below bx B1.lt; have S1 := S1.next bx; have Bx := Bx.below bx Bx.lt; (try clear ks0 ks1 ks2 ks3 ks4 kx0 kx1 kx2 kx3 kx4); have ks0 := B1.cell_ 0; have ks1 := B1.cell_ 1; have ks2 := B1.cell_ 2; have ks3 := B1.cell_ 3; have ks4 := B1.cell_ 4; have kx0 := Bx.cell_ 0; have kx1 := Bx.cell_ 1; have kx2 := Bx.cell_ 2; have kx3 := Bx.cell_ 3; have kx4 := Bx.cell_ 4; have ka0 := Ba.cell_ 0; have ka1 := Ba.cell_ 1; have ka2 := Ba.cell_ 2; have ka3 := Ba.cell_ 3; have ka4 := Ba.cell_ 4; simp at ks0 ks1 ks2 ks3 ks4 kx0 kx1 kx2 kx3 kx4 ka0 ka1 ka2 ka3 ka4; have HC := btr HC HC.size bx; clear bx bq AL hN)))
          have x5 := (HC.cell (p := ⟨b2, o2 + j, none⟩) l2).trans (HQ2.out j xj HXN.out)
          go_upto_region 11 with (first | (go_at_call 17; ((with_reducible refine (smay_any qa _ _ Sa T1 _ HMQ.out).mono ?_); rintro e' w12 ⟨rfl, bx⟩; have T1 := T1.next bx; have HB := btr HB HB.size bx; have B1 := B1.below bx B1.lt; have S1 := S1.next bx; have Bx := Bx.below bx Bx.lt; have Ba := Ba.below bx Ba.lt; have Sa := Sa.next bx; (try clear ks0 ks1 ks2 ks3 ks4 kx0 kx1 kx2 kx3 kx4 ka0 ka1 ka2 ka3 ka4); have ks0 := B1.cell_ 0; have ks1 := B1.cell_ 1; have ks2 := B1.cell_ 2; have ks3 := B1.cell_ 3; have ks4 := B1.cell_ 4; have kx0 := Bx.cell_ 0; have kx1 := Bx.cell_ 1; have kx2 := Bx.cell_ 2; have kx3 := Bx.cell_ 3; have kx4 := Bx.cell_ 4; have ka0 := Ba.cell_ 0; have ka1 := Ba.cell_ 1; have ka2 := Ba.cell_ 2; have ka3 := Ba.cell_ 3; have ka4 := Ba.cell_ 4; simp at ks0 ks1 ks2 ks3 ks4 kx0 kx1 kx2 kx3 kx4 ka0 ka1 ka2 ka3 ka4; have HC := btr HC HC.size bx; clear bx)))
          clear x5 i0 i1
          obtain ⟨W, hW⟩ : ∃ V : World, V = w12 := ⟨_, rfl⟩
          subst hW
          go_wp2_with fail
          go_loopw [15] (fun i wr => ∃ k : Nat, k < L ∧ i = .int .i64 (k : Int) ∧ Below W.heap.size W wr) (fun i _ => L - (intOf i).toNat)
          case atStart => exact ⟨0, by omega, rfl, Below.refl _ _⟩
          case round =>
            obtain ⟨k, hk, rfl, HBr⟩ := hrel
            have bz := HBr
            have T1 := T1.next bz; have HB := btr HB HB.size bz; have B1 := B1.below bz B1.lt; have S1 := S1.next bz; have Bx := Bx.below bz Bx.lt; have Ba := Ba.below bz Ba.lt; have Sa := Sa.next bz; (try clear ks0 ks1 ks2 ks3 ks4 kx0 kx1 kx2 kx3 kx4 ka0 ka1 ka2 ka3 ka4); have ks0 := B1.cell_ 0; have ks1 := B1.cell_ 1; have ks2 := B1.cell_ 2; have ks3 := B1.cell_ 3; have ks4 := B1.cell_ 4; have kx0 := Bx.cell_ 0; have kx1 := Bx.cell_ 1; have kx2 := Bx.cell_ 2; have kx3 := Bx.cell_ 3; have kx4 := Bx.cell_ 4; have ka0 := Ba.cell_ 0; have ka1 := Ba.cell_ 1; have ka2 := Ba.cell_ 2; have ka3 := Ba.cell_ 3; have ka4 := Ba.cell_ 4; simp at ks0 ks1 ks2 ks3 ks4 kx0 kx1 kx2 kx3 kx4 ka0 ka1 ka2 ka3 ka4
            have HC := btr HC HC.size bz
            clear bz
            have hkw : IntKind.i64.wrap ((k : Int) + 1) = (k : Int) + 1 := wrapS _ (by omega) (by omega)
            have hb2 : b2 < wr.heap.size := Nat.lt_of_lt_of_le l2 HC.size
            have kt : ((k : Int) + 1).toNat = k + 1 := by omega
            by_cases hlt : k + 1 < L
            · have i0 : (0 : Int) ≤ (k : Int) := by omega
              have i1 : (k : Int) + 1 < (L : Int) := by omega
              have i2 : (k : Int) < (L : Int) := by omega
              have i3 : (0 : Int) ≤ (k : Int) + 1 := by omega
              by_cases hkj : k < j
              · have d0 : decide (j ≤ k) = false := decide_eq_false (by omega)
                obtain ⟨x, hx⟩ : ∃ x, n.sh[k]? = some x := ⟨_, List.getElem?_eq_getElem (by rw [HLL.out]; omega)⟩
                have HX := Lib.hid (HRF.out.low k x hkj hx).2
                have HSC := Lib.hid (HRF.out.low k x hkj hx).1
                have x5 := (HC.cell (p := ⟨b2, o2 + k, none⟩) l2).trans (HQ2.out k x hx)
                clear hx hkj
                go_wp2_with (first | (go_at_call 12; ((with_reducible refine (nsheet_go qa _ y k x _ Sa T1 HSC.out HX.out).mono ?_); rintro e' w13 ⟨rfl, bx⟩; have T1 := T1.next bx; have HB := btr HB HB.size bx; have B1 := B1.below bx B1.lt; have S1 := S1.next bx; have Bx := Bx.below bx Bx.lt; have Ba := Ba.below bx Ba.lt; have Sa := Sa.next bx; (try clear ks0 ks1 ks2 ks3 ks4 kx0 kx1 kx2 kx3 kx4 ka0 ka1 ka2 ka3 ka4); have ks0 := B1.cell_ 0; have ks1 := B1.cell_ 1; have ks2 := B1.cell_ 2; have ks3 := B1.cell_ 3; have ks4 := B1.cell_ 4; have kx0 := Bx.cell_ 0; have kx1 := Bx.cell_ 1; have kx2 := Bx.cell_ 2; have kx3 := Bx.cell_ 3; have kx4 := Bx.cell_ 4; have ka0 := Ba.cell_ 0; have ka1 := Ba.cell_ 1; have ka2 := Ba.cell_ 2; have ka3 := Ba.cell_ 3; have ka4 := Ba.cell_ 4; simp at ks0 ks1 ks2 ks3 ks4 kx0 kx1 kx2 kx3 kx4 ka0 ka1 ka2 ka3 ka4; have x6 := (bx.cell (p := ⟨b2, o2 + k, none⟩) hb2).trans x5; have HBr := btr HBr HBr.size bx; clear bx)))
                go_roundw
                case rel => exact ⟨k + 1, by omega, by go_num, HBr⟩
                case measure => simp [intOf]; omega
              · have d0 : decide (j ≤ k) = true := decide_eq_true (by omega)
                obtain ⟨x, hx⟩ : ∃ x, n.sh[k + 1]? = some x := ⟨_, List.getElem?_eq_getElem (by rw [HLL.out]; omega)⟩
                have HX := Lib.hid (HRF.out.high k x (by omega) hx).2
                have HSC := Lib.hid (HRF.out.high k x (by omega) hx).1
                have x5 := (HC.cell (p := ⟨b2, o2 + (k + 1), none⟩) l2).trans (HQ2.out (k + 1) x hx)
                clear hx hkj
                go_wp2_with (first | (go_at_call 12; ((with_reducible refine (nsheet_go qa _ y k x _ Sa T1 HSC.out HX.out).mono ?_); rintro e' w13 ⟨rfl, bx⟩; have T1 := T1.next bx; have HB := btr HB HB.size bx; have B1 := B1.below bx B1.lt; have S1 := S1.next bx; have Bx := Bx.below bx Bx.lt; have Ba := Ba.below bx Ba.lt; have Sa := Sa.next bx; (try clear ks0 ks1 ks2 ks3 ks4 kx0 kx1 kx2 kx3 kx4 ka0 ka1 ka2 ka3 ka4); have ks0 := B1.cell_ 0; have ks1 := B1.cell_ 1; have ks2 := B1.cell_ 2; have ks3 := B1.cell_ 3; have ks4 := B1.cell_ 4; have kx0 := Bx.cell_ 0; have kx1 := Bx.cell_ 1; have kx2 := Bx.cell_ 2; have kx3 := Bx.cell_ 3; have kx4 := Bx.cell_ 4; have ka0 := Ba.cell_ 0; have ka1 := Ba.cell_ 1; have ka2 := Ba.cell_ 2; have ka3 := Ba.cell_ 3; have ka4 := Ba.cell_ 4; simp at ks0 ks1 ks2 ks3 ks4 kx0 kx1 kx2 kx3 kx4 ka0 ka1 ka2 ka3 ka4; have x6 := (bx.cell (p := ⟨b2, o2 + (k + 1), none⟩) hb2).trans x5; have HBr := btr HBr HBr.size bx; clear bx)))
                go_roundw
                case rel => exact ⟨k + 1, by omega, by go_num, HBr⟩
                case measure => simp [intOf]; omega
            · have i1 : ¬ (k : Int) + 1 < (L : Int) := by omega
              clear kt hb2 hlt
              go_upto_region 21 with (first | (go_at_call 12; ((with_reducible refine (nsheet_no qa _ y ((L : Int) - 1) _ Sa T1 2 HRE.out (by decide)).mono ?_); rintro e' w14 ⟨rfl, bx⟩; have T1 := T1.next bx; have HB := btr HB HB.size bx; have B1 := B1.below bx B1.lt; have S1 := S1.next bx; have Bx := Bx.below bx Bx.lt; have Ba := Ba.below bx Ba.lt; have Sa := Sa.next bx; (try clear ks0 ks1 ks2 ks3 ks4 kx0 kx1 kx2 kx3 kx4 ka0 ka1 ka2 ka3 ka4); have ks0 := B1.cell_ 0; have ks1 := B1.cell_ 1; have ks2 := B1.cell_ 2; have ks3 := B1.cell_ 3; have ks4 := B1.cell_ 4; have kx0 := Bx.cell_ 0; have kx1 := Bx.cell_ 1; have kx2 := Bx.cell_ 2; have kx3 := Bx.cell_ 3; have kx4 := Bx.cell_ 4; have ka0 := Ba.cell_ 0; have ka1 := Ba.cell_ 1; have ka2 := Ba.cell_ 2; have ka3 := Ba.cell_ 3; have ka4 := Ba.cell_ 4; simp at ks0 ks1 ks2 ks3 ks4 kx0 kx1 kx2 kx3 kx4 ka0 ka1 ka2 ka3 ka4; have HC := btr HC HC.size bx; clear bx)))
              clear hkw i1 kx0 kx1 kx2 kx3 kx4 Bx HC HQ2 HRE
              obtain ⟨wn, hwn⟩ : ∃ V : World, V = w14 := ⟨_, rfl⟩
              subst hwn
              have SN := Sa
              have TN := T1
              have BN := B1
              have BA := Ba
              have hbN := HB
              clear Sa T1 B1 Ba HB ka0 ka1 ka2 ka3 ka4 ks0 ks1 ks2 ks3 ks4 S1
              go_wp2_with fail
              go_loopw [21] (fun kv wr => ∃ p : Nat, p ≤ T ∧ kv = .int .i64 (p : Int) ∧ Below wn.heap.size wn wr) (fun kv _ => T - (intOf kv).toNat)
              case atStart => exact ⟨0, by omega, rfl, Below.refl _ _⟩
              case round =>
                obtain ⟨p, hp, rfl, hbn⟩ := hrel
                obtain ⟨wq, hwq⟩ : ∃ V : World, V = wr := ⟨_, rfl⟩
                subst hwq
                have SP := SN.next hbn
                have TP := TN.next hbn
                have BP := BN.below hbn BN.lt
                have BQ := BA.below hbn BA.lt
                have hbPw := btr hbN hbN.size hbn
                have k4 := BP.cell_ 4
                have ka0 := BQ.cell_ 0
                have ka1 := BQ.cell_ 1
                have ka2 := BQ.cell_ 2
                have ka3 := BQ.cell_ 3
                have ka4 := BQ.cell_ 4
                simp at k4 ka0 ka1 ka2 ka3 ka4
                rw [HTT.out] at k4
                clear SN TN BN BA hbN
                by_cases hlp : p < T
                · obtain ⟨m, hm⟩ : ∃ m, s.ts[p]? = some m := ⟨_, List.getElem?_eq_getElem (by rw [HTT.out]; exact hlp)⟩
                  obtain ⟨hpn, m2, hpm, hmm, hm1, hm2⟩ := HRF.out.note p m hm
                  obtain ⟨es, hel, hse, hnt⟩ := HNR.out.ex
                  obtain ⟨e0, he⟩ : ∃ e, es[p]? = some e := ⟨_, List.getElem?_eq_getElem (by have := HTT.out; omega)⟩
                  obtain ⟨At, ct, As, cs, rfl, hAt, hAs, -⟩ := (hnt p m e0 hm he).ex
                  obtain ⟨b4, o4, hb4e, l4, q4⟩ := hse.at_ (by have := HTT.out; omega)
                  subst hb4e
                  have z0 := (hbPw.cell (p := ⟨b4, o4 + p * 5, none⟩) l4).trans (q4 p _ he 0 _ rfl)
                  have z1 := (hbPw.cell (p := ⟨b4, o4 + p * 5 + 1, none⟩) l4).trans (q4 p _ he 1 _ rfl)
                  have z2 := (hbPw.cell (p := ⟨b4, o4 + p * 5 + 2, none⟩) l4).trans (q4 p _ he 2 _ rfl)
                  have z3 := (hbPw.cell (p := ⟨b4, o4 + p * 5 + 3, none⟩) l4).trans (q4 p _ he 3 _ rfl)
                  have z4 := (hbPw.cell (p := ⟨b4, o4 + p * 5 + 4, none⟩) l4).trans (q4 p _ he 4 _ rfl)
                  have l4P : b4 < wq.heap.size := Nat.lt_of_lt_of_le l4 hbPw.size
                  have j0 : (0 : Int) ≤ (p : Int) := by omega
                  have j1 : (p : Int) < (T : Int) := by omega
                  have HPN := Lib.hid hpn
                  have HPM := Lib.hid hpm
                  have HMT := Lib.hid hm1
                  have HMS := Lib.hid hm2
                  rcases Decidable.em (m.id = y) with hmy | hmy
                  · have hd : (m.id != y) = false := bne_eq_false_iff_eq.2 hmy
                    clear hmy hmm hpn hpm hm1 hm2 he hel hse hnt q4 hm hlp
                    go_upto_region 24 with fail
                    have SQ := SP.next (below_drew wq)
                    have TQ := TP.next (below_drew wq)
                    have SQ2 := SQ.next ((Below.refl _ _).alloc (Nat.le_refl _) (.cells #[.int .i64 0, .int .i64 0, .string ⟨#[]⟩, .slice none 0 0, .slice none 0 0] 49))
                    have TQ2 := TQ.next ((Below.refl _ _).alloc (Nat.le_refl _) (.cells #[.int .i64 0, .int .i64 0, .string ⟨#[]⟩, .slice none 0 0, .slice none 0 0] 49))
                    have hAL : Below wq.heap.size wq (wq.alloc (.cells #[.int .i64 0, .int .i64 0, .string ⟨#[]⟩, .slice none 0 0, .slice none 0 0] 49)).drew := drew_below ((Below.refl _ _).alloc (Nat.le_refl _) _)
                    have SQ3 := SP.next hAL
                    have TQ3 := TP.next hAL
                    have HZ2 : Below wq.heap.size wq (wq.drew.alloc (.cells #[.int .i64 0, .int .i64 0, .string ⟨#[]⟩, .slice none 0 0, .slice none 0 0] 49)) := (below_drew wq).alloc (Nat.le_refl _) _
                    have BZ2 : Blk (wq.drew.alloc (.cells #[.int .i64 0, .int .i64 0, .string ⟨#[]⟩, .slice none 0 0, .slice none 0 0] 49)) wq.heap.size 49 #[.int .i64 0, .int .i64 0, .string ⟨#[]⟩, .slice none 0 0, .slice none 0 0] := Blk.new_ wq.drew 49 #[.int .i64 0, .int .i64 0, .string ⟨#[]⟩, .slice none 0 0, .slice none 0 0]
                    have BZ3 : Blk (wq.alloc (.cells #[.int .i64 0, .int .i64 0, .string ⟨#[]⟩, .slice none 0 0, .slice none 0 0] 49)).drew wq.heap.size 49 #[.int .i64 0, .int .i64 0, .string ⟨#[]⟩, .slice none 0 0, .slice none 0 0] := drew_blk (Blk.new_ wq 49 #[.int .i64 0, .int .i64 0, .string ⟨#[]⟩, .slice none 0 0, .slice none 0 0])
                    have QP : wq.cell? ⟨w11.heap.size, 0, none⟩ = some (.int .i64 qa.nb) ∧ wq.cell? ⟨w11.heap.size, 1, none⟩ = some (.int .i64 qa.nn) ∧ wq.cell? ⟨w11.heap.size, 2, none⟩ = some (.int .i64 qa.ns) ∧ wq.cell? ⟨w11.heap.size, 3, none⟩ = some (.slice A3 qa.bs.length c3) ∧ wq.cell? ⟨w11.heap.size, 4, none⟩ = some (.slice A4 qa.ts.length c4) ∧ wq.cell? ⟨w.heap.size, 4, none⟩ = some (.slice (some ⟨b4, o4, none⟩) T cn) ∧ wq.cell? ⟨b4, o4 + p * 5, none⟩ = some (.int .i64 m.id) := ⟨ka0, ka1, ka2, ka3, ka4, k4, z0⟩
                    have QA := keep_7 QP (below_drew wq) BQ.lt BQ.lt BQ.lt BQ.lt BQ.lt BP.lt l4P
                    have QB := keep_7 QA ((Below.refl wq.drew.heap.size wq.drew).alloc (Nat.le_refl _) (.cells #[.int .i64 0, .int .i64 0, .string ⟨#[]⟩, .slice none 0 0, .slice none 0 0] 49)) BQ.lt BQ.lt BQ.lt BQ.lt BQ.lt BP.lt l4P
                    have QC := keep_7 QP hAL BQ.lt BQ.lt BQ.lt BQ.lt BQ.lt BP.lt l4P
                    refine wp_region_noPanic ?_
                    refine wp_region_held_drew (S := (fun w_ => w_.cell? ⟨w11.heap.size, 0, none⟩ = some (.int .i64 qa.nb) ∧ w_.cell? ⟨w11.heap.size, 1, none⟩ = some (.int .i64 qa.nn) ∧ w_.cell? ⟨w11.heap.size, 2, none⟩ = some (.int .i64 qa.ns) ∧ w_.cell? ⟨w11.heap.size, 3, none⟩ = some (.slice A3 qa.bs.length c3) ∧ w_.cell? ⟨w11.heap.size, 4, none⟩ = some (.slice A4 qa.ts.length c4) ∧ w_.cell? ⟨w.heap.size, 4, none⟩ = some (.slice (some ⟨b4, o4, none⟩) T cn) ∧ w_.cell? ⟨b4, o4 + p * 5, none⟩ = some (.int .i64 m.id))) (by kernel_rfl) ?_ (fun hHeld => ?_)
                    · (first | with_reducible exact QA | with_reducible exact QB | with_reducible exact QC | with_reducible exact QD | with_reducible exact QE | with_reducible exact QF | exact QG)
                    refine tk 0 ⟨some 149, .load 25 (.tmp 12), 25, "more.go:37", #[], none⟩ ?_; try simp only [Act.put, pz1, pz2, pz3]
                    refine tk 1 ⟨some 150, .fieldAddr 25 (.tmp 3) 4, 0, "more.go:37", #[], none⟩ ?_; try simp only [Act.put, pz1, pz2, pz3]
                    refine tk 2 ⟨some 151, .load 23 (.tmp 150), 23, "more.go:37", #[⟨1, .data⟩], none⟩ ?_; try simp only [Act.put, pz1, pz2, pz3]
                    refine tk 3 ⟨some 152, .move (.tmp 21), 3, "more.go:37", #[], none⟩ ?_; try simp only [Act.put, pz1, pz2, pz3]
                    refine tk 4 ⟨some 153, .indexAddr 23 (.tmp 151) (.tmp 152), 0, "more.go:37", #[⟨2, .data⟩, ⟨3, .data⟩], none⟩ ?_; try simp only [Act.put, pz1, pz2, pz3]
                    refine tk 5 ⟨some 154, .fieldAddr 49 (.tmp 153) 0, 0, "more.go:37", #[⟨4, .data⟩], none⟩ ?_; try simp only [Act.put, pz1, pz2, pz3]
                    refine tk 6 ⟨some 155, .load 3 (.tmp 154), 3, "more.go:37", #[⟨5, .data⟩], none⟩ ?_; try simp only [Act.put, pz1, pz2, pz3]
                    refine wpAnyH_ready (rs := [7, 11]) (by kernel_rfl) (by simp) ?_
                    refine (AllReadyH.cons (o := ⟨some 156, .call { callee := .value (.func 19), args := #[.tmp 149, .tmp 155], argTypes := #[25, 3] }, 50, "more.go:37", #[⟨0, .data⟩, ⟨6, .data⟩], none⟩) rfl (fun K hK => ?_) (AllReadyH.cons (o := ⟨some 22, .alloc 49, 0, "more.go:37", #[], none⟩) rfl (fun K hK => ?_) AllReadyH.nil))
                    · go_simp
                      (go_at_call 19; (first | (with_reducible refine (find_yes qa _ m.id _ SQ TQ HMQ.out p m2 HPN.out HPM.out).mono ?_) | (with_reducible refine (find_yes qa _ m.id _ SQ2 TQ2 HMQ.out p m2 HPN.out HPM.out).mono ?_) | (with_reducible refine (find_yes qa _ m.id _ SQ3 TQ3 HMQ.out p m2 HPN.out HPM.out).mono ?_)); rintro e' w7 ⟨v1, v2, rfl, p1, p2, b7⟩; obtain ⟨A7, c7, rfl, -, -⟩ := own_shape p1; obtain ⟨A8, c8, rfl, -, -⟩ := own_shape p2; first | ((have QD := keep_7 QA b7 (by exact BQ.lt) (by exact BQ.lt) (by exact BQ.lt) (by exact BQ.lt) (by exact BQ.lt) (by exact BP.lt) (by exact l4P)); (have QE := keep_7 QD ((Below.refl w7.heap.size w7).alloc (Nat.le_refl _) (.cells #[.int .i64 0, .int .i64 0, .string ⟨#[]⟩, .slice none 0 0, .slice none 0 0] 49)) (by exact Nat.lt_of_lt_of_le BQ.lt b7.size) (by exact Nat.lt_of_lt_of_le BQ.lt b7.size) (by exact Nat.lt_of_lt_of_le BQ.lt b7.size) (by exact Nat.lt_of_lt_of_le BQ.lt b7.size) (by exact Nat.lt_of_lt_of_le BQ.lt b7.size) (by exact Nat.lt_of_lt_of_le BP.lt b7.size) (by exact Nat.lt_of_lt_of_le l4P b7.size)); (have QF := keep_7 QD ((Below.refl w7.heap.size w7).alloc (Nat.le_refl _) (.cells #[.int .i64 m2.id, .int .i64 m2.bk, .string m2.nm, .slice A7 m2.tg.length c7, .slice A8 m2.sh.length c8] 49)) (by exact Nat.lt_of_lt_of_le BQ.lt b7.size) (by exact Nat.lt_of_lt_of_le BQ.lt b7.size) (by exact Nat.lt_of_lt_of_le BQ.lt b7.size) (by exact Nat.lt_of_lt_of_le BQ.lt b7.size) (by exact Nat.lt_of_lt_of_le BQ.lt b7.size) (by exact Nat.lt_of_lt_of_le BP.lt b7.size) (by exact Nat.lt_of_lt_of_le l4P b7.size))) | ((have QD := keep_7 QB b7 (by have := BQ.lt; simp; omega) (by have := BQ.lt; simp; omega) (by have := BQ.lt; simp; omega) (by have := BQ.lt; simp; omega) (by have := BQ.lt; simp; omega) (by have := BP.lt; simp; omega) (by have := l4P; simp; omega)); (have B9 := BZ2.below b7 BZ2.lt); (have hb7 := (HZ2.trans (b7.mono HZ2.size))); (have r0 := B9.cell_ 0); (have t0 := B9.free 0); (have r1 := B9.cell_ 1); (have t1 := B9.free 1); (have r2 := B9.cell_ 2); (have t2 := B9.free 2); (have r3 := B9.cell_ 3); (have t3 := B9.free 3); (have r4 := B9.cell_ 4); (have t4 := B9.free 4); simp at r0 r1 r2 r3 r4; (have hbf := st5_below hb7 (Nat.le_refl wq.heap.size) 0 (.int .i64 m2.id) (.int .i64 m2.bk) (.string m2.nm) (.slice A7 m2.tg.length c7) (.slice A8 m2.sh.length c8) hb7.size); (have QG := keep_7 QP hbf (by exact BQ.lt) (by exact BQ.lt) (by exact BQ.lt) (by exact BQ.lt) (by exact BQ.lt) (by exact BP.lt) (by exact l4P))) | ((have QD := keep_7 QC b7 (by have := BQ.lt; simp; omega) (by have := BQ.lt; simp; omega) (by have := BQ.lt; simp; omega) (by have := BQ.lt; simp; omega) (by have := BQ.lt; simp; omega) (by have := BP.lt; simp; omega) (by have := l4P; simp; omega)); (have B9 := BZ3.below b7 BZ3.lt); (have hb7 := (hAL.trans (b7.mono hAL.size))); (have r0 := B9.cell_ 0); (have t0 := B9.free 0); (have r1 := B9.cell_ 1); (have t1 := B9.free 1); (have r2 := B9.cell_ 2); (have t2 := B9.free 2); (have r3 := B9.cell_ 3); (have t3 := B9.free 3); (have r4 := B9.cell_ 4); (have t4 := B9.free 4); simp at r0 r1 r2 r3 r4; (have hbf := st5_below hb7 (Nat.le_refl wq.heap.size) 0 (.int .i64 m2.id) (.int .i64 m2.bk) (.string m2.nm) (.slice A7 m2.tg.length c7) (.slice A8 m2.sh.length c8) hb7.size); (have QG := keep_7 QP hbf (by exact BQ.lt) (by exact BQ.lt) (by exact BQ.lt) (by exact BQ.lt) (by exact BQ.lt) (by exact BP.lt) (by exact l4P))))
                      go_wp2_with fail
                      refine hK.out _ _ ?_ (fun hNew => ?_)
                      · (first | with_reducible exact QA | with_reducible exact QB | with_reducible exact QC | with_reducible exact QD | with_reducible exact QE | with_reducible exact QF | exact QG)
                      clear hK K hHeld
                      have hHeld := hNew
                      clear hNew
                      try simp only [Act.put, pz1, pz2, pz3]
                      refine tk 8 ⟨some 148, .move (.tmp 156), 50, "more.go:37", #[⟨7, .data⟩], none⟩ ?_; try simp only [Act.put, pz1, pz2, pz3]
                      refine tk 9 ⟨some 157, .extract (.tmp 148) 0, 49, "more.go:37", #[⟨8, .data⟩], none⟩ ?_; try simp only [Act.put, pz1, pz2, pz3]
                      refine tk 10 ⟨some 158, .extract (.tmp 148) 1, 4, "more.go:37", #[⟨8, .data⟩, { on := 12, ground := Ground.gcOnly Departure.lateStores }], none⟩ ?_; try simp only [Act.put, pz1, pz2, pz3]
                      refine wpAnyH_ready (rs := [11]) (by kernel_rfl) (by simp) ?_
                      refine AllReadyH.cons (o := ⟨some 22, .alloc 49, 0, "more.go:37", #[], none⟩) rfl (fun K hK => ?_) AllReadyH.nil
                      go_simp
                      refine hK.out _ _ ?_ (fun hNew => ?_)
                      · (first | with_reducible exact QA | with_reducible exact QB | with_reducible exact QC | with_reducible exact QD | with_reducible exact QE | with_reducible exact QF | exact QG)
                      clear hK K hHeld
                      have hHeld := hNew
                      clear hNew
                      try simp only [Act.put, pz1, pz2, pz3]
                      refine wpAnyH_ready (rs := [12]) (by kernel_rfl) (by simp) ?_
                      refine AllReadyH.cons (o := ⟨none, .store 49 (.tmp 22) (.tmp 157), 0, "more.go:37", #[⟨11, .data⟩, ⟨9, .data⟩, ⟨7, .chain⟩, ⟨0, .phase⟩, ⟨1, .phase⟩, ⟨2, .phase⟩, ⟨3, .phase⟩, ⟨4, .phase⟩, ⟨5, .phase⟩, ⟨6, .phase⟩, ⟨7, .phase⟩, ⟨8, .phase⟩, ⟨9, .phase⟩, { on := 10, ground := Ground.textOnly Departure.lateStores }, ⟨11, .phase⟩], none⟩) rfl (fun K hK => ?_) AllReadyH.nil
                      go_simp
                      refine hK.out _ _ ?_ (fun hNew => ?_)
                      · (first | with_reducible exact QA | with_reducible exact QB | with_reducible exact QC | with_reducible exact QD | with_reducible exact QE | with_reducible exact QF | exact QG)
                      clear hK K hHeld
                      have hHeld := hNew
                      clear hNew
                      try simp only [Act.put, pz1, pz2, pz3]
                      refine tk 13 ⟨some 23, .assign (.tmp 158), 4, "more.go:37", #[⟨10, .data⟩, ⟨12, .chain⟩, ⟨0, .phase⟩, ⟨1, .phase⟩, ⟨2, .phase⟩, ⟨3, .phase⟩, ⟨4, .phase⟩, ⟨5, .phase⟩, ⟨6, .phase⟩, ⟨7, .phase⟩, ⟨8, .phase⟩, ⟨9, .phase⟩, ⟨10, .phase⟩, ⟨11, .phase⟩, ⟨12, .phase⟩], none⟩ ?_; try simp only [Act.put, pz1, pz2, pz3]
                      refine wpAnyH_done (by kernel_rfl) ?_ _
                      refine NoPanic.normal ?_
                      go_upto_region 25 with fail
                      have B9 : Blk (w7.alloc (.cells #[.int .i64 m2.id, .int .i64 m2.bk, .string m2.nm, .slice A7 m2.tg.length c7, .slice A8 m2.sh.length c8] 49)) w7.heap.size 49 #[.int .i64 m2.id, .int .i64 m2.bk, .string m2.nm, .slice A7 m2.tg.length c7, .slice A8 m2.sh.length c8] := Blk.new_ w7 49 #[.int .i64 m2.id, .int .i64 m2.bk, .string m2.nm, .slice A7 m2.tg.length c7, .slice A8 m2.sh.length c8]
                      have hbf : Below wq.heap.size wq (w7.alloc (.cells #[.int .i64 m2.id, .int .i64 m2.bk, .string m2.nm, .slice A7 m2.tg.length c7, .slice A8 m2.sh.length c8] 49)) := (btr (below_drew wq) (below_drew wq).size b7).alloc (btr (below_drew wq) (below_drew wq).size b7).size _
                      have SR1 := (Sl.of_own p1).next ((Below.refl _ w7).alloc (Nat.le_refl _) (.cells #[.int .i64 m2.id, .int .i64 m2.bk, .string m2.nm, .slice A7 m2.tg.length c7, .slice A8 m2.sh.length c8] 49))
                      have SR2 := (Sl.of_own p2).next ((Below.refl _ w7).alloc (Nat.le_refl _) (.cells #[.int .i64 m2.id, .int .i64 m2.bk, .string m2.nm, .slice A7 m2.tg.length c7, .slice A8 m2.sh.length c8] 49))
                      obtain ⟨wf, hwf⟩ : ∃ V : World, V = w7.alloc (.cells #[.int .i64 m2.id, .int .i64 m2.bk, .string m2.nm, .slice A7 m2.tg.length c7, .slice A8 m2.sh.length c8] 49) := ⟨_, rfl⟩
                      obtain ⟨g9, hg9⟩ : ∃ V : Nat, V = w7.heap.size := ⟨_, rfl⟩
                      rw [← hwf, ← hg9] at B9
                      rw [← hwf] at hbf SR1 SR2
                      rw [← hwf, ← hg9]
                      clear hwf hg9 QP QA QB QC QD QE QF hHeld b7 p1 p2 SQ TQ SQ2 TQ2 SQ3 TQ3 hAL HZ2 BZ2 BZ3
                      have c0 := B9.cell_ 0
                      have c1 := B9.cell_ 1
                      have c2 := B9.cell_ 2
                      have c3' := B9.cell_ 3
                      have c4' := B9.cell_ 4
                      simp at c0 c1 c2 c3' c4'
                      have f4 := keep_cell k4 hbf BP.lt
                      have f5 := keep_cell z0 hbf l4P
                      have f6 := keep_cell z1 hbf l4P
                      have f7 := keep_cell z2 hbf l4P
                      have f8 := keep_cell z3 hbf l4P
                      have f9 := keep_cell z4 hbf l4P
                      have Q5 : wf.cell? ⟨g9, 0, none⟩ = some (.int .i64 m2.id) ∧ wf.cell? ⟨g9, 1, none⟩ = some (.int .i64 m2.bk) ∧ wf.cell? ⟨g9, 2, none⟩ = some (.string m2.nm) ∧ wf.cell? ⟨g9, 3, none⟩ = some (.slice A7 m2.tg.length c7) ∧ wf.cell? ⟨g9, 4, none⟩ = some (.slice A8 m2.sh.length c8) ∧ wf.cell? ⟨w.heap.size, 4, none⟩ = some (.slice (some ⟨b4, o4, none⟩) T cn) ∧ wf.cell? ⟨b4, o4 + p * 5, none⟩ = some (.int .i64 m.id) ∧ wf.cell? ⟨b4, o4 + p * 5 + 1, none⟩ = some (.int .i64 m.bk) ∧ wf.cell? ⟨b4, o4 + p * 5 + 2, none⟩ = some (.string m.nm) ∧ wf.cell? ⟨b4, o4 + p * 5 + 3, none⟩ = some (.slice At m.tg.length ct) ∧ wf.cell? ⟨b4, o4 + p * 5 + 4, none⟩ = some (.slice As m.sh.length cs) := ⟨c0, c1, c2, c3', c4', f4, f5, f6, f7, f8, f9⟩
                      have hbd := below_drew wf
                      have LQ9 := B9.lt
                      have LP9 : w.heap.size < wf.heap.size := Nat.lt_of_lt_of_le BP.lt hbf.size
                      have l49 : b4 < wf.heap.size := Nat.lt_of_lt_of_le l4P hbf.size
                      have Q5D := keep_11 Q5 hbd LQ9 LQ9 LQ9 LQ9 LQ9 LP9 l49 l49 l49 l49 l49
                      have hbZ := btr hbn hbn.size hbf
                      clear B9 SR1 SR2 c0 c1 c2 c3' c4' f4 f5 f6 f7 f8 f9 k4 ka0 ka1 ka2 ka3 ka4 z0 z1 z2 z3 z4 SP TP
                      refine wp_region_noPanic ?_
                      refine wp_region_held_drew (S := (fun w_ => w_.cell? ⟨g9, 0, none⟩ = some (.int .i64 m2.id) ∧ w_.cell? ⟨g9, 1, none⟩ = some (.int .i64 m2.bk) ∧ w_.cell? ⟨g9, 2, none⟩ = some (.string m2.nm) ∧ w_.cell? ⟨g9, 3, none⟩ = some (.slice A7 m2.tg.length c7) ∧ w_.cell? ⟨g9, 4, none⟩ = some (.slice A8 m2.sh.length c8) ∧ w_.cell? ⟨w.heap.size, 4, none⟩ = some (.slice (some ⟨b4, o4, none⟩) T cn) ∧ w_.cell? ⟨b4, o4 + p * 5, none⟩ = some (.int .i64 m.id) ∧ w_.cell? ⟨b4, o4 + p * 5 + 1, none⟩ = some (.int .i64 m.bk) ∧ w_.cell? ⟨b4, o4 + p * 5 + 2, none⟩ = some (.string m.nm) ∧ w_.cell? ⟨b4, o4 + p * 5 + 3, none⟩ = some (.slice At m.tg.length ct) ∧ w_.cell? ⟨b4, o4 + p * 5 + 4, none⟩ = some (.slice As m.sh.length cs))) (by kernel_rfl) ?_ (fun hHeld => ?_)
                      · (first | with_reducible exact Q5D | with_reducible exact Q5E)
                      refine tk 0 ⟨some 159, .move (.tmp 23), 4, "more.go:38", #[], none⟩ ?_; try simp only [Act.put, pz1, pz2, pz3]
                      refine tk 1 ⟨some 160, .unOp .not 4 (.tmp 159), 4, "more.go:38", #[⟨0, .data⟩], none⟩ ?_; try simp only [Act.put, pz1, pz2, pz3]
                      refine tk 2 ⟨some 161, .move (.tmp 160), 4, "more.go:38", #[⟨1, .data⟩], none⟩ ?_; try simp only [Act.put, pz1, pz2, pz3]
                      refine tk 3 ⟨some 162, .fieldAddr 25 (.tmp 3) 4, 0, "more.go:38", #[⟨2, .guard⟩], some (2, false)⟩ ?_; try simp only [Act.put, pz1, pz2, pz3]
                      refine tk 4 ⟨some 163, .load 23 (.tmp 162), 23, "more.go:38", #[⟨3, .data⟩, ⟨2, .guard⟩], some (2, false)⟩ ?_; try simp only [Act.put, pz1, pz2, pz3]
                      refine tk 5 ⟨some 164, .move (.tmp 21), 3, "more.go:38", #[⟨2, .guard⟩], some (2, false)⟩ ?_; try simp only [Act.put, pz1, pz2, pz3]
                      refine tk 6 ⟨some 165, .indexAddr 23 (.tmp 163) (.tmp 164), 0, "more.go:38", #[⟨4, .data⟩, ⟨5, .data⟩, ⟨2, .guard⟩], some (2, false)⟩ ?_; try simp only [Act.put, pz1, pz2, pz3]
                      refine tk 7 ⟨some 166, .fieldAddr 49 (.tmp 165) 0, 0, "more.go:38", #[⟨6, .data⟩, ⟨2, .guard⟩], some (2, false)⟩ ?_; try simp only [Act.put, pz1, pz2, pz3]
                      refine tk 8 ⟨some 167, .load 3 (.tmp 166), 3, "more.go:38", #[⟨7, .data⟩, ⟨2, .guard⟩], some (2, false)⟩ ?_; try simp only [Act.put, pz1, pz2, pz3]
                      refine tk 9 ⟨some 168, .move (.tmp 1), 3, "more.go:38", #[⟨2, .guard⟩], some (2, false)⟩ ?_; try simp only [Act.put, pz1, pz2, pz3]
                      refine tk 10 ⟨some 169, .binOp .neq 3 (.tmp 167) (.tmp 168) 3, 4, "more.go:38", #[⟨8, .data⟩, ⟨9, .data⟩, ⟨2, .guard⟩], some (2, false)⟩ ?_; try simp only [Act.put, pz1, pz2, pz3]
                      refine tk 11 ⟨some 170, .move (.tmp 169), 4, "more.go:38", #[⟨10, .data⟩, ⟨2, .chain⟩, ⟨2, .guard⟩], some (2, false)⟩ ?_; try simp only [Act.put, pz1, pz2, pz3]
                      refine tu 12 ⟨some 171, .load 49 (.tmp 22), 49, "more.go:38", #[⟨11, .guard⟩], some (11, true)⟩ ?_
                      try simp only [Act.put, pz1, pz2, pz3]
                      refine tu 13 ⟨some 172, .fieldAddr 25 (.tmp 3) 4, 0, "more.go:38", #[⟨11, .guard⟩], some (11, true)⟩ ?_
                      try simp only [Act.put, pz1, pz2, pz3]
                      refine tu 14 ⟨some 173, .load 23 (.tmp 172), 23, "more.go:38", #[⟨13, .data⟩, ⟨11, .guard⟩], some (11, true)⟩ ?_
                      try simp only [Act.put, pz1, pz2, pz3]
                      refine tu 15 ⟨some 174, .move (.tmp 21), 3, "more.go:38", #[⟨11, .guard⟩], some (11, true)⟩ ?_
                      try simp only [Act.put, pz1, pz2, pz3]
                      refine tu 16 ⟨some 175, .indexAddr 23 (.tmp 173) (.tmp 174), 0, "more.go:38", #[⟨14, .data⟩, ⟨15, .data⟩, ⟨11, .guard⟩], some (11, true)⟩ ?_
                      try simp only [Act.put, pz1, pz2, pz3]
                      refine tu 17 ⟨some 176, .load 49 (.tmp 175), 49, "more.go:38", #[⟨16, .data⟩, ⟨11, .guard⟩], some (11, true)⟩ ?_
                      try simp only [Act.put, pz1, pz2, pz3]
                      refine tu 18 ⟨some 177, .call { callee := .value (.func 24), args := #[.tmp 171, .tmp 176], argTypes := #[49, 49] }, 4, "more.go:38", #[⟨12, .data⟩, ⟨17, .data⟩, ⟨11, .chain⟩, ⟨11, .guard⟩], some (11, true)⟩ ?_
                      try simp only [Act.put, pz1, pz2, pz3]
                      refine tu 19 ⟨some 178, .unOp .not 4 (.tmp 177), 4, "more.go:38", #[⟨18, .data⟩, ⟨11, .guard⟩], some (11, true)⟩ ?_
                      try simp only [Act.put, pz1, pz2, pz3]
                      refine tk 20 ⟨some 179, .pick (.tmp 170) (.tmp 178) (.const (.bool false)), 4, "more.go:38", #[⟨11, .data⟩, ⟨19, .data⟩, ⟨2, .guard⟩], some (2, false)⟩ ?_; try simp only [Act.put, pz1, pz2, pz3]
                      refine tk 21 ⟨some 180, .pick (.tmp 161) (.const (.bool true)) (.tmp 179), 4, "more.go:38", #[⟨2, .data⟩, ⟨20, .data⟩], none⟩ ?_; try simp only [Act.put, pz1, pz2, pz3]
                      refine wpAnyH_done (by kernel_rfl) ?_ _
                      refine NoPanic.normal ?_
                      go_wp2_with fail
                      go_roundw
                      case rel => exact ⟨p + 1, by omega, by go_num, (by first | exact hbZ | exact drew_below hbZ)⟩
                      case measure => simp [intOf]; omega
                    · go_simp
                      refine hK.out _ _ ?_ (fun hNew => ?_)
                      · (first | with_reducible exact QA | with_reducible exact QB | with_reducible exact QC | with_reducible exact QD | with_reducible exact QE | with_reducible exact QF | exact QG)
                      clear hK K hHeld
                      have hHeld := hNew
                      clear hNew
                      try simp only [Act.put, pz1, pz2, pz3]
                      refine wpAnyH_ready (rs := [7]) (by kernel_rfl) (by simp) ?_
                      refine AllReadyH.cons (o := ⟨some 156, .call { callee := .value (.func 19), args := #[.tmp 149, .tmp 155], argTypes := #[25, 3] }, 50, "more.go:37", #[⟨0, .data⟩, ⟨6, .data⟩], none⟩) rfl (fun K hK => ?_) AllReadyH.nil
                      go_simp
                      (go_at_call 19; (first | (with_reducible refine (find_yes qa _ m.id _ SQ TQ HMQ.out p m2 HPN.out HPM.out).mono ?_) | (with_reducible refine (find_yes qa _ m.id _ SQ2 TQ2 HMQ.out p m2 HPN.out HPM.out).mono ?_) | (with_reducible refine (find_yes qa _ m.id _ SQ3 TQ3 HMQ.out p m2 HPN.out HPM.out).mono ?_)); rintro e' w7 ⟨v1, v2, rfl, p1, p2, b7⟩; obtain ⟨A7, c7, rfl, -, -⟩ := own_shape p1; obtain ⟨A8, c8, rfl, -, -⟩ := own_shape p2; first | ((have QD := keep_7 QA b7 (by exact BQ.lt) (by exact BQ.lt) (by exact BQ.lt) (by exact BQ.lt) (by exact BQ.lt) (by exact BP.lt) (by exact l4P)); (have QE := keep_7 QD ((Below.refl w7.heap.size w7).alloc (Nat.le_refl _) (.cells #[.int .i64 0, .int .i64 0, .string ⟨#[]⟩, .slice none 0 0, .slice none 0 0] 49)) (by exact Nat.lt_of_lt_of_le BQ.lt b7.size) (by exact Nat.lt_of_lt_of_le BQ.lt b7.size) (by exact Nat.lt_of_lt_of_le BQ.lt b7.size) (by exact Nat.lt_of_lt_of_le BQ.lt b7.size) (by exact Nat.lt_of_lt_of_le BQ.lt b7.size) (by exact Nat.lt_of_lt_of_le BP.lt b7.size) (by exact Nat.lt_of_lt_of_le l4P b7.size)); (have QF := keep_7 QD ((Below.refl w7.heap.size w7).alloc (Nat.le_refl _) (.cells #[.int .i64 m2.id, .int .i64 m2.bk, .string m2.nm, .slice A7 m2.tg.length c7, .slice A8 m2.sh.length c8] 49)) (by exact Nat.lt_of_lt_of_le BQ.lt b7.size) (by exact Nat.lt_of_lt_of_le BQ.lt b7.size) (by exact Nat.lt_of_lt_of_le BQ.lt b7.size) (by exact Nat.lt_of_lt_of_le BQ.lt b7.size) (by exact Nat.lt_of_lt_of_le BQ.lt b7.size) (by exact Nat.lt_of_lt_of_le BP.lt b7.size) (by exact Nat.lt_of_lt_of_le l4P b7.size))) | ((have QD := keep_7 QB b7 (by have := BQ.lt; simp; omega) (by have := BQ.lt; simp; omega) (by have := BQ.lt; simp; omega) (by have := BQ.lt; simp; omega) (by have := BQ.lt; simp; omega) (by have := BP.lt; simp; omega) (by have := l4P; simp; omega)); (have B9 := BZ2.below b7 BZ2.lt); (have hb7 := (HZ2.trans (b7.mono HZ2.size))); (have r0 := B9.cell_ 0); (have t0 := B9.free 0); (have r1 := B9.cell_ 1); (have t1 := B9.free 1); (have r2 := B9.cell_ 2); (have t2 := B9.free 2); (have r3 := B9.cell_ 3); (have t3 := B9.free 3); (have r4 := B9.cell_ 4); (have t4 := B9.free 4); simp at r0 r1 r2 r3 r4; (have hbf := st5_below hb7 (Nat.le_refl wq.heap.size) 0 (.int .i64 m2.id) (.int .i64 m2.bk) (.string m2.nm) (.slice A7 m2.tg.length c7) (.slice A8 m2.sh.length c8) hb7.size); (have QG := keep_7 QP hbf (by exact BQ.lt) (by exact BQ.lt) (by exact BQ.lt) (by exact BQ.lt) (by exact BQ.lt) (by exact BP.lt) (by exact l4P))) | ((have QD := keep_7 QC b7 (by have := BQ.lt; simp; omega) (by have := BQ.lt; simp; omega) (by have := BQ.lt; simp; omega) (by have := BQ.lt; simp; omega) (by have := BQ.lt; simp; omega) (by have := BP.lt; simp; omega) (by have := l4P; simp; omega)); (have B9 := BZ3.below b7 BZ3.lt); (have hb7 := (hAL.trans (b7.mono hAL.size))); (have r0 := B9.cell_ 0); (have t0 := B9.free 0); (have r1 := B9.cell_ 1); (have t1 := B9.free 1); (have r2 := B9.cell_ 2); (have t2 := B9.free 2); (have r3 := B9.cell_ 3); (have t3 := B9.free 3); (have r4 := B9.cell_ 4); (have t4 := B9.free 4); simp at r0 r1 r2 r3 r4; (have hbf := st5_below hb7 (Nat.le_refl wq.heap.size) 0 (.int .i64 m2.id) (.int .i64 m2.bk) (.string m2.nm) (.slice A7 m2.tg.length c7) (.slice A8 m2.sh.length c8) hb7.size); (have QG := keep_7 QP hbf (by exact BQ.lt) (by exact BQ.lt) (by exact BQ.lt) (by exact BQ.lt) (by exact BQ.lt) (by exact BP.lt) (by exact l4P))))
                      go_wp2_with fail
                      refine hK.out _ _ ?_ (fun hNew => ?_)
                      · (first | with_reducible exact QA | with_reducible exact QB | with_reducible exact QC | with_reducible exact QD | with_reducible exact QE | with_reducible exact QF | exact QG)
                      clear hK K hHeld
                      have hHeld := hNew
                      clear hNew
                      try simp only [Act.put, pz1, pz2, pz3]
                      refine tk 8 ⟨some 148, .move (.tmp 156), 50, "more.go:37", #[⟨7, .data⟩], none⟩ ?_; try simp only [Act.put, pz1, pz2, pz3]
                      refine tk 9 ⟨some 157, .extract (.tmp 148) 0, 49, "more.go:37", #[⟨8, .data⟩], none⟩ ?_; try simp only [Act.put, pz1, pz2, pz3]
                      refine tk 10 ⟨some 158, .extract (.tmp 148) 1, 4, "more.go:37", #[⟨8, .data⟩, { on := 12, ground := Ground.gcOnly Departure.lateStores }], none⟩ ?_; try simp only [Act.put, pz1, pz2, pz3]
                      refine wpAnyH_ready (rs := [12]) (by kernel_rfl) (by simp) ?_
                      refine AllReadyH.cons (o := ⟨none, .store 49 (.tmp 22) (.tmp 157), 0, "more.go:37", #[⟨11, .data⟩, ⟨9, .data⟩, ⟨7, .chain⟩, ⟨0, .phase⟩, ⟨1, .phase⟩, ⟨2, .phase⟩, ⟨3, .phase⟩, ⟨4, .phase⟩, ⟨5, .phase⟩, ⟨6, .phase⟩, ⟨7, .phase⟩, ⟨8, .phase⟩, ⟨9, .phase⟩, { on := 10, ground := Ground.textOnly Departure.lateStores }, ⟨11, .phase⟩], none⟩) rfl (fun K hK => ?_) AllReadyH.nil
                      go_simp
                      refine hK.out _ _ ?_ (fun hNew => ?_)
                      · (first | with_reducible exact QA | with_reducible exact QB | with_reducible exact QC | with_reducible exact QD | with_reducible exact QE | with_reducible exact QF | exact QG)
                      clear hK K hHeld
                      have hHeld := hNew
                      clear hNew
                      try simp only [Act.put, pz1, pz2, pz3]
                      refine tk 13 ⟨some 23, .assign (.tmp 158), 4, "more.go:37", #[⟨10, .data⟩, ⟨12, .chain⟩, ⟨0, .phase⟩, ⟨1, .phase⟩, ⟨2, .phase⟩, ⟨3, .phase⟩, ⟨4, .phase⟩, ⟨5, .phase⟩, ⟨6, .phase⟩, ⟨7, .phase⟩, ⟨8, .phase⟩, ⟨9, .phase⟩, ⟨10, .phase⟩, ⟨11, .phase⟩, ⟨12, .phase⟩], none⟩ ?_; try simp only [Act.put, pz1, pz2, pz3]
                      refine wpAnyH_done (by kernel_rfl) ?_ _
                      refine NoPanic.normal ?_
                      go_upto_region 25 with fail
                      have B9f := B9.st5_ (.int .i64 m2.id) (.int .i64 m2.bk) (.string m2.nm) (.slice A7 m2.tg.length c7) (.slice A8 m2.sh.length c8)
                      clear B9
                      have B9 := B9f
                      have hgE := st5_grown w7 wq.heap.size 0 (.int .i64 m2.id) (.int .i64 m2.bk) (.string m2.nm) (.slice A7 m2.tg.length c7) (.slice A8 m2.sh.length c8)
                      have SR1 := Sl.of_own (p1.kept hgE (own_off p1 (by simp)))
                      have SR2 := Sl.of_own (p2.kept hgE (own_off p2 (by simp)))
                      clear hgE
                      change Code.wp _ _ _ _ (st5 w7 wq.heap.size 0 (.int .i64 m2.id) (.int .i64 m2.bk) (.string m2.nm) (.slice A7 m2.tg.length c7) (.slice A8 m2.sh.length c8))
                      obtain ⟨wf, hwf⟩ : ∃ V : World, V = st5 w7 wq.heap.size 0 (.int .i64 m2.id) (.int .i64 m2.bk) (.string m2.nm) (.slice A7 m2.tg.length c7) (.slice A8 m2.sh.length c8) := ⟨_, rfl⟩
                      rw [← hwf] at B9 hbf SR1 SR2 ⊢
                      obtain ⟨g9, hg9⟩ : ∃ V : Nat, V = wq.heap.size := ⟨_, rfl⟩
                      rw [← hg9] at B9 ⊢
                      clear hwf hg9 B9f QP QA QB QC QD QG hHeld b7 p1 p2 SQ TQ SQ2 TQ2 SQ3 TQ3 hAL HZ2 BZ2 BZ3 hb7 r0 r1 r2 r3 r4 t0 t1 t2 t3 t4
                      have c0 := B9.cell_ 0
                      have c1 := B9.cell_ 1
                      have c2 := B9.cell_ 2
                      have c3' := B9.cell_ 3
                      have c4' := B9.cell_ 4
                      simp at c0 c1 c2 c3' c4'
                      have f4 := keep_cell k4 hbf BP.lt
                      have f5 := keep_cell z0 hbf l4P
                      have f6 := keep_cell z1 hbf l4P
                      have f7 := keep_cell z2 hbf l4P
                      have f8 := keep_cell z3 hbf l4P
                      have f9 := keep_cell z4 hbf l4P
                      have Q5 : wf.cell? ⟨g9, 0, none⟩ = some (.int .i64 m2.id) ∧ wf.cell? ⟨g9, 1, none⟩ = some (.int .i64 m2.bk) ∧ wf.cell? ⟨g9, 2, none⟩ = some (.string m2.nm) ∧ wf.cell? ⟨g9, 3, none⟩ = some (.slice A7 m2.tg.length c7) ∧ wf.cell? ⟨g9, 4, none⟩ = some (.slice A8 m2.sh.length c8) ∧ wf.cell? ⟨w.heap.size, 4, none⟩ = some (.slice (some ⟨b4, o4, none⟩) T cn) ∧ wf.cell? ⟨b4, o4 + p * 5, none⟩ = some (.int .i64 m.id) ∧ wf.cell? ⟨b4, o4 + p * 5 + 1, none⟩ = some (.int .i64 m.bk) ∧ wf.cell? ⟨b4, o4 + p * 5 + 2, none⟩ = some (.string m.nm) ∧ wf.cell? ⟨b4, o4 + p * 5 + 3, none⟩ = some (.slice At m.tg.length ct) ∧ wf.cell? ⟨b4, o4 + p * 5 + 4, none⟩ = some (.slice As m.sh.length cs) := ⟨c0, c1, c2, c3', c4', f4, f5, f6, f7, f8, f9⟩
                      have hbd := below_drew wf
                      have LQ9 := B9.lt
                      have LP9 : w.heap.size < wf.heap.size := Nat.lt_of_lt_of_le BP.lt hbf.size
                      have l49 : b4 < wf.heap.size := Nat.lt_of_lt_of_le l4P hbf.size
                      have Q5D := keep_11 Q5 hbd LQ9 LQ9 LQ9 LQ9 LQ9 LP9 l49 l49 l49 l49 l49
                      have hbZ := btr hbn hbn.size hbf
                      clear B9 SR1 SR2 c0 c1 c2 c3' c4' f4 f5 f6 f7 f8 f9 k4 ka0 ka1 ka2 ka3 ka4 z0 z1 z2 z3 z4 SP TP
                      refine wp_region_noPanic ?_
                      refine wp_region_held_drew (S := (fun w_ => w_.cell? ⟨g9, 0, none⟩ = some (.int .i64 m2.id) ∧ w_.cell? ⟨g9, 1, none⟩ = some (.int .i64 m2.bk) ∧ w_.cell? ⟨g9, 2, none⟩ = some (.string m2.nm) ∧ w_.cell? ⟨g9, 3, none⟩ = some (.slice A7 m2.tg.length c7) ∧ w_.cell? ⟨g9, 4, none⟩ = some (.slice A8 m2.sh.length c8) ∧ w_.cell? ⟨w.heap.size, 4, none⟩ = some (.slice (some ⟨b4, o4, none⟩) T cn) ∧ w_.cell? ⟨b4, o4 + p * 5, none⟩ = some (.int .i64 m.id) ∧ w_.cell? ⟨b4, o4 + p * 5 + 1, none⟩ = some (.int .i64 m.bk) ∧ w_.cell? ⟨b4, o4 + p * 5 + 2, none⟩ = some (.string m.nm) ∧ w_.cell? ⟨b4, o4 + p * 5 + 3, none⟩ = some (.slice At m.tg.length ct) ∧ w_.cell? ⟨b4, o4 + p * 5 + 4, none⟩ = some (.slice As m.sh.length cs))) (by kernel_rfl) ?_ (fun hHeld => ?_)
                      · (first | with_reducible exact Q5D | with_reducible exact Q5E)
                      refine tk 0 ⟨some 159, .move (.tmp 23), 4, "more.go:38", #[], none⟩ ?_; try simp only [Act.put, pz1, pz2, pz3]
                      refine tk 1 ⟨some 160, .unOp .not 4 (.tmp 159), 4, "more.go:38", #[⟨0, .data⟩], none⟩ ?_; try simp only [Act.put, pz1, pz2, pz3]
                      refine tk 2 ⟨some 161, .move (.tmp 160), 4, "more.go:38", #[⟨1, .data⟩], none⟩ ?_; try simp only [Act.put, pz1, pz2, pz3]
                      refine tk 3 ⟨some 162, .fieldAddr 25 (.tmp 3) 4, 0, "more.go:38", #[⟨2, .guard⟩], some (2, false)⟩ ?_; try simp only [Act.put, pz1, pz2, pz3]
                      refine tk 4 ⟨some 163, .load 23 (.tmp 162), 23, "more.go:38", #[⟨3, .data⟩, ⟨2, .guard⟩], some (2, false)⟩ ?_; try simp only [Act.put, pz1, pz2, pz3]
                      refine tk 5 ⟨some 164, .move (.tmp 21), 3, "more.go:38", #[⟨2, .guard⟩], some (2, false)⟩ ?_; try simp only [Act.put, pz1, pz2, pz3]
                      refine tk 6 ⟨some 165, .indexAddr 23 (.tmp 163) (.tmp 164), 0, "more.go:38", #[⟨4, .data⟩, ⟨5, .data⟩, ⟨2, .guard⟩], some (2, false)⟩ ?_; try simp only [Act.put, pz1, pz2, pz3]
                      refine tk 7 ⟨some 166, .fieldAddr 49 (.tmp 165) 0, 0, "more.go:38", #[⟨6, .data⟩, ⟨2, .guard⟩], some (2, false)⟩ ?_; try simp only [Act.put, pz1, pz2, pz3]
                      refine tk 8 ⟨some 167, .load 3 (.tmp 166), 3, "more.go:38", #[⟨7, .data⟩, ⟨2, .guard⟩], some (2, false)⟩ ?_; try simp only [Act.put, pz1, pz2, pz3]
                      refine tk 9 ⟨some 168, .move (.tmp 1), 3, "more.go:38", #[⟨2, .guard⟩], some (2, false)⟩ ?_; try simp only [Act.put, pz1, pz2, pz3]
                      refine tk 10 ⟨some 169, .binOp .neq 3 (.tmp 167) (.tmp 168) 3, 4, "more.go:38", #[⟨8, .data⟩, ⟨9, .data⟩, ⟨2, .guard⟩], some (2, false)⟩ ?_; try simp only [Act.put, pz1, pz2, pz3]
                      refine tk 11 ⟨some 170, .move (.tmp 169), 4, "more.go:38", #[⟨10, .data⟩, ⟨2, .chain⟩, ⟨2, .guard⟩], some (2, false)⟩ ?_; try simp only [Act.put, pz1, pz2, pz3]
                      refine tu 12 ⟨some 171, .load 49 (.tmp 22), 49, "more.go:38", #[⟨11, .guard⟩], some (11, true)⟩ ?_
                      try simp only [Act.put, pz1, pz2, pz3]
                      refine tu 13 ⟨some 172, .fieldAddr 25 (.tmp 3) 4, 0, "more.go:38", #[⟨11, .guard⟩], some (11, true)⟩ ?_
                      try simp only [Act.put, pz1, pz2, pz3]
                      refine tu 14 ⟨some 173, .load 23 (.tmp 172), 23, "more.go:38", #[⟨13, .data⟩, ⟨11, .guard⟩], some (11, true)⟩ ?_
                      try simp only [Act.put, pz1, pz2, pz3]
                      refine tu 15 ⟨some 174, .move (.tmp 21), 3, "more.go:38", #[⟨11, .guard⟩], some (11, true)⟩ ?_
                      try simp only [Act.put, pz1, pz2, pz3]
                      refine tu 16 ⟨some 175, .indexAddr 23 (.tmp 173) (.tmp 174), 0, "more.go:38", #[⟨14, .data⟩, ⟨15, .data⟩, ⟨11, .guard⟩], some (11, true)⟩ ?_
                      try simp only [Act.put, pz1, pz2, pz3]
                      refine tu 17 ⟨some 176, .load 49 (.tmp 175), 49, "more.go:38", #[⟨16, .data⟩, ⟨11, .guard⟩], some (11, true)⟩ ?_
                      try simp only [Act.put, pz1, pz2, pz3]
                      refine tu 18 ⟨some 177, .call { callee := .value (.func 24), args := #[.tmp 171, .tmp 176], argTypes := #[49, 49] }, 4, "more.go:38", #[⟨12, .data⟩, ⟨17, .data⟩, ⟨11, .chain⟩, ⟨11, .guard⟩], some (11, true)⟩ ?_
                      try simp only [Act.put, pz1, pz2, pz3]
                      refine tu 19 ⟨some 178, .unOp .not 4 (.tmp 177), 4, "more.go:38", #[⟨18, .data⟩, ⟨11, .guard⟩], some (11, true)⟩ ?_
                      try simp only [Act.put, pz1, pz2, pz3]
                      refine tk 20 ⟨some 179, .pick (.tmp 170) (.tmp 178) (.const (.bool false)), 4, "more.go:38", #[⟨11, .data⟩, ⟨19, .data⟩, ⟨2, .guard⟩], some (2, false)⟩ ?_; try simp only [Act.put, pz1, pz2, pz3]
                      refine tk 21 ⟨some 180, .pick (.tmp 161) (.const (.bool true)) (.tmp 179), 4, "more.go:38", #[⟨2, .data⟩, ⟨20, .data⟩], none⟩ ?_; try simp only [Act.put, pz1, pz2, pz3]
                      refine wpAnyH_done (by kernel_rfl) ?_ _
                      refine NoPanic.normal ?_
                      go_wp2_with fail
                      go_roundw
                      case rel => exact ⟨p + 1, by omega, by go_num, (by first | exact hbZ | exact drew_below hbZ)⟩
                      case measure => simp [intOf]; omega
                  · obtain rfl : m2 = m := hmm hmy
                    have hd : (m2.id != y) = true := bne_iff_ne.2 hmy
                    clear hmy hmm hpn hpm hm1 hm2 he hel hse hnt q4 hm hlp
                    go_upto_region 24 with fail
                    have SQ := SP.next (below_drew wq)
                    have TQ := TP.next (below_drew wq)
                    have SQ2 := SQ.next ((Below.refl _ _).alloc (Nat.le_refl _) (.cells #[.int .i64 0, .int .i64 0, .string ⟨#[]⟩, .slice none 0 0, .slice none 0 0] 49))
                    have TQ2 := TQ.next ((Below.refl _ _).alloc (Nat.le_refl _) (.cells #[.int .i64 0, .int .i64 0, .string ⟨#[]⟩, .slice none 0 0, .slice none 0 0] 49))
                    have hAL : Below wq.heap.size wq (wq.alloc (.cells #[.int .i64 0, .int .i64 0, .string ⟨#[]⟩, .slice none 0 0, .slice none 0 0] 49)).drew := drew_below ((Below.refl _ _).alloc (Nat.le_refl _) _)
                    have SQ3 := SP.next hAL
                    have TQ3 := TP.next hAL
                    have HZ2 : Below wq.heap.size wq (wq.drew.alloc (.cells #[.int .i64 0, .int .i64 0, .string ⟨#[]⟩, .slice none 0 0, .slice none 0 0] 49)) := (below_drew wq).alloc (Nat.le_refl _) _
                    have BZ2 : Blk (wq.drew.alloc (.cells #[.int .i64 0, .int .i64 0, .string ⟨#[]⟩, .slice none 0 0, .slice none 0 0] 49)) wq.heap.size 49 #[.int .i64 0, .int .i64 0, .string ⟨#[]⟩, .slice none 0 0, .slice none 0 0] := Blk.new_ wq.drew 49 #[.int .i64 0, .int .i64 0, .string ⟨#[]⟩, .slice none 0 0, .slice none 0 0]
                    have BZ3 : Blk (wq.alloc (.cells #[.int .i64 0, .int .i64 0, .string ⟨#[]⟩, .slice none 0 0, .slice none 0 0] 49)).drew wq.heap.size 49 #[.int .i64 0, .int .i64 0, .string ⟨#[]⟩, .slice none 0 0, .slice none 0 0] := drew_blk (Blk.new_ wq 49 #[.int .i64 0, .int .i64 0, .string ⟨#[]⟩, .slice none 0 0, .slice none 0 0])
                    have QP : wq.cell? ⟨w11.heap.size, 0, none⟩ = some (.int .i64 qa.nb) ∧ wq.cell? ⟨w11.heap.size, 1, none⟩ = some (.int .i64 qa.nn) ∧ wq.cell? ⟨w11.heap.size, 2, none⟩ = some (.int .i64 qa.ns) ∧ wq.cell? ⟨w11.heap.size, 3, none⟩ = some (.slice A3 qa.bs.length c3) ∧ wq.cell? ⟨w11.heap.size, 4, none⟩ = some (.slice A4 qa.ts.length c4) ∧ wq.cell? ⟨w.heap.size, 4, none⟩ = some (.slice (some ⟨b4, o4, none⟩) T cn) ∧ wq.cell? ⟨b4, o4 + p * 5, none⟩ = some (.int .i64 m2.id) := ⟨ka0, ka1, ka2, ka3, ka4, k4, z0⟩
                    have QA := keep_7 QP (below_drew wq) BQ.lt BQ.lt BQ.lt BQ.lt BQ.lt BP.lt l4P
                    have QB := keep_7 QA ((Below.refl wq.drew.heap.size wq.drew).alloc (Nat.le_refl _) (.cells #[.int .i64 0, .int .i64 0, .string ⟨#[]⟩, .slice none 0 0, .slice none 0 0] 49)) BQ.lt BQ.lt BQ.lt BQ.lt BQ.lt BP.lt l4P
                    have QC := keep_7 QP hAL BQ.lt BQ.lt BQ.lt BQ.lt BQ.lt BP.lt l4P
                    refine wp_region_noPanic ?_
                    refine wp_region_held_drew (S := (fun w_ => w_.cell? ⟨w11.heap.size, 0, none⟩ = some (.int .i64 qa.nb) ∧ w_.cell? ⟨w11.heap.size, 1, none⟩ = some (.int .i64 qa.nn) ∧ w_.cell? ⟨w11.heap.size, 2, none⟩ = some (.int .i64 qa.ns) ∧ w_.cell? ⟨w11.heap.size, 3, none⟩ = some (.slice A3 qa.bs.length c3) ∧ w_.cell? ⟨w11.heap.size, 4, none⟩ = some (.slice A4 qa.ts.length c4) ∧ w_.cell? ⟨w.heap.size, 4, none⟩ = some (.slice (some ⟨b4, o4, none⟩) T cn) ∧ w_.cell? ⟨b4, o4 + p * 5, none⟩ = some (.int .i64 m2.id))) (by kernel_rfl) ?_ (fun hHeld => ?_)
                    · (first | with_reducible exact QA | with_reducible exact QB | with_reducible exact QC | with_reducible exact QD | with_reducible exact QE | with_reducible exact QF | exact QG)
                    refine tk 0 ⟨some 149, .load 25 (.tmp 12), 25, "more.go:37", #[], none⟩ ?_; try simp only [Act.put, pz1, pz2, pz3]
                    refine tk 1 ⟨some 150, .fieldAddr 25 (.tmp 3) 4, 0, "more.go:37", #[], none⟩ ?_; try simp only [Act.put, pz1, pz2, pz3]
                    refine tk 2 ⟨some 151, .load 23 (.tmp 150), 23, "more.go:37", #[⟨1, .data⟩], none⟩ ?_; try simp only [Act.put, pz1, pz2, pz3]
                    refine tk 3 ⟨some 152, .move (.tmp 21), 3, "more.go:37", #[], none⟩ ?_; try simp only [Act.put, pz1, pz2, pz3]
                    refine tk 4 ⟨some 153, .indexAddr 23 (.tmp 151) (.tmp 152), 0, "more.go:37", #[⟨2, .data⟩, ⟨3, .data⟩], none⟩ ?_; try simp only [Act.put, pz1, pz2, pz3]
                    refine tk 5 ⟨some 154, .fieldAddr 49 (.tmp 153) 0, 0, "more.go:37", #[⟨4, .data⟩], none⟩ ?_; try simp only [Act.put, pz1, pz2, pz3]
                    refine tk 6 ⟨some 155, .load 3 (.tmp 154), 3, "more.go:37", #[⟨5, .data⟩], none⟩ ?_; try simp only [Act.put, pz1, pz2, pz3]
                    refine wpAnyH_ready (rs := [7, 11]) (by kernel_rfl) (by simp) ?_
                    refine (AllReadyH.cons (o := ⟨some 156, .call { callee := .value (.func 19), args := #[.tmp 149, .tmp 155], argTypes := #[25, 3] }, 50, "more.go:37", #[⟨0, .data⟩, ⟨6, .data⟩], none⟩) rfl (fun K hK => ?_) (AllReadyH.cons (o := ⟨some 22, .alloc 49, 0, "more.go:37", #[], none⟩) rfl (fun K hK => ?_) AllReadyH.nil))
                    · go_simp
                      (go_at_call 19; (first | (with_reducible refine (find_yes qa _ m2.id _ SQ TQ HMQ.out p m2 HPN.out HPM.out).mono ?_) | (with_reducible refine (find_yes qa _ m2.id _ SQ2 TQ2 HMQ.out p m2 HPN.out HPM.out).mono ?_) | (with_reducible refine (find_yes qa _ m2.id _ SQ3 TQ3 HMQ.out p m2 HPN.out HPM.out).mono ?_)); rintro e' w7 ⟨v1, v2, rfl, p1, p2, b7⟩; obtain ⟨A7, c7, rfl, -, -⟩ := own_shape p1; obtain ⟨A8, c8, rfl, -, -⟩ := own_shape p2; first | ((have QD := keep_7 QA b7 (by exact BQ.lt) (by exact BQ.lt) (by exact BQ.lt) (by exact BQ.lt) (by exact BQ.lt) (by exact BP.lt) (by exact l4P)); (have QE := keep_7 QD ((Below.refl w7.heap.size w7).alloc (Nat.le_refl _) (.cells #[.int .i64 0, .int .i64 0, .string ⟨#[]⟩, .slice none 0 0, .slice none 0 0] 49)) (by exact Nat.lt_of_lt_of_le BQ.lt b7.size) (by exact Nat.lt_of_lt_of_le BQ.lt b7.size) (by exact Nat.lt_of_lt_of_le BQ.lt b7.size) (by exact Nat.lt_of_lt_of_le BQ.lt b7.size) (by exact Nat.lt_of_lt_of_le BQ.lt b7.size) (by exact Nat.lt_of_lt_of_le BP.lt b7.size) (by exact Nat.lt_of_lt_of_le l4P b7.size)); (have QF := keep_7 QD ((Below.refl w7.heap.size w7).alloc (Nat.le_refl _) (.cells #[.int .i64 m2.id, .int .i64 m2.bk, .string m2.nm, .slice A7 m2.tg.length c7, .slice A8 m2.sh.length c8] 49)) (by exact Nat.lt_of_lt_of_le BQ.lt b7.size) (by exact Nat.lt_of_lt_of_le BQ.lt b7.size) (by exact Nat.lt_of_lt_of_le BQ.lt b7.size) (by exact Nat.lt_of_lt_of_le BQ.lt b7.size) (by exact Nat.lt_of_lt_of_le BQ.lt b7.size) (by exact Nat.lt_of_lt_of_le BP.lt b7.size) (by exact Nat.lt_of_lt_of_le l4P b7.size))) | ((have QD := keep_7 QB b7 (by have := BQ.lt; simp; omega) (by have := BQ.lt; simp; omega) (by have := BQ.lt; simp; omega) (by have := BQ.lt; simp; omega) (by have := BQ.lt; simp; omega) (by have := BP.lt; simp; omega) (by have := l4P; simp; omega)); (have B9 := BZ2.below b7 BZ2.lt); (have hb7 := (HZ2.trans (b7.mono HZ2.size))); (have r0 := B9.cell_ 0); (have t0 := B9.free 0); (have r1 := B9.cell_ 1); (have t1 := B9.free 1); (have r2 := B9.cell_ 2); (have t2 := B9.free 2); (have r3 := B9.cell_ 3); (have t3 := B9.free 3); (have r4 := B9.cell_ 4); (have t4 := B9.free 4); simp at r0 r1 r2 r3 r4; (have hbf := st5_below hb7 (Nat.le_refl wq.heap.size) 0 (.int .i64 m2.id) (.int .i64 m2.bk) (.string m2.nm) (.slice A7 m2.tg.length c7) (.slice A8 m2.sh.length c8) hb7.size); (have QG := keep_7 QP hbf (by exact BQ.lt) (by exact BQ.lt) (by exact BQ.lt) (by exact BQ.lt) (by exact BQ.lt) (by exact BP.lt) (by exact l4P))) | ((have QD := keep_7 QC b7 (by have := BQ.lt; simp; omega) (by have := BQ.lt; simp; omega) (by have := BQ.lt; simp; omega) (by have := BQ.lt; simp; omega) (by have := BQ.lt; simp; omega) (by have := BP.lt; simp; omega) (by have := l4P; simp; omega)); (have B9 := BZ3.below b7 BZ3.lt); (have hb7 := (hAL.trans (b7.mono hAL.size))); (have r0 := B9.cell_ 0); (have t0 := B9.free 0); (have r1 := B9.cell_ 1); (have t1 := B9.free 1); (have r2 := B9.cell_ 2); (have t2 := B9.free 2); (have r3 := B9.cell_ 3); (have t3 := B9.free 3); (have r4 := B9.cell_ 4); (have t4 := B9.free 4); simp at r0 r1 r2 r3 r4; (have hbf := st5_below hb7 (Nat.le_refl wq.heap.size) 0 (.int .i64 m2.id) (.int .i64 m2.bk) (.string m2.nm) (.slice A7 m2.tg.length c7) (.slice A8 m2.sh.length c8) hb7.size); (have QG := keep_7 QP hbf (by exact BQ.lt) (by exact BQ.lt) (by exact BQ.lt) (by exact BQ.lt) (by exact BQ.lt) (by exact BP.lt) (by exact l4P))))
                      go_wp2_with fail
                      refine hK.out _ _ ?_ (fun hNew => ?_)
                      · (first | with_reducible exact QA | with_reducible exact QB | with_reducible exact QC | with_reducible exact QD | with_reducible exact QE | with_reducible exact QF | exact QG)
                      clear hK K hHeld
                      have hHeld := hNew
                      clear hNew
                      try simp only [Act.put, pz1, pz2, pz3]
                      refine tk 8 ⟨some 148, .move (.tmp 156), 50, "more.go:37", #[⟨7, .data⟩], none⟩ ?_; try simp only [Act.put, pz1, pz2, pz3]
                      refine tk 9 ⟨some 157, .extract (.tmp 148) 0, 49, "more.go:37", #[⟨8, .data⟩], none⟩ ?_; try simp only [Act.put, pz1, pz2, pz3]
                      refine tk 10 ⟨some 158, .extract (.tmp 148) 1, 4, "more.go:37", #[⟨8, .data⟩, { on := 12, ground := Ground.gcOnly Departure.lateStores }], none⟩ ?_; try simp only [Act.put, pz1, pz2, pz3]
                      refine wpAnyH_ready (rs := [11]) (by kernel_rfl) (by simp) ?_
                      refine AllReadyH.cons (o := ⟨some 22, .alloc 49, 0, "more.go:37", #[], none⟩) rfl (fun K hK => ?_) AllReadyH.nil
                      go_simp
                      refine hK.out _ _ ?_ (fun hNew => ?_)
                      · (first | with_reducible exact QA | with_reducible exact QB | with_reducible exact QC | with_reducible exact QD | with_reducible exact QE | with_reducible exact QF | exact QG)
                      clear hK K hHeld
                      have hHeld := hNew
                      clear hNew
                      try simp only [Act.put, pz1, pz2, pz3]
                      refine wpAnyH_ready (rs := [12]) (by kernel_rfl) (by simp) ?_
                      refine AllReadyH.cons (o := ⟨none, .store 49 (.tmp 22) (.tmp 157), 0, "more.go:37", #[⟨11, .data⟩, ⟨9, .data⟩, ⟨7, .chain⟩, ⟨0, .phase⟩, ⟨1, .phase⟩, ⟨2, .phase⟩, ⟨3, .phase⟩, ⟨4, .phase⟩, ⟨5, .phase⟩, ⟨6, .phase⟩, ⟨7, .phase⟩, ⟨8, .phase⟩, ⟨9, .phase⟩, { on := 10, ground := Ground.textOnly Departure.lateStores }, ⟨11, .phase⟩], none⟩) rfl (fun K hK => ?_) AllReadyH.nil
                      go_simp
                      refine hK.out _ _ ?_ (fun hNew => ?_)
                      · (first | with_reducible exact QA | with_reducible exact QB | with_reducible exact QC | with_reducible exact QD | with_reducible exact QE | with_reducible exact QF | exact QG)
                      clear hK K hHeld
                      have hHeld := hNew
                      clear hNew
                      try simp only [Act.put, pz1, pz2, pz3]
                      refine tk 13 ⟨some 23, .assign (.tmp 158), 4, "more.go:37", #[⟨10, .data⟩, ⟨12, .chain⟩, ⟨0, .phase⟩, ⟨1, .phase⟩, ⟨2, .phase⟩, ⟨3, .phase⟩, ⟨4, .phase⟩, ⟨5, .phase⟩, ⟨6, .phase⟩, ⟨7, .phase⟩, ⟨8, .phase⟩, ⟨9, .phase⟩, ⟨10, .phase⟩, ⟨11, .phase⟩, ⟨12, .phase⟩], none⟩ ?_; try simp only [Act.put, pz1, pz2, pz3]
                      refine wpAnyH_done (by kernel_rfl) ?_ _
                      refine NoPanic.normal ?_
                      go_upto_region 25 with fail
                      have B9 : Blk (w7.alloc (.cells #[.int .i64 m2.id, .int .i64 m2.bk, .string m2.nm, .slice A7 m2.tg.length c7, .slice A8 m2.sh.length c8] 49)) w7.heap.size 49 #[.int .i64 m2.id, .int .i64 m2.bk, .string m2.nm, .slice A7 m2.tg.length c7, .slice A8 m2.sh.length c8] := Blk.new_ w7 49 #[.int .i64 m2.id, .int .i64 m2.bk, .string m2.nm, .slice A7 m2.tg.length c7, .slice A8 m2.sh.length c8]
                      have hbf : Below wq.heap.size wq (w7.alloc (.cells #[.int .i64 m2.id, .int .i64 m2.bk, .string m2.nm, .slice A7 m2.tg.length c7, .slice A8 m2.sh.length c8] 49)) := (btr (below_drew wq) (below_drew wq).size b7).alloc (btr (below_drew wq) (below_drew wq).size b7).size _
                      have SR1 := (Sl.of_own p1).next ((Below.refl _ w7).alloc (Nat.le_refl _) (.cells #[.int .i64 m2.id, .int .i64 m2.bk, .string m2.nm, .slice A7 m2.tg.length c7, .slice A8 m2.sh.length c8] 49))
                      have SR2 := (Sl.of_own p2).next ((Below.refl _ w7).alloc (Nat.le_refl _) (.cells #[.int .i64 m2.id, .int .i64 m2.bk, .string m2.nm, .slice A7 m2.tg.length c7, .slice A8 m2.sh.length c8] 49))
                      obtain ⟨wf, hwf⟩ : ∃ V : World, V = w7.alloc (.cells #[.int .i64 m2.id, .int .i64 m2.bk, .string m2.nm, .slice A7 m2.tg.length c7, .slice A8 m2.sh.length c8] 49) := ⟨_, rfl⟩
                      obtain ⟨g9, hg9⟩ : ∃ V : Nat, V = w7.heap.size := ⟨_, rfl⟩
                      rw [← hwf, ← hg9] at B9
                      rw [← hwf] at hbf SR1 SR2
                      rw [← hwf, ← hg9]
                      clear hwf hg9 QP QA QB QC QD QE QF hHeld b7 p1 p2 SQ TQ SQ2 TQ2 SQ3 TQ3 hAL HZ2 BZ2 BZ3
                      have c0 := B9.cell_ 0
                      have c1 := B9.cell_ 1
                      have c2 := B9.cell_ 2
                      have c3' := B9.cell_ 3
                      have c4' := B9.cell_ 4
                      simp at c0 c1 c2 c3' c4'
                      have f4 := keep_cell k4 hbf BP.lt
                      have f5 := keep_cell z0 hbf l4P
                      have f6 := keep_cell z1 hbf l4P
                      have f7 := keep_cell z2 hbf l4P
                      have f8 := keep_cell z3 hbf l4P
                      have f9 := keep_cell z4 hbf l4P
                      have Q5 : wf.cell? ⟨g9, 0, none⟩ = some (.int .i64 m2.id) ∧ wf.cell? ⟨g9, 1, none⟩ = some (.int .i64 m2.bk) ∧ wf.cell? ⟨g9, 2, none⟩ = some (.string m2.nm) ∧ wf.cell? ⟨g9, 3, none⟩ = some (.slice A7 m2.tg.length c7) ∧ wf.cell? ⟨g9, 4, none⟩ = some (.slice A8 m2.sh.length c8) ∧ wf.cell? ⟨w.heap.size, 4, none⟩ = some (.slice (some ⟨b4, o4, none⟩) T cn) ∧ wf.cell? ⟨b4, o4 + p * 5, none⟩ = some (.int .i64 m2.id) ∧ wf.cell? ⟨b4, o4 + p * 5 + 1, none⟩ = some (.int .i64 m2.bk) ∧ wf.cell? ⟨b4, o4 + p * 5 + 2, none⟩ = some (.string m2.nm) ∧ wf.cell? ⟨b4, o4 + p * 5 + 3, none⟩ = some (.slice At m2.tg.length ct) ∧ wf.cell? ⟨b4, o4 + p * 5 + 4, none⟩ = some (.slice As m2.sh.length cs) := ⟨c0, c1, c2, c3', c4', f4, f5, f6, f7, f8, f9⟩
                      have hbd := below_drew wf
                      have LQ9 := B9.lt
                      have LP9 : w.heap.size < wf.heap.size := Nat.lt_of_lt_of_le BP.lt hbf.size
                      have l49 : b4 < wf.heap.size := Nat.lt_of_lt_of_le l4P hbf.size
                      have Q5D := keep_11 Q5 hbd LQ9 LQ9 LQ9 LQ9 LQ9 LP9 l49 l49 l49 l49 l49
                      have hbZ := btr hbn hbn.size hbf
                      have SA3 := ((hAt.below (btr hbPw hbPw.size hbf)).mono_ (btr hbPw hbPw.size hbf).size).next hbd
                      have SA4 := ((hAs.below (btr hbPw hbPw.size hbf)).mono_ (btr hbPw hbPw.size hbf).size).next hbd
                      have SA1 := SR1.next hbd
                      have SA2 := SR2.next hbd
                      clear B9 SR1 SR2 c0 c1 c2 c3' c4' f4 f5 f6 f7 f8 f9 k4 ka0 ka1 ka2 ka3 ka4 z0 z1 z2 z3 z4 SP TP
                      refine wp_region_noPanic ?_
                      refine wp_region_held_drew (S := (fun w_ => w_.cell? ⟨g9, 0, none⟩ = some (.int .i64 m2.id) ∧ w_.cell? ⟨g9, 1, none⟩ = some (.int .i64 m2.bk) ∧ w_.cell? ⟨g9, 2, none⟩ = some (.string m2.nm) ∧ w_.cell? ⟨g9, 3, none⟩ = some (.slice A7 m2.tg.length c7) ∧ w_.cell? ⟨g9, 4, none⟩ = some (.slice A8 m2.sh.length c8) ∧ w_.cell? ⟨w.heap.size, 4, none⟩ = some (.slice (some ⟨b4, o4, none⟩) T cn) ∧ w_.cell? ⟨b4, o4 + p * 5, none⟩ = some (.int .i64 m2.id) ∧ w_.cell? ⟨b4, o4 + p * 5 + 1, none⟩ = some (.int .i64 m2.bk) ∧ w_.cell? ⟨b4, o4 + p * 5 + 2, none⟩ = some (.string m2.nm) ∧ w_.cell? ⟨b4, o4 + p * 5 + 3, none⟩ = some (.slice At m2.tg.length ct) ∧ w_.cell? ⟨b4, o4 + p * 5 + 4, none⟩ = some (.slice As m2.sh.length cs))) (by kernel_rfl) ?_ (fun hHeld => ?_)
                      · (first | with_reducible exact Q5D | with_reducible exact Q5E)
                      refine tk 0 ⟨some 159, .move (.tmp 23), 4, "more.go:38", #[], none⟩ ?_; try simp only [Act.put, pz1, pz2, pz3]
                      refine tk 1 ⟨some 160, .unOp .not 4 (.tmp 159), 4, "more.go:38", #[⟨0, .data⟩], none⟩ ?_; try simp only [Act.put, pz1, pz2, pz3]
                      refine tk 2 ⟨some 161, .move (.tmp 160), 4, "more.go:38", #[⟨1, .data⟩], none⟩ ?_; try simp only [Act.put, pz1, pz2, pz3]
                      refine tk 3 ⟨some 162, .fieldAddr 25 (.tmp 3) 4, 0, "more.go:38", #[⟨2, .guard⟩], some (2, false)⟩ ?_; try simp only [Act.put, pz1, pz2, pz3]
                      refine tk 4 ⟨some 163, .load 23 (.tmp 162), 23, "more.go:38", #[⟨3, .data⟩, ⟨2, .guard⟩], some (2, false)⟩ ?_; try simp only [Act.put, pz1, pz2, pz3]
                      refine tk 5 ⟨some 164, .move (.tmp 21), 3, "more.go:38", #[⟨2, .guard⟩], some (2, false)⟩ ?_; try simp only [Act.put, pz1, pz2, pz3]
                      refine tk 6 ⟨some 165, .indexAddr 23 (.tmp 163) (.tmp 164), 0, "more.go:38", #[⟨4, .data⟩, ⟨5, .data⟩, ⟨2, .guard⟩], some (2, false)⟩ ?_; try simp only [Act.put, pz1, pz2, pz3]
                      refine tk 7 ⟨some 166, .fieldAddr 49 (.tmp 165) 0, 0, "more.go:38", #[⟨6, .data⟩, ⟨2, .guard⟩], some (2, false)⟩ ?_; try simp only [Act.put, pz1, pz2, pz3]
                      refine tk 8 ⟨some 167, .load 3 (.tmp 166), 3, "more.go:38", #[⟨7, .data⟩, ⟨2, .guard⟩], some (2, false)⟩ ?_; try simp only [Act.put, pz1, pz2, pz3]
                      refine tk 9 ⟨some 168, .move (.tmp 1), 3, "more.go:38", #[⟨2, .guard⟩], some (2, false)⟩ ?_; try simp only [Act.put, pz1, pz2, pz3]
                      refine tk 10 ⟨some 169, .binOp .neq 3 (.tmp 167) (.tmp 168) 3, 4, "more.go:38", #[⟨8, .data⟩, ⟨9, .data⟩, ⟨2, .guard⟩], some (2, false)⟩ ?_; try simp only [Act.put, pz1, pz2, pz3]
                      refine tk 11 ⟨some 170, .move (.tmp 169), 4, "more.go:38", #[⟨10, .data⟩, ⟨2, .chain⟩, ⟨2, .guard⟩], some (2, false)⟩ ?_; try simp only [Act.put, pz1, pz2, pz3]
                      refine tk 12 ⟨some 171, .load 49 (.tmp 22), 49, "more.go:38", #[⟨11, .guard⟩], some (11, true)⟩ ?_; try simp only [Act.put, pz1, pz2, pz3]
                      refine tk 13 ⟨some 172, .fieldAddr 25 (.tmp 3) 4, 0, "more.go:38", #[⟨11, .guard⟩], some (11, true)⟩ ?_; try simp only [Act.put, pz1, pz2, pz3]
                      refine tk 14 ⟨some 173, .load 23 (.tmp 172), 23, "more.go:38", #[⟨13, .data⟩, ⟨11, .guard⟩], some (11, true)⟩ ?_; try simp only [Act.put, pz1, pz2, pz3]
                      refine tk 15 ⟨some 174, .move (.tmp 21), 3, "more.go:38", #[⟨11, .guard⟩], some (11, true)⟩ ?_; try simp only [Act.put, pz1, pz2, pz3]
                      refine tk 16 ⟨some 175, .indexAddr 23 (.tmp 173) (.tmp 174), 0, "more.go:38", #[⟨14, .data⟩, ⟨15, .data⟩, ⟨11, .guard⟩], some (11, true)⟩ ?_; try simp only [Act.put, pz1, pz2, pz3]
                      refine tk 17 ⟨some 176, .load 49 (.tmp 175), 49, "more.go:38", #[⟨16, .data⟩, ⟨11, .guard⟩], some (11, true)⟩ ?_; try simp only [Act.put, pz1, pz2, pz3]
                      refine wpAnyH_ready (rs := [18]) (by kernel_rfl) (by simp) ?_
                      refine AllReadyH.cons (o := ⟨some 177, .call { callee := .value (.func 24), args := #[.tmp 171, .tmp 176], argTypes := #[49, 49] }, 4, "more.go:38", #[⟨12, .data⟩, ⟨17, .data⟩, ⟨11, .chain⟩, ⟨11, .guard⟩], some (11, true)⟩) rfl (fun K hK => ?_) AllReadyH.nil
                      go_simp
                      (go_at_call 24; ((with_reducible refine (sameNote_yes m2 A7 A8 At As c7 c8 ct cs _ SA1 SA2 SA3 SA4 HMT.out HMS.out).mono ?_); rintro e' w9 ⟨rfl, b9⟩))
                      have Q5E := keep_11 Q5D b9 LQ9 LQ9 LQ9 LQ9 LQ9 LP9 l49 l49 l49 l49 l49
                      go_wp2_with fail
                      refine hK.out _ _ ?_ (fun hNew => ?_)
                      · (first | with_reducible exact Q5D | with_reducible exact Q5E)
                      clear hK K hHeld
                      have hHeld := hNew
                      clear hNew
                      try simp only [Act.put, pz1, pz2, pz3]
                      refine tk 19 ⟨some 178, .unOp .not 4 (.tmp 177), 4, "more.go:38", #[⟨18, .data⟩, ⟨11, .guard⟩], some (11, true)⟩ ?_; try simp only [Act.put, pz1, pz2, pz3]
                      refine tk 20 ⟨some 179, .pick (.tmp 170) (.tmp 178) (.const (.bool false)), 4, "more.go:38", #[⟨11, .data⟩, ⟨19, .data⟩, ⟨2, .guard⟩], some (2, false)⟩ ?_; try simp only [Act.put, pz1, pz2, pz3]
                      refine tk 21 ⟨some 180, .pick (.tmp 161) (.const (.bool true)) (.tmp 179), 4, "more.go:38", #[⟨2, .data⟩, ⟨20, .data⟩], none⟩ ?_; try simp only [Act.put, pz1, pz2, pz3]
                      refine wpAnyH_done (by kernel_rfl) ?_ _
                      refine NoPanic.normal ?_
                      go_wp2_with fail
                      go_roundw
                      case rel => exact ⟨p + 1, by omega, by go_num, btr hbZ hbZ.size (btr hbd hbd.size b9)⟩
                      case measure => simp [intOf]; omega
                    · go_simp
                      refine hK.out _ _ ?_ (fun hNew => ?_)
                      · (first | with_reducible exact QA | with_reducible exact QB | with_reducible exact QC | with_reducible exact QD | with_reducible exact QE | with_reducible exact QF | exact QG)
                      clear hK K hHeld
                      have hHeld := hNew
                      clear hNew
                      try simp only [Act.put, pz1, pz2, pz3]
                      refine wpAnyH_ready (rs := [7]) (by kernel_rfl) (by simp) ?_
                      refine AllReadyH.cons (o := ⟨some 156, .call { callee := .value (.func 19), args := #[.tmp 149, .tmp 155], argTypes := #[25, 3] }, 50, "more.go:37", #[⟨0, .data⟩, ⟨6, .data⟩], none⟩) rfl (fun K hK => ?_) AllReadyH.nil
                      go_simp
                      (go_at_call 19; (first | (with_reducible refine (find_yes qa _ m2.id _ SQ TQ HMQ.out p m2 HPN.out HPM.out).mono ?_) | (with_reducible refine (find_yes qa _ m2.id _ SQ2 TQ2 HMQ.out p m2 HPN.out HPM.out).mono ?_) | (with_reducible refine (find_yes qa _ m2.id _ SQ3 TQ3 HMQ.out p m2 HPN.out HPM.out).mono ?_)); rintro e' w7 ⟨v1, v2, rfl, p1, p2, b7⟩; obtain ⟨A7, c7, rfl, -, -⟩ := own_shape p1; obtain ⟨A8, c8, rfl, -, -⟩ := own_shape p2; first | ((have QD := keep_7 QA b7 (by exact BQ.lt) (by exact BQ.lt) (by exact BQ.lt) (by exact BQ.lt) (by exact BQ.lt) (by exact BP.lt) (by exact l4P)); (have QE := keep_7 QD ((Below.refl w7.heap.size w7).alloc (Nat.le_refl _) (.cells #[.int .i64 0, .int .i64 0, .string ⟨#[]⟩, .slice none 0 0, .slice none 0 0] 49)) (by exact Nat.lt_of_lt_of_le BQ.lt b7.size) (by exact Nat.lt_of_lt_of_le BQ.lt b7.size) (by exact Nat.lt_of_lt_of_le BQ.lt b7.size) (by exact Nat.lt_of_lt_of_le BQ.lt b7.size) (by exact Nat.lt_of_lt_of_le BQ.lt b7.size) (by exact Nat.lt_of_lt_of_le BP.lt b7.size) (by exact Nat.lt_of_lt_of_le l4P b7.size)); (have QF := keep_7 QD ((Below.refl w7.heap.size w7).alloc (Nat.le_refl _) (.cells #[.int .i64 m2.id, .int .i64 m2.bk, .string m2.nm, .slice A7 m2.tg.length c7, .slice A8 m2.sh.length c8] 49)) (by exact Nat.lt_of_lt_of_le BQ.lt b7.size) (by exact Nat.lt_of_lt_of_le BQ.lt b7.size) (by exact Nat.lt_of_lt_of_le BQ.lt b7.size) (by exact Nat.lt_of_lt_of_le BQ.lt b7.size) (by exact Nat.lt_of_lt_of_le BQ.lt b7.size) (by exact Nat.lt_of_lt_of_le BP.lt b7.size) (by exact Nat.lt_of_lt_of_le l4P b7.size))) | ((have QD := keep_7 QB b7 (by have := BQ.lt; simp; omega) (by have := BQ.lt; simp; omega) (by have := BQ.lt; simp; omega) (by have := BQ.lt; simp; omega) (by have := BQ.lt; simp; omega) (by have := BP.lt; simp; omega) (by have := l4P; simp; omega)); (have B9 := BZ2.below b7 BZ2.lt); (have hb7 := (HZ2.trans (b7.mono HZ2.size))); (have r0 := B9.cell_ 0); (have t0 := B9.free 0); (have r1 := B9.cell_ 1); (have t1 := B9.free 1); (have r2 := B9.cell_ 2); (have t2 := B9.free 2); (have r3 := B9.cell_ 3); (have t3 := B9.free 3); (have r4 := B9.cell_ 4); (have t4 := B9.free 4); simp at r0 r1 r2 r3 r4; (have hbf := st5_below hb7 (Nat.le_refl wq.heap.size) 0 (.int .i64 m2.id) (.int .i64 m2.bk) (.string m2.nm) (.slice A7 m2.tg.length c7) (.slice A8 m2.sh.length c8) hb7.size); (have QG := keep_7 QP hbf (by exact BQ.lt) (by exact BQ.lt) (by exact BQ.lt) (by exact BQ.lt) (by exact BQ.lt) (by exact BP.lt) (by exact l4P))) | ((have QD := keep_7 QC b7 (by have := BQ.lt; simp; omega) (by have := BQ.lt; simp; omega) (by have := BQ.lt; simp; omega) (by have := BQ.lt; simp; omega) (by have := BQ.lt; simp; omega) (by have := BP.lt; simp; omega) (by have := l4P; simp; omega)); (have B9 := BZ3.below b7 BZ3.lt); (have hb7 := (hAL.trans (b7.mono hAL.size))); (have r0 := B9.cell_ 0); (have t0 := B9.free 0); (have r1 := B9.cell_ 1); (have t1 := B9.free 1); (have r2 := B9.cell_ 2); (have t2 := B9.free 2); (have r3 := B9.cell_ 3); (have t3 := B9.free 3); (have r4 := B9.cell_ 4); (have t4 := B9.free 4); simp at r0 r1 r2 r3 r4; (have hbf := st5_below hb7 (Nat.le_refl wq.heap.size) 0 (.int .i64 m2.id) (.int .i64 m2.bk) (.string m2.nm) (.slice A7 m2.tg.length c7) (.slice A8 m2.sh.length c8) hb7.size); (have QG := keep_7 QP hbf (by exact BQ.lt) (by exact BQ.lt) (by exact BQ.lt) (by exact BQ.lt) (by exact BQ.lt) (by exact BP.lt) (by exact l4P))))
                      go_wp2_with fail
                      refine hK.out _ _ ?_ (fun hNew => ?_)
                      · (first | with_reducible exact QA | with_reducible exact QB | with_reducible exact QC | with_reducible exact QD | with_reducible exact QE | with_reducible exact QF | exact QG)
                      clear hK K hHeld
                      have hHeld := hNew
                      clear hNew
                      try simp only [Act.put, pz1, pz2, pz3]
                      refine tk 8 ⟨some 148, .move (.tmp 156), 50, "more.go:37", #[⟨7, .data⟩], none⟩ ?_; try simp only [Act.put, pz1, pz2, pz3]
                      refine tk 9 ⟨some 157, .extract (.tmp 148) 0, 49, "more.go:37", #[⟨8, .data⟩], none⟩ ?_; try simp only [Act.put, pz1, pz2, pz3]
                      refine tk 10 ⟨some 158, .extract (.tmp 148) 1, 4, "more.go:37", #[⟨8, .data⟩, { on := 12, ground := Ground.gcOnly Departure.lateStores }], none⟩ ?_; try simp only [Act.put, pz1, pz2, pz3]
                      refine wpAnyH_ready (rs := [12]) (by kernel_rfl) (by simp) ?_
                      refine AllReadyH.cons (o := ⟨none, .store 49 (.tmp 22) (.tmp 157), 0, "more.go:37", #[⟨11, .data⟩, ⟨9, .data⟩, ⟨7, .chain⟩, ⟨0, .phase⟩, ⟨1, .phase⟩, ⟨2, .phase⟩, ⟨3, .phase⟩, ⟨4, .phase⟩, ⟨5, .phase⟩, ⟨6, .phase⟩, ⟨7, .phase⟩, ⟨8, .phase⟩, ⟨9, .phase⟩, { on := 10, ground := Ground.textOnly Departure.lateStores }, ⟨11, .phase⟩], none⟩) rfl (fun K hK => ?_) AllReadyH.nil
                      go_simp
                      refine hK.out _ _ ?_ (fun hNew => ?_)
                      · (first | with_reducible exact QA | with_reducible exact QB | with_reducible exact QC | with_reducible exact QD | with_reducible exact QE | with_reducible exact QF | exact QG)
                      clear hK K hHeld
                      have hHeld := hNew
                      clear hNew
                      try simp only [Act.put, pz1, pz2, pz3]
                      refine tk 13 ⟨some 23, .assign (.tmp 158), 4, "more.go:37", #[⟨10, .data⟩, ⟨12, .chain⟩, ⟨0, .phase⟩, ⟨1, .phase⟩, ⟨2, .phase⟩, ⟨3, .phase⟩, ⟨4, .phase⟩, ⟨5, .phase⟩, ⟨6, .phase⟩, ⟨7, .phase⟩, ⟨8, .phase⟩, ⟨9, .phase⟩, ⟨10, .phase⟩, ⟨11, .phase⟩, ⟨12, .phase⟩], none⟩ ?_; try simp only [Act.put, pz1, pz2, pz3]
                      refine wpAnyH_done (by kernel_rfl) ?_ _
                      refine NoPanic.normal ?_
                      go_upto_region 25 with fail
                      have B9f := B9.st5_ (.int .i64 m2.id) (.int .i64 m2.bk) (.string m2.nm) (.slice A7 m2.tg.length c7) (.slice A8 m2.sh.length c8)
                      clear B9
                      have B9 := B9f
                      have hgE := st5_grown w7 wq.heap.size 0 (.int .i64 m2.id) (.int .i64 m2.bk) (.string m2.nm) (.slice A7 m2.tg.length c7) (.slice A8 m2.sh.length c8)
                      have SR1 := Sl.of_own (p1.kept hgE (own_off p1 (by simp)))
                      have SR2 := Sl.of_own (p2.kept hgE (own_off p2 (by simp)))
                      clear hgE
                      change Code.wp _ _ _ _ (st5 w7 wq.heap.size 0 (.int .i64 m2.id) (.int .i64 m2.bk) (.string m2.nm) (.slice A7 m2.tg.length c7) (.slice A8 m2.sh.length c8))
                      obtain ⟨wf, hwf⟩ : ∃ V : World, V = st5 w7 wq.heap.size 0 (.int .i64 m2.id) (.int .i64 m2.bk) (.string m2.nm) (.slice A7 m2.tg.length c7) (.slice A8 m2.sh.length c8) := ⟨_, rfl⟩
                      rw [← hwf] at B9 hbf SR1 SR2 ⊢
                      obtain ⟨g9, hg9⟩ : ∃ V : Nat, V = wq.heap.size := ⟨_, rfl⟩
                      rw [← hg9] at B9 ⊢
                      clear hwf hg9 B9f QP QA QB QC QD QG hHeld b7 p1 p2 SQ TQ SQ2 TQ2 SQ3 TQ3 hAL HZ2 BZ2 BZ3 hb7 r0 r1 r2 r3 r4 t0 t1 t2 t3 t4
                      have c0 := B9.cell_ 0
                      have c1 := B9.cell_ 1
                      have c2 := B9.cell_ 2
                      have c3' := B9.cell_ 3
                      have c4' := B9.cell_ 4
                      simp at c0 c1 c2 c3' c4'
                      have f4 := keep_cell k4 hbf BP.lt
                      have f5 := keep_cell z0 hbf l4P
                      have f6 := keep_cell z1 hbf l4P
                      have f7 := keep_cell z2 hbf l4P
                      have f8 := keep_cell z3 hbf l4P
                      have f9 := keep_cell z4 hbf l4P
                      have Q5 : wf.cell? ⟨g9, 0, none⟩ = some (.int .i64 m2.id) ∧ wf.cell? ⟨g9, 1, none⟩ = some (.int .i64 m2.bk) ∧ wf.cell? ⟨g9, 2, none⟩ = some (.string m2.nm) ∧ wf.cell? ⟨g9, 3, none⟩ = some (.slice A7 m2.tg.length c7) ∧ wf.cell? ⟨g9, 4, none⟩ = some (.slice A8 m2.sh.length c8) ∧ wf.cell? ⟨w.heap.size, 4, none⟩ = some (.slice (some ⟨b4, o4, none⟩) T cn) ∧ wf.cell? ⟨b4, o4 + p * 5, none⟩ = some (.int .i64 m2.id) ∧ wf.cell? ⟨b4, o4 + p * 5 + 1, none⟩ = some (.int .i64 m2.bk) ∧ wf.cell? ⟨b4, o4 + p * 5 + 2, none⟩ = some (.string m2.nm) ∧ wf.cell? ⟨b4, o4 + p * 5 + 3, none⟩ = some (.slice At m2.tg.length ct) ∧ wf.cell? ⟨b4, o4 + p * 5 + 4, none⟩ = some (.slice As m2.sh.length cs) := ⟨c0, c1, c2, c3', c4', f4, f5, f6, f7, f8, f9⟩
                      have hbd := below_drew wf
                      have LQ9 := B9.lt
                      have LP9 : w.heap.size < wf.heap.size := Nat.lt_of_lt_of_le BP.lt hbf.size
                      have l49 : b4 < wf.heap.size := Nat.lt_of_lt_of_le l4P hbf.size
                      have Q5D := keep_11 Q5 hbd LQ9 LQ9 LQ9 LQ9 LQ9 LP9 l49 l49 l49 l49 l49
                      have hbZ := btr hbn hbn.size hbf
                      have SA3 := ((hAt.below (btr hbPw hbPw.size hbf)).mono_ (btr hbPw hbPw.size hbf).size).next hbd
                      have SA4 := ((hAs.below (btr hbPw hbPw.size hbf)).mono_ (btr hbPw hbPw.size hbf).size).next hbd
                      have SA1 := SR1.next hbd
                      have SA2 := SR2.next hbd
                      clear B9 SR1 SR2 c0 c1 c2 c3' c4' f4 f5 f6 f7 f8 f9 k4 ka0 ka1 ka2 ka3 ka4 z0 z1 z2 z3 z4 SP TP
                      refine wp_region_noPanic ?_
                      refine wp_region_held_drew (S := (fun w_ => w_.cell? ⟨g9, 0, none⟩ = some (.int .i64 m2.id) ∧ w_.cell? ⟨g9, 1, none⟩ = some (.int .i64 m2.bk) ∧ w_.cell? ⟨g9, 2, none⟩ = some (.string m2.nm) ∧ w_.cell? ⟨g9, 3, none⟩ = some (.slice A7 m2.tg.length c7) ∧ w_.cell? ⟨g9, 4, none⟩ = some (.slice A8 m2.sh.length c8) ∧ w_.cell? ⟨w.heap.size, 4, none⟩ = some (.slice (some ⟨b4, o4, none⟩) T cn) ∧ w_.cell? ⟨b4, o4 + p * 5, none⟩ = some (.int .i64 m2.id) ∧ w_.cell? ⟨b4, o4 + p * 5 + 1, none⟩ = some (.int .i64 m2.bk) ∧ w_.cell? ⟨b4, o4 + p * 5 + 2, none⟩ = some (.string m2.nm) ∧ w_.cell? ⟨b4, o4 + p * 5 + 3, none⟩ = some (.slice At m2.tg.length ct) ∧ w_.cell? ⟨b4, o4 + p * 5 + 4, none⟩ = some (.slice As m2.sh.length cs))) (by kernel_rfl) ?_ (fun hHeld => ?_)
                      · (first | with_reducible exact Q5D | with_reducible exact Q5E)
                      refine tk 0 ⟨some 159, .move (.tmp 23), 4, "more.go:38", #[], none⟩ ?_; try simp only [Act.put, pz1, pz2, pz3]
                      refine tk 1 ⟨some 160, .unOp .not 4 (.tmp 159), 4, "more.go:38", #[⟨0, .data⟩], none⟩ ?_; try simp only [Act.put, pz1, pz2, pz3]
                      refine tk 2 ⟨some 161, .move (.tmp 160), 4, "more.go:38", #[⟨1, .data⟩], none⟩ ?_; try simp only [Act.put, pz1, pz2, pz3]
                      refine tk 3 ⟨some 162, .fieldAddr 25 (.tmp 3) 4, 0, "more.go:38", #[⟨2, .guard⟩], some (2, false)⟩ ?_; try simp only [Act.put, pz1, pz2, pz3]
                      refine tk 4 ⟨some 163, .load 23 (.tmp 162), 23, "more.go:38", #[⟨3, .data⟩, ⟨2, .guard⟩], some (2, false)⟩ ?_; try simp only [Act.put, pz1, pz2, pz3]
                      refine tk 5 ⟨some 164, .move (.tmp 21), 3, "more.go:38", #[⟨2, .guard⟩], some (2, false)⟩ ?_; try simp only [Act.put, pz1, pz2, pz3]
                      refine tk 6 ⟨some 165, .indexAddr 23 (.tmp 163) (.tmp 164), 0, "more.go:38", #[⟨4, .data⟩, ⟨5, .data⟩, ⟨2, .guard⟩], some (2, false)⟩ ?_; try simp only [Act.put, pz1, pz2, pz3]
                      refine tk 7 ⟨some 166, .fieldAddr 49 (.tmp 165) 0, 0, "more.go:38", #[⟨6, .data⟩, ⟨2, .guard⟩], some (2, false)⟩ ?_; try simp only [Act.put, pz1, pz2, pz3]
                      refine tk 8 ⟨some 167, .load 3 (.tmp 166), 3, "more.go:38", #[⟨7, .data⟩, ⟨2, .guard⟩], some (2, false)⟩ ?_; try simp only [Act.put, pz1, pz2, pz3]
                      refine tk 9 ⟨some 168, .move (.tmp 1), 3, "more.go:38", #[⟨2, .guard⟩], some (2, false)⟩ ?_; try simp only [Act.put, pz1, pz2, pz3]
                      refine tk 10 ⟨some 169, .binOp .neq 3 (.tmp 167) (.tmp 168) 3, 4, "more.go:38", #[⟨8, .data⟩, ⟨9, .data⟩, ⟨2, .guard⟩], some (2, false)⟩ ?_; try simp only [Act.put, pz1, pz2, pz3]
                      refine tk 11 ⟨some 170, .move (.tmp 169), 4, "more.go:38", #[⟨10, .data⟩, ⟨2, .chain⟩, ⟨2, .guard⟩], some (2, false)⟩ ?_; try simp only [Act.put, pz1, pz2, pz3]
                      refine tk 12 ⟨some 171, .load 49 (.tmp 22), 49, "more.go:38", #[⟨11, .guard⟩], some (11, true)⟩ ?_; try simp only [Act.put, pz1, pz2, pz3]
                      refine tk 13 ⟨some 172, .fieldAddr 25 (.tmp 3) 4, 0, "more.go:38", #[⟨11, .guard⟩], some (11, true)⟩ ?_; try simp only [Act.put, pz1, pz2, pz3]
                      refine tk 14 ⟨some 173, .load 23 (.tmp 172), 23, "more.go:38", #[⟨13, .data⟩, ⟨11, .guard⟩], some (11, true)⟩ ?_; try simp only [Act.put, pz1, pz2, pz3]
                      refine tk 15 ⟨some 174, .move (.tmp 21), 3, "more.go:38", #[⟨11, .guard⟩], some (11, true)⟩ ?_; try simp only [Act.put, pz1, pz2, pz3]
                      refine tk 16 ⟨some 175, .indexAddr 23 (.tmp 173) (.tmp 174), 0, "more.go:38", #[⟨14, .data⟩, ⟨15, .data⟩, ⟨11, .guard⟩], some (11, true)⟩ ?_; try simp only [Act.put, pz1, pz2, pz3]
                      refine tk 17 ⟨some 176, .load 49 (.tmp 175), 49, "more.go:38", #[⟨16, .data⟩, ⟨11, .guard⟩], some (11, true)⟩ ?_; try simp only [Act.put, pz1, pz2, pz3]
                      refine wpAnyH_ready (rs := [18]) (by kernel_rfl) (by simp) ?_
                      refine AllReadyH.cons (o := ⟨some 177, .call { callee := .value (.func 24), args := #[.tmp 171, .tmp 176], argTypes := #[49, 49] }, 4, "more.go:38", #[⟨12, .data⟩, ⟨17, .data⟩, ⟨11, .chain⟩, ⟨11, .guard⟩], some (11, true)⟩) rfl (fun K hK => ?_) AllReadyH.nil
                      go_simp
                      (go_at_call 24; ((with_reducible refine (sameNote_yes m2 A7 A8 At As c7 c8 ct cs _ SA1 SA2 SA3 SA4 HMT.out HMS.out).mono ?_); rintro e' w9 ⟨rfl, b9⟩))
                      have Q5E := keep_11 Q5D b9 LQ9 LQ9 LQ9 LQ9 LQ9 LP9 l49 l49 l49 l49 l49
                      go_wp2_with fail
                      refine hK.out _ _ ?_ (fun hNew => ?_)
                      · (first | with_reducible exact Q5D | with_reducible exact Q5E)
                      clear hK K hHeld
                      have hHeld := hNew
                      clear hNew
                      try simp only [Act.put, pz1, pz2, pz3]
                      refine tk 19 ⟨some 178, .unOp .not 4 (.tmp 177), 4, "more.go:38", #[⟨18, .data⟩, ⟨11, .guard⟩], some (11, true)⟩ ?_; try simp only [Act.put, pz1, pz2, pz3]
                      refine tk 20 ⟨some 179, .pick (.tmp 170) (.tmp 178) (.const (.bool false)), 4, "more.go:38", #[⟨11, .data⟩, ⟨19, .data⟩, ⟨2, .guard⟩], some (2, false)⟩ ?_; try simp only [Act.put, pz1, pz2, pz3]
                      refine tk 21 ⟨some 180, .pick (.tmp 161) (.const (.bool true)) (.tmp 179), 4, "more.go:38", #[⟨2, .data⟩, ⟨20, .data⟩], none⟩ ?_; try simp only [Act.put, pz1, pz2, pz3]
                      refine wpAnyH_done (by kernel_rfl) ?_ _
                      refine NoPanic.normal ?_
                      go_wp2_with fail
                      go_roundw
                      case rel => exact ⟨p + 1, by omega, by go_num, btr hbZ hbZ.size (btr hbd hbd.size b9)⟩
                      case measure => simp [intOf]; omega
                · have j1 : ¬ (p : Int) < (T : Int) := by omega
                  have HB := hbPw
                  have T1 := TP
                  clear hlp SP BP BQ ka0 ka1 ka2 ka3 ka4
                  go_wp2_with (first | (go_at_call 9; ((with_reducible refine (awake_any _ T1).mono ?_); rintro e' wA ⟨rfl, bx⟩; have HB := btr HB HB.size bx)))
                  go_ret
                  exact ⟨rfl, HB⟩
  · skip
    go_enter Tryd.func7, Tryd.ntmps7
    go_wp2_with (first | (go_at_call 8; ((with_reducible refine (greatShelf_any s _ _ S1 _ HG.out).mono ?_); rintro e' w2 ⟨rfl, bx⟩; have T1 := T1.next bx; have HB := btr HB HB.size bx; have B1 := B1.below bx B1.lt; have S1 := S1.next bx; (try clear ks0 ks1 ks2 ks3 ks4); have ks0 := B1.cell_ 0; have ks1 := B1.cell_ 1; have ks2 := B1.cell_ 2; have ks3 := B1.cell_ 3; have ks4 := B1.cell_ 4; simp at ks0 ks1 ks2 ks3 ks4; clear bx)) | (go_at_call 17; ((with_reducible refine (smay_any s _ _ S1 T1 _ HM.out).mono ?_); rintro e' w3 ⟨rfl, bx⟩; have T1 := T1.next bx; have HB := btr HB HB.size bx; have B1 := B1.below bx B1.lt; have S1 := S1.next bx; (try clear ks0 ks1 ks2 ks3 ks4); have ks0 := B1.cell_ 0; have ks1 := B1.cell_ 1; have ks2 := B1.cell_ 2; have ks3 := B1.cell_ 3; have ks4 := B1.cell_ 4; simp at ks0 ks1 ks2 ks3 ks4; clear bx)) | (go_at_call 9; ((with_reducible refine (awake_any _ T1).mono ?_); rintro e' wA ⟨rfl, bx⟩; have HB := btr HB HB.size bx)))
    go_ret
    exact ⟨rfl, HB⟩
end Go.Proofs.YtkaoechjekffmaaDoor
namespace Go.Proofs.YtkaoechjekffmaaDoor
open Go.ChangeShapes Go.WideShapes Go.ChangeAt Go.RowKit
theorem acc_eq : Rows.laid_unicode_utf8_acceptRanges = Lib.acceptData := by kernel_rfl
theorem first_eq : Rows.laid_unicode_utf8_first = Lib.firstData := Pinned.utf8First_eq
def laidTabs : List (String × DataW Unit) := [("unicode/utf8.acceptRanges", Lib.acceptData), ("unicode/utf8.first", Lib.firstData)]
theorem laid_eq : [("unicode/utf8.acceptRanges", Rows.laid_unicode_utf8_acceptRanges), ("unicode/utf8.first", Rows.laid_unicode_utf8_first)] = laidTabs := by rw [acc_eq, first_eq]; rfl
noncomputable def laidWorld (os : Os) : World :=
  let w0 := World.holding Tryd.prog os ⟨#[], #[], []⟩
  let put (h : Array Obj) (g : Nat) (cs : Array Value) : Array Obj := h.modify g fun
    | .cells _ t frozen => .cells cs t frozen
    | o => o
  let h1 := put w0.heap 0 (Lib.firstTab.map fun z => Value.int .u8 z).toArray
  let h2 := put h1 1 ((List.range 16).flatMap fun i => [Value.int .u8 (Lib.accLo i), Value.int .u8 (Lib.accHi i)]).toArray
  { w0 with heap := h2 }
theorem noHandle (w : World) : laidMetH Tryd.prog laidTabs w ↔ laidMet Tryd.prog laidTabs w := by
  have e : (laidTabs.filter fun x => x.2.handleName?.isSome) = [] := by kernel_rfl
  unfold laidMetH
  rw [e]
theorem laid_met (os : Os) (args : Array Value) : laidMetH Tryd.prog [("unicode/utf8.acceptRanges", Rows.laid_unicode_utf8_acceptRanges), ("unicode/utf8.first", Rows.laid_unicode_utf8_first)] ((laidWorld os).forCall (fun _ _ => 0) ⟨#[], args, []⟩).memory := by
  rw [laid_eq, noHandle]
  exact (LaidIn.of_run (l := laidTabs) [0, 1] 8 (by kernel_rfl) (by kernel_rfl) (by kernel_rfl) (by kernel_rfl)).met
theorem tabs_of {W : World} (h : laidMetH Tryd.prog [("unicode/utf8.acceptRanges", Rows.laid_unicode_utf8_acceptRanges), ("unicode/utf8.first", Rows.laid_unicode_utf8_first)] W) : Tabs W := by
  rw [laid_eq, noHandle] at h
  exact utf8Tabs_of_readsT (U8Types.of196 Tryd.laysValid) ⟨by kernel_rfl, by kernel_rfl, by kernel_rfl, by kernel_rfl, by kernel_rfl, by kernel_rfl, by kernel_rfl⟩ (Lib.laidMet.reads h (.tail _ (.head _))) (Lib.laidMet.reads h (.head _))
end Go.Proofs.YtkaoechjekffmaaDoor
