/- slices.BinarySearch and slices.Insert on tags; Tag. -/
import Derived.Test.YtkaoechjekffmaaDoorNz7
import Derived.Shelf.Spec.SearchS
import Derived.Shelf.Spec.SlicesInsert
import Derived.Shelf.Spec.SlicesInsertGrow
import Derived.Test.YtkaoechjekffmaaDoorNz2
import Derived.Test.YtkaoechjekffmaaDoorNz1
import Derived.Test.YtkaoechjekffmaaDoorRows
import Derived.SevenTiedAt
import Derived.LaidHandle
import Derived.Lib.LaidIn
import Derived.Lib.LaidU8T
import Derived.PinnedBridge
import Derived.ChangeMaps5
set_option linter.unusedSimpArgs false
set_option linter.unusedVariables false
set_option maxRecDepth 100000
set_option maxHeartbeats 16000000
namespace Go.Proofs.YtkaoechjekffmaaDoor
open Go.ChangeShapes Go.WideShapes Go.ChangeAt Go.RowKit
attribute [local go_sem ↓] Go.wp_at_zero Go.wp_at_succ
theorem tgPos_spec : ∀ (l : List ByteArray) (x : ByteArray), (∀ (j : Nat) (y : ByteArray), j < tgPos l x → l[j]? = some y → lessS y x = true) ∧ (∀ y, l[tgPos l x]? = some y → lessS y x = false)
  | [], _ => ⟨fun j y _ h => by simp at h, fun y h => by simp at h⟩
  | z :: l, x => by
    have ih := tgPos_spec l x
    unfold tgPos
    by_cases hz : lessS z x = true
    · rw [if_pos hz]
      refine ⟨fun j y hj h => ?_, fun y h => ih.2 y (by simpa using h)⟩
      cases j with
      | zero => simp at h; rw [← h]; exact hz
      | succ j => exact ih.1 j y (by omega) (by simpa using h)
    · rw [if_neg hz]
      refine ⟨fun j y hj h => absurd hj (Nat.not_lt_zero _), fun y h => ?_⟩
      simp at h
      rw [← h]
      simpa using hz
theorem tgPos_hi {l : List ByteArray} (hp : l.Pairwise fun a b => lessS a b = true) (x : ByteArray) (j : Nat) (y : ByteArray) (hj : tgPos l x ≤ j) (h : l[j]? = some y) : lessS y x = false := by
  rcases Nat.eq_or_lt_of_le hj with e | hlt
  · exact (tgPos_spec l x).2 y (by rw [e]; exact h)
  · have hjl := (List.getElem?_eq_some_iff.1 h).1
    have hkl : tgPos l x < l.length := by omega
    have h1 := (tgPos_spec l x).2 _ (List.getElem?_eq_getElem hkl)
    cases h2 : lessS y x
    · rfl
    · have h3 := List.pairwise_iff_getElem.1 hp (tgPos l x) j hkl hjl hlt
      rw [(List.getElem?_eq_some_iff.1 h).2] at h3
      rw [lessS_trans h3 h2] at h1
      cases h1
theorem tg_there {l : List ByteArray} (hp : l.Pairwise fun a b => lessS a b = true) (x : ByteArray) : hasT l x = true ↔ l[tgPos l x]? = some x := by
  rw [hasT_iff]
  constructor
  · intro hx
    obtain ⟨j, hj, he⟩ := List.mem_iff_getElem.1 hx
    have hjx : l[j]? = some x := by rw [List.getElem?_eq_getElem hj, he]
    have h1 : tgPos l x ≤ j := by
      rcases Nat.lt_or_ge j (tgPos l x) with h | h
      · have := (tgPos_spec l x).1 j x h hjx
        rw [lessS_irr] at this
        cases this
      · exact h
    rcases Nat.eq_or_lt_of_le h1 with e | hlt
    · rw [e]
      exact hjx
    · have hkl : tgPos l x < l.length := by omega
      have h2 := (tgPos_spec l x).2 _ (List.getElem?_eq_getElem hkl)
      have h3 := List.pairwise_iff_getElem.1 hp (tgPos l x) j hkl hj hlt
      rw [he] at h3
      rw [h3] at h2
      cases h2
  · intro h
    exact List.mem_of_getElem? h
theorem bsStr (l : List ByteArray) (L : Nat) (A : Option Addr) (c : Nat) (x : ByteArray) (w : World) (hL : l.length = L) (hS : Sl w w.heap.size A (l.map strV)) (h4 : L ≤ 100000) (hp : l.Pairwise fun a b => lessS a b = true) :
    Calls Tryd.prog 45 #[.slice A L c, .string x] w fun e' w' => e' = .returned (.tuple #[.int .i64 (tgPos l x : Int), .bool (hasT l x)]) ∧ Below w.heap.size w w' := by
  by_cases h0 : L = 0
  · subst h0
    have : l = [] := List.length_eq_zero_iff.1 hL
    subst this
    refine (show Calls Tryd.prog 45 _ w _ from Any2.slices_BinarySearch_string_empty Tryd.laysSearch A c x w).mono ?_
    rintro e' w' ⟨rfl, rfl⟩
    exact ⟨rfl, Below.refl _ _⟩
  · obtain ⟨b, o, rfl, _, hq⟩ := hS.at_ (by rw [List.length_map]; omega)
    have hx : ∀ j (hj : j < l.length), (l[j]?).getD x = l[j] := fun j hj => by rw [List.getElem?_eq_getElem hj]; rfl
    have h := Any2.slices_BinarySearch_string Tryd.laysSearch b o L c (fun j => (l[j]?).getD x) x w (by omega) (fun j hj => by
      have hjl : j < l.length := by omega
      show w.cell? _ = some (.string ((l[j]?).getD x))
      rw [hx j hjl]
      exact hq j _ (by rw [List.getElem?_map, List.getElem?_eq_getElem hjl]; rfl))
    have hle := tgPos_le l x
    have hbs : Lib.bsGo (fun t => Op.bytesLess ((l[t]?).getD x).toList x.toList) L 0 L = tgPos l x := by
      refine Lib.bsGo_spec _ (tgPos l x) (fun t ht => ?_) (fun t ht => ?_) L 0 L (by omega) (Nat.zero_le _) (by omega)
      · have htl : t < l.length := by omega
        rw [hx t htl]
        exact (tgPos_spec l x).1 t _ ht (List.getElem?_eq_getElem htl)
      · rcases Nat.lt_or_ge t l.length with htl | htl
        · rw [hx t htl]
          exact tgPos_hi hp x t _ ht (List.getElem?_eq_getElem htl)
        · rw [List.getElem?_eq_none htl]
          exact lessS_irr x
    rw [hbs] at h
    have hb : decide (tgPos l x < L ∧ (l[tgPos l x]?).getD x = x) = hasT l x := by
      cases ht : hasT l x
      · rw [decide_eq_false_iff_not]
        rintro ⟨h1, h2⟩
        rw [hx _ (by omega)] at h2
        have : hasT l x = true := (tg_there hp x).2 (by rw [List.getElem?_eq_getElem (by omega), h2])
        rw [ht] at this
        cases this
      · rw [decide_eq_true_eq]
        have h1 := (tg_there hp x).1 ht
        exact ⟨by rw [← hL]; exact (List.getElem?_eq_some_iff.1 h1).1, by rw [h1]; rfl⟩
    rw [hb] at h
    refine (show Calls Tryd.prog 45 _ w _ from h).mono ?_
    rintro e' w' ⟨rfl, q, rfl⟩
    exact ⟨rfl, below_dn (Below.refl _ _) q⟩
theorem cells_set (g : Nat) (e : TypeId) (fr : Nat × Nat) : ∀ (vs : List Value) (o : Nat) (w : World) (cur : Array Value), w.heap[g]? = some (.cells cur e fr) → ∃ cur', (w.setCells g o vs).heap[g]? = some (.cells cur' e fr) ∧ cur'.size = cur.size ∧ (∀ j, j < o ∨ o + vs.length ≤ j → cur'[j]? = cur[j]?) ∧ (∀ j, j < vs.length → o + j < cur.size → cur'[o + j]? = vs[j]?) ∧ w.grownBy (w.setCells g o vs) (some g)
  | [], o, w, cur, h => ⟨cur, h, rfl, fun _ _ => rfl, fun j hj => absurd hj (Nat.not_lt_zero _), World.grownBy.refl w _⟩
  | u :: vs, o, w, cur, h => by
    have h1 : (w.setCell ⟨g, o, none⟩ u).heap[g]? = some (.cells (cur.setIfInBounds o u) e fr) := by
      simp only [World.setCell, Array.getElem?_modify, if_pos, h, Option.map_some]
      rfl
    obtain ⟨cur', q1, q2, q3, q4, q5⟩ := cells_set g e fr vs (o + 1) (w.setCell ⟨g, o, none⟩ u) _ h1
    refine ⟨cur', q1, by rw [q2, Array.size_setIfInBounds], fun j hj => ?_, fun j hj hjs => ?_, ?_⟩
    · rw [List.length_cons] at hj
      rw [q3 j (by omega), Array.getElem?_setIfInBounds, if_neg (by omega)]
    · rw [List.length_cons] at hj
      cases j with
      | zero =>
        rw [Nat.add_zero] at hjs ⊢
        rw [q3 o (by omega), Array.getElem?_setIfInBounds, if_pos rfl, if_pos hjs]
        rfl
      | succ j =>
        have := q4 j (by omega) (by rw [Array.size_setIfInBounds]; omega)
        rw [show o + (j + 1) = o + 1 + j by omega, this]
        rfl
    · exact ⟨q5.os.trans (set1_grown w g o u).os, q5.tape.trans (set1_grown w g o u).tape, q5.output.trans (set1_grown w g o u).output, Nat.le_trans (set1_grown w g o u).size q5.size, fun k hk hne => (q5.block k (Nat.lt_of_lt_of_le hk (set1_grown w g o u).size) hne).trans ((set1_grown w g o u).block k hk hne)⟩
theorem own_of_cur {w : World} {base g n cap : Nat} {e : TypeId} {cur : Array Value} {ys : List Value} (h : w.heap[g]? = some (.cells cur e (0, 0))) (hb : base ≤ g) (hn : n ≤ cap) (hm : cap ≤ maxLen) (hs : cur.size = cap) (hy : ys.length = n) (hc : ∀ j, j < n → cur[j]? = ys[j]?) : w.ownsRow base e 1 (.slice (some ⟨g, 0, none⟩) n cap) n ys := by
  refine ⟨by omega, Or.inr ⟨g, cap, cur, rfl, hb, h, hn, hm, by omega, ?_⟩⟩
  apply List.ext_getElem?
  intro j
  rw [List.getElem?_take, Nat.mul_one, Array.getElem?_toList]
  split
  · exact hc j (by assumption)
  · rw [List.getElem?_eq_none (by omega)]
theorem insAt {α : Type} (l : List α) (i : Nat) (x : α) (hi : i ≤ l.length) (j : Nat) : (l.take i ++ [x] ++ l.drop i)[j]? = if j < i then l[j]? else if j = i then some x else l[j - 1]? := by
  have h1 : (l.take i).length = i := by rw [List.length_take]; omega
  rw [List.append_assoc, List.getElem?_append, h1]
  split
  · rename_i h
    rw [List.getElem?_take_of_lt h]
  · rename_i h
    split
    · rename_i h2
      subst h2
      simp
    · rename_i h2
      obtain ⟨r, hr⟩ : ∃ r, j - i = r + 1 := ⟨j - i - 1, by omega⟩
      rw [hr]
      simp only [List.cons_append, List.nil_append, List.getElem?_cons_succ, List.getElem?_drop]
      congr 1
      omega
theorem insStr (w : World) (base : Nat) (A : Option Addr) (L c i vb : Nat) (l : List ByteArray) (x : ByteArray) (h : w.ownsRow base 9 1 (.slice A L c) L (l.map strV)) (hi : i ≤ L) (h4 : L ≤ 100000) (hv : Blk w vb 9 #[.string x]) (hne : (Value.slice A L c).ownBlock ≠ some vb) (hbs : base ≤ w.heap.size) :
    Calls Tryd.prog 48 #[.slice A L c, .int .i64 (i : Int), .slice (some ⟨vb, 0, none⟩) 1 1] w fun e' w' => ∃ v', e' = .returned v' ∧ w'.ownsRow base 9 1 v' (L + 1) ((l.take i ++ [x] ++ l.drop i).map strV) ∧ w.grownBy w' (Value.slice A L c).ownBlock := by
  have hl : l.length = L := by have := h.1; simpa using this
  have hcl : (l.map strV).length = L := by rw [List.length_map]; exact hl
  have hyl : ((l.take i ++ [x] ++ l.drop i).map strV).length = L + 1 := by
    simp
    omega
  have hys : ∀ j, ((l.take i ++ [x] ++ l.drop i).map strV)[j]? = if j < i then (l.map strV)[j]? else if j = i then some (.string x) else (l.map strV)[j - 1]? := fun j => by
    rw [List.getElem?_map, insAt l i x (by omega) j]
    split
    · rw [List.getElem?_map]
    · split
      · rfl
      · rw [List.getElem?_map]
  have hvs : ∀ (j : Nat) (v : Value), [Value.string x][j]? = some v → w.cell? ⟨vb, 0 + j, none⟩ = some v := fun j v hj => by
    cases j with
    | zero =>
      have := hv.cell_ 0
      simp at this hj
      rw [Nat.add_zero, ← hj]
      exact this
    | succ j => simp at hj
  have h1v : ∀ v ∈ [Value.string x], v.oneCell' = true := fun v hm => by
    simp at hm
    subst hm
    rfl
  have h1c : ∀ v ∈ l.map strV, v.oneCell' = true := fun v hm => by
    obtain ⟨t, _, rfl⟩ := List.mem_map.1 hm
    rfl
  have hnew : ∀ (cur : Array Value) (fr : Nat × Nat), w.grownBy (w.alloc (.cells cur 9 fr)) (Value.slice A L c).ownBlock := fun cur fr =>
    ⟨rfl, rfl, rfl, by simp, fun k hk _ => (by first | exact heap_alloc_old w _ hk | exact heap_alloc_old w _ k hk)⟩
  have hend : L < c + 1 → L ≤ c → c < L + 1 → i = L → (A = none → L = 0) → (∀ a, A = some a → ∀ (j : Nat) (v : Value), (l.map strV)[j]? = some v → w.cell? (a.add j) = some v) → Calls Tryd.prog 48 #[.slice A L c, .int .i64 (i : Int), .slice (some ⟨vb, 0, none⟩) 1 1] w fun e' w' => ∃ v', e' = .returned v' ∧ w'.ownsRow base 9 1 v' (L + 1) ((l.take i ++ [x] ++ l.drop i).map strV) ∧ w.grownBy w' (Value.slice A L c).ownBlock := by
    intro _ hLc hcr hiL hnil hca
    subst hiL
    have hC := Any2.slices_Insert_string_end_grow Tryd.laysInsert A i c vb 0 1 1 (l.map strV) [.string x] w (by decide) hLc hcr (by omega) hcl rfl hnil hca hvs h1v
    refine (show Calls Tryd.prog 48 _ w _ from hC).mono ?_
    rintro e' w' ⟨rfl, rfl⟩
    have hge := grownCap_ge w (i + 1) c 9
    have hle := grownCap_le_maxLen w (i + 1) c 9 (by unfold maxLen; omega)
    refine ⟨_, rfl, own_of_cur (heap_alloc_new w.drew _) hbs hge hle ?_ hyl (fun j hj => ?_), ?_⟩
    · have hz := size_zeroCells (Value.string ⟨#[]⟩).cells (grownCap w (i + 1) c 9 - (i + 1))
      have hz1 : (Value.string ⟨#[]⟩).cells.size = 1 := rfl
      rw [hz1] at hz
      rw [Array.size_append]
      show ((l.map strV) ++ [Value.string x]).toArray.size + (Builtin.zeroCells (Value.string ⟨#[]⟩).cells (grownCap w (i + 1) c 9 - (i + 1))).size = grownCap w (i + 1) c 9
      rw [hz]
      simp
      omega
    · rw [hys j, Array.getElem?_append_left (by simp; omega)]
      simp only [List.getElem?_toArray]
      by_cases hj1 : j < i
      · rw [if_pos hj1, List.getElem?_append_left (by omega)]
      · obtain rfl : j = i := by omega
        rw [if_neg hj1, if_pos rfl, List.getElem?_append_right (by omega), hcl]
        simp
    · refine ⟨rfl, rfl, rfl, Nat.le_of_lt (by show w.drew.heap.size < (w.drew.alloc _).heap.size; simp), fun k hk _ => ?_⟩
      first | exact heap_alloc_old w.drew _ hk | exact heap_alloc_old w.drew _ k hk
  rcases h.2 with ⟨hA, hL0⟩ | ⟨g, cap, cur, hA, hb, hg, hnc, hm, hs, ht⟩
  · cases hA
    exact hend (by omega) (by omega) (by omega) (by omega) (fun _ => rfl) (fun a ha => by cases ha)
  · cases hA
    have hs1 : cur.size = c := by omega
    have hcur : ∀ j, j < L → cur[j]? = (l.map strV)[j]? := fun j hj => by
      rw [← ht, List.getElem?_take, if_pos (by omega), Array.getElem?_toList]
    have hgl : g < w.heap.size := by
      rcases Nat.lt_or_ge g w.heap.size with hx | hx
      · exact hx
      · rw [Array.getElem?_eq_none hx] at hg
        cases hg
    have hgv : vb ≠ g := fun e => hne (by rw [e]; rfl)
    have hcs : ∀ (j : Nat) (v : Value), (l.map strV)[j]? = some v → w.cell? ⟨g, 0 + j, none⟩ = some v := fun j v hj => by
      have hjl : j < L := by have := (List.getElem?_eq_some_iff.1 hj).1; omega
      rw [Nat.zero_add, h.cellAt j (by omega)]
      exact hj
    have hcell : ∀ j, w.cell? ⟨g, j, none⟩ = cur[j]? := fun j => by
      simp [World.cell?, hg]
    by_cases hroom : L + 1 ≤ c
    · have hsp : ∀ j, j < L + 1 → (w.cell? ⟨g, 0 + j, none⟩).isSome = true := fun j hj => by
        rw [Nat.zero_add, hcell, Array.getElem?_eq_getElem (by omega)]
        rfl
      by_cases hil : i < L
      · have hC := Any2.slices_Insert_string_shift Tryd.laysInsert g 0 L c i vb 0 1 1 (l.map strV) [.string x] w hil (by decide) hroom (by unfold maxLen at hm; omega) hgv hcl rfl hcs hsp (fun j _ => by rw [Nat.zero_add]; exact h.frozenAt j) hvs h1c h1v 9 9 1 c (by simp only [World.shape?]; rw [show w.heap[vb]? = _ from hv]; rfl) (by simp only [World.shape?]; rw [hg, ← hs1]) (by omega) (hv.free 0) (hv.free 1)
        refine (show Calls Tryd.prog 48 _ w _ from hC).mono ?_
        rintro e' w' ⟨rfl, rfl⟩
        obtain ⟨cur1, p1, p2, p3, p4, p5⟩ := cells_set g 9 (0, 0) ((l.map strV).drop i) (0 + (i + 1)) w.drew cur hg
        obtain ⟨cur2, r1, r2, r3, r4, r5⟩ := cells_set g 9 (0, 0) [.string x] (0 + i) _ cur1 p1
        have hdl : ((l.map strV).drop i).length = L - i := by rw [List.length_drop, hcl]
        refine ⟨_, rfl, own_of_cur r1 hb hroom hm (by omega) hyl (fun j hj => ?_), ⟨r5.os.trans p5.os, r5.tape.trans p5.tape, r5.output.trans p5.output, Nat.le_trans p5.size r5.size, fun k hk hne2 => (r5.block k (Nat.lt_of_lt_of_le hk p5.size) hne2).trans (p5.block k hk hne2)⟩⟩
        rw [hys j]
        by_cases hj1 : j < i
        · rw [if_pos hj1, r3 j (by left; omega), p3 j (by left; omega), hcur j (by omega)]
        · rw [if_neg hj1]
          by_cases hj2 : j = i
          · subst hj2
            rw [if_pos rfl]
            have := r4 0 (by simp) (by omega)
            rw [Nat.add_zero, Nat.zero_add] at this
            rw [this]
            rfl
          · rw [if_neg hj2, r3 j (by right; simp; omega)]
            have := p4 (j - (i + 1)) (by omega) (by omega)
            rw [show 0 + (i + 1) + (j - (i + 1)) = j by omega, List.getElem?_drop, show i + (j - (i + 1)) = j - 1 by omega] at this
            exact this
      · obtain rfl : i = L := by omega
        have hC := Any2.slices_Insert_string_end_room Tryd.laysInsert g 0 i c vb 0 1 1 [.string x] w (by decide) hroom (by unfold maxLen at hm; omega) rfl (fun j hj => hsp (i + j) (by omega) |> fun q => by rw [show 0 + i + j = 0 + (i + j) by omega]; exact q) (fun j _ => h.frozenAt _) hvs h1v
        refine (show Calls Tryd.prog 48 _ w _ from hC).mono ?_
        rintro e' w' ⟨rfl, rfl⟩
        obtain ⟨cur2, r1, r2, r3, r4, r5⟩ := cells_set g 9 (0, 0) [.string x] (0 + i) w cur hg
        refine ⟨_, rfl, own_of_cur r1 hb hroom hm (by omega) hyl (fun j hj => ?_), r5⟩
        rw [hys j]
        by_cases hj1 : j < i
        · rw [if_pos hj1, r3 j (by left; omega), hcur j (by omega)]
        · obtain rfl : j = i := by omega
          rw [if_neg hj1, if_pos rfl]
          have := r4 0 (by simp) (by omega)
          rw [Nat.add_zero, Nat.zero_add] at this
          rw [this]
          rfl
    · by_cases hil : i < L
      · have hC := Any2.slices_Insert_string_grow Tryd.laysInsert g 0 L c i vb 0 1 1 (l.map strV) [.string x] w hil (by decide) hnc (by omega) (by omega) hcl rfl hcs hvs h1c h1v
        refine (show Calls Tryd.prog 48 _ w _ from hC).mono ?_
        rintro e' w' ⟨rfl, rfl⟩
        have hge := grownCap_ge w (L + 1) c 9
        have hle := grownCap_le_maxLen w (L + 1) c 9 (by unfold maxLen; omega)
        change ∃ v', _ = Ending.returned v' ∧ World.ownsRow (((w.alloc (.cells (((l.map strV).take i).toArray ++ Builtin.zeroCells (Value.string ⟨#[]⟩).cells (L + 1 - i) ++ Builtin.zeroCells (Value.string ⟨#[]⟩).cells (grownCap w (L + 1) c 9 - (L + 1))) 9)).drew.setCells w.heap.size i [.string x]).drew.setCells w.heap.size (i + 1) ((l.map strV).drop i)) _ _ _ _ _ _ ∧ w.grownBy (((w.alloc (.cells (((l.map strV).take i).toArray ++ Builtin.zeroCells (Value.string ⟨#[]⟩).cells (L + 1 - i) ++ Builtin.zeroCells (Value.string ⟨#[]⟩).cells (grownCap w (L + 1) c 9 - (L + 1))) 9)).drew.setCells w.heap.size i [.string x]).drew.setCells w.heap.size (i + 1) ((l.map strV).drop i)) _
        have hz1 : (Value.string ⟨#[]⟩).cells.size = 1 := rfl
        obtain ⟨cur0, hc0⟩ : ∃ a, a = ((l.map strV).take i).toArray ++ Builtin.zeroCells (Value.string ⟨#[]⟩).cells (L + 1 - i) ++ Builtin.zeroCells (Value.string ⟨#[]⟩).cells (grownCap w (L + 1) c 9 - (L + 1)) := ⟨_, rfl⟩
        have hs0 : cur0.size = grownCap w (L + 1) c 9 := by
          rw [hc0, Array.size_append, Array.size_append, size_zeroCells, size_zeroCells, hz1]
          simp
          omega
        have hg0 : ∀ j, j < i → cur0[j]? = (l.map strV)[j]? := fun j hj => by
          rw [hc0, Array.getElem?_append_left (by rw [Array.size_append]; simp; omega), Array.getElem?_append_left (by simp; omega)]
          rw [List.getElem?_toArray, List.getElem?_take_of_lt hj]
        rw [← hc0]
        have p0 : (w.alloc (.cells cur0 9)).heap[w.heap.size]? = some (.cells cur0 9 (0, 0)) := heap_alloc_new w _
        obtain ⟨cur1, p1, p2, p3, p4, p5⟩ := cells_set w.heap.size 9 (0, 0) [.string x] i (w.alloc (.cells cur0 9)).drew cur0 p0
        obtain ⟨cur2, r1, r2, r3, r4, r5⟩ := cells_set w.heap.size 9 (0, 0) ((l.map strV).drop i) (i + 1) ((w.alloc (.cells cur0 9)).drew.setCells w.heap.size i [.string x]).drew cur1 p1
        have hdl : ((l.map strV).drop i).length = L - i := by rw [List.length_drop, hcl]
        have hn1 := hnew cur0 (0, 0)
        refine ⟨_, rfl, own_of_cur r1 hbs hge hle (show cur2.size = grownCap w (L + 1) c 9 by omega) hyl (fun j hj => ?_), ⟨r5.os.trans (p5.os.trans hn1.os), r5.tape.trans (p5.tape.trans hn1.tape), r5.output.trans (p5.output.trans hn1.output), Nat.le_trans hn1.size (Nat.le_trans p5.size r5.size), fun k hk hne2 => (r5.block k (Nat.lt_of_lt_of_le hk (Nat.le_trans hn1.size p5.size)) (fun e => by cases e; omega)).trans ((p5.block k (Nat.lt_of_lt_of_le hk hn1.size) (fun e => by cases e; omega)).trans (hn1.block k hk hne2))⟩⟩
        rw [hys j]
        by_cases hj1 : j < i
        · rw [if_pos hj1, r3 j (by left; omega), p3 j (by left; omega), hg0 j hj1]
        · rw [if_neg hj1]
          by_cases hj2 : j = i
          · subst hj2
            rw [if_pos rfl, r3 j (by left; omega)]
            have := p4 0 (by simp) (by omega)
            rw [Nat.add_zero] at this
            rw [this]
            rfl
          · rw [if_neg hj2]
            have := r4 (j - (i + 1)) (by omega) (by omega)
            rw [show i + 1 + (j - (i + 1)) = j by omega, List.getElem?_drop, show i + (j - (i + 1)) = j - 1 by omega] at this
            exact this
      · exact hend (by omega) (by omega) (by omega) (by omega) (fun e => by cases e) (fun a ha j v hj => by
          cases ha
          have := hcs j v hj
          rw [Nat.zero_add] at this
          rw [Addr.add_lit, Nat.zero_add]
          exact this)
theorem ntag_no (s : Sf) (v : Value) (y : Int) (x : ByteArray) (w : World) (hS : ShR w w.heap.size v s) (hT : Tabs w) (c : Int) (hc : tagC s y x = c) (hne : c ≠ 0) :
    Calls Tryd.prog 18 #[v, .int .i64 y, .string x] w fun e' w' => e' = .returned (.tuple #[.agg #[.int .i64 0, .int .i64 0, .int .i64 0, .slice none 0 0, .slice none 0 0], .int .i64 c]) ∧ Below w.heap.size w w' := by
  have hS0 := hS
  obtain ⟨Ab, cb, An, cn, rfl, hB, hN, hcb, hmb, hcn, hmn⟩ := hS.ex
  clear hS
  obtain ⟨HB, B1, B2, S1⟩ := pre2 hS0
  have T1 := hT.next HB
  by_cases hf : findC s y = 0
  · obtain ⟨k, n, h⟩ := fdF_of hf
    obtain ⟨es, hel, hse, hnt⟩ := hN.ex
    have hkl : k < s.ts.length := (List.getElem?_eq_some_iff.1 h.nt).1
    obtain ⟨e0, he⟩ : ∃ e, es[k]? = some e := ⟨_, List.getElem?_eq_getElem (by omega)⟩
    obtain ⟨At, ct, As, cs, rfl, hAt, -⟩ := (hnt k n e0 h.nt he).ex
    obtain ⟨b1, o1, rfl, l1, q1⟩ := hse.at_ (by omega)
    have y3 := q1 k _ he 3 _ rfl
    have i0 : (0 : Int) ≤ (k : Int) := by omega
    have i1 : (k : Int) < (s.ts.length : Int) := by omega
    have i2 : ¬ (k : Int) < 0 := by omega
    have HL4 : Hid (n.tg.length ≤ 100000) := Lib.hid (h.may.small n (List.mem_of_getElem? h.nt)).1
    have hmt := tg_iff.1 (mayNt_iff.1 (h.may.ts n (List.mem_of_getElem? h.nt)).2.2).2.2.2
    have HSRT := Lib.hid hmt.2.2
    have HF := Lib.hid h
    obtain ⟨L, hL⟩ : ∃ L, n.tg.length = L := ⟨_, rfl⟩
    obtain ⟨T, hTe⟩ : ∃ T, s.ts.length = T := ⟨_, rfl⟩
    have HLL := Lib.hid hL
    have HTT := Lib.hid hTe
    rw [hL] at y3
    rw [hTe] at i1 HB B1 B2 S1 T1 ⊢
    rw [hL] at HL4
    obtain ⟨P, hP⟩ : ∃ P, tgPos n.tg x = P := ⟨_, rfl⟩
    have HP := Lib.hid hP
    obtain ⟨H, hH⟩ : ∃ H, hasT n.tg x = H := ⟨_, rfl⟩
    obtain ⟨N, hN9⟩ : ∃ N, mayN x = N := ⟨_, rfl⟩
    unfold tagC at hc
    rw [hf, h.of_, hH, hN9, hL] at hc
    have HH := Lib.hid hH
    have HN : Hid (nameB x.data.toList = N) := Lib.hid hN9
    clear hP hH hN9 hmt h hL hTe hkl he q1 hse hel hnt hN hB hS0 hT hcb hmb hcn hmn hf
    cases N
    · obtain rfl : c = 6 := hc.symm
      clear hc hne
      go_enter Tryd.func18, Tryd.ntmps18
      go_wp2_with (first | (go_at_call 44; ((with_reducible refine (nfind_yes s _ y _ S1 T1 k n HF.out).mono ?_); rintro e' w3 ⟨rfl, bx⟩; (try clear k0 k1 k2 k3 k4 r0 r1 r2 r3 r4 t0 t1 t2 t3 t4); obtain ⟨S1, T1, B1, B2, HB, k0, k1, k2, k3, k4, r0, r1, r2, r3, r4, t0, t1, t2, t3, t4⟩ := keepT S1 T1 B1 B2 HB bx; clear bx; have z3 := (HB.cell (p := ⟨b1, o1 + k * 5 + 3, none⟩) l1).trans y3; have SA := (hAt.below HB).mono_ HB.size)) | (go_at_call 45; ((with_reducible refine (bsStr n.tg L At ct x _ HLL.out SA HL4.out HSRT.out).mono ?_); rintro e' w4 ⟨rfl, bx⟩; rw [HP.out, HH.out]; clear SA; (try clear k0 k1 k2 k3 k4 r0 r1 r2 r3 r4 t0 t1 t2 t3 t4); obtain ⟨S1, T1, B1, B2, HB, k0, k1, k2, k3, k4, r0, r1, r2, r3, r4, t0, t1, t2, t3, t4⟩ := keepT S1 T1 B1 B2 HB bx; clear bx)) | (go_at_call 46; ((with_reducible refine (nmay_any x _ _ T1 HN.out).mono ?_); rintro e' w5 ⟨rfl, bx⟩; (try clear k0 k1 k2 k3 k4 r0 r1 r2 r3 r4 t0 t1 t2 t3 t4); obtain ⟨S1, T1, B1, B2, HB, k0, k1, k2, k3, k4, r0, r1, r2, r3, r4, t0, t1, t2, t3, t4⟩ := keepT S1 T1 B1 B2 HB bx; clear bx)))
      have B2u := z5_blk B2
      have hb2 := z5_below HB (g := w.heap.size + 1) (by omega)
      change bodyPost _ _ _ _ _ (z5 w5 (w.heap.size + 1))
      generalize z5 w5 (w.heap.size + 1) = Wd at B2u hb2 ⊢
      apply bodyPost_ret (v := .tuple #[.agg #[.int .i64 0, .int .i64 0, .int .i64 0, .slice none 0 0, .slice none 0 0], .int .i64 6])
      · exact results_cell1 Tryd.results18 _ Wd _ 25 #[.int .i64 0, .int .i64 0, .int .i64 0, .slice none 0 0, .slice none 0 0] (0, 0) _ rfl B2u Tryd.underlying25 rfl (by kernel_rfl)
      · rfl
      · exact ⟨rfl, hb2⟩
    · cases H
      · by_cases g4 : 4 ≤ L
        · obtain rfl : c = 3 := by simpa [g4] using hc.symm
          have g5 : (4 : Int) ≤ (L : Int) := by omega
          clear hc hne
          go_enter Tryd.func18, Tryd.ntmps18
          go_wp2_with (first | (go_at_call 44; ((with_reducible refine (nfind_yes s _ y _ S1 T1 k n HF.out).mono ?_); rintro e' w3 ⟨rfl, bx⟩; (try clear k0 k1 k2 k3 k4 r0 r1 r2 r3 r4 t0 t1 t2 t3 t4); obtain ⟨S1, T1, B1, B2, HB, k0, k1, k2, k3, k4, r0, r1, r2, r3, r4, t0, t1, t2, t3, t4⟩ := keepT S1 T1 B1 B2 HB bx; clear bx; have z3 := (HB.cell (p := ⟨b1, o1 + k * 5 + 3, none⟩) l1).trans y3; have SA := (hAt.below HB).mono_ HB.size)) | (go_at_call 45; ((with_reducible refine (bsStr n.tg L At ct x _ HLL.out SA HL4.out HSRT.out).mono ?_); rintro e' w4 ⟨rfl, bx⟩; rw [HP.out, HH.out]; clear SA; (try clear k0 k1 k2 k3 k4 r0 r1 r2 r3 r4 t0 t1 t2 t3 t4); obtain ⟨S1, T1, B1, B2, HB, k0, k1, k2, k3, k4, r0, r1, r2, r3, r4, t0, t1, t2, t3, t4⟩ := keepT S1 T1 B1 B2 HB bx; clear bx)) | (go_at_call 46; ((with_reducible refine (nmay_any x _ _ T1 HN.out).mono ?_); rintro e' w5 ⟨rfl, bx⟩; (try clear k0 k1 k2 k3 k4 r0 r1 r2 r3 r4 t0 t1 t2 t3 t4); obtain ⟨S1, T1, B1, B2, HB, k0, k1, k2, k3, k4, r0, r1, r2, r3, r4, t0, t1, t2, t3, t4⟩ := keepT S1 T1 B1 B2 HB bx; clear bx)))
          have B2u := z5_blk B2
          have hb2 := z5_below HB (g := w.heap.size + 1) (by omega)
          change bodyPost _ _ _ _ _ (z5 w5 (w.heap.size + 1))
          generalize z5 w5 (w.heap.size + 1) = Wd at B2u hb2 ⊢
          apply bodyPost_ret (v := .tuple #[.agg #[.int .i64 0, .int .i64 0, .int .i64 0, .slice none 0 0, .slice none 0 0], .int .i64 3])
          · exact results_cell1 Tryd.results18 _ Wd _ 25 #[.int .i64 0, .int .i64 0, .int .i64 0, .slice none 0 0, .slice none 0 0] (0, 0) _ rfl B2u Tryd.underlying25 rfl (by kernel_rfl)
          · rfl
          · exact ⟨rfl, hb2⟩
        · exact absurd (by simpa [g4] using hc.symm) hne
      · obtain rfl : c = 7 := hc.symm
        clear hc hne
        go_enter Tryd.func18, Tryd.ntmps18
        go_wp2_with (first | (go_at_call 44; ((with_reducible refine (nfind_yes s _ y _ S1 T1 k n HF.out).mono ?_); rintro e' w3 ⟨rfl, bx⟩; (try clear k0 k1 k2 k3 k4 r0 r1 r2 r3 r4 t0 t1 t2 t3 t4); obtain ⟨S1, T1, B1, B2, HB, k0, k1, k2, k3, k4, r0, r1, r2, r3, r4, t0, t1, t2, t3, t4⟩ := keepT S1 T1 B1 B2 HB bx; clear bx; have z3 := (HB.cell (p := ⟨b1, o1 + k * 5 + 3, none⟩) l1).trans y3; have SA := (hAt.below HB).mono_ HB.size)) | (go_at_call 45; ((with_reducible refine (bsStr n.tg L At ct x _ HLL.out SA HL4.out HSRT.out).mono ?_); rintro e' w4 ⟨rfl, bx⟩; rw [HP.out, HH.out]; clear SA; (try clear k0 k1 k2 k3 k4 r0 r1 r2 r3 r4 t0 t1 t2 t3 t4); obtain ⟨S1, T1, B1, B2, HB, k0, k1, k2, k3, k4, r0, r1, r2, r3, r4, t0, t1, t2, t3, t4⟩ := keepT S1 T1 B1 B2 HB bx; clear bx)) | (go_at_call 46; ((with_reducible refine (nmay_any x _ _ T1 HN.out).mono ?_); rintro e' w5 ⟨rfl, bx⟩; (try clear k0 k1 k2 k3 k4 r0 r1 r2 r3 r4 t0 t1 t2 t3 t4); obtain ⟨S1, T1, B1, B2, HB, k0, k1, k2, k3, k4, r0, r1, r2, r3, r4, t0, t1, t2, t3, t4⟩ := keepT S1 T1 B1 B2 HB bx; clear bx)))
        have B2u := z5_blk B2
        have hb2 := z5_below HB (g := w.heap.size + 1) (by omega)
        change bodyPost _ _ _ _ _ (z5 w5 (w.heap.size + 1))
        generalize z5 w5 (w.heap.size + 1) = Wd at B2u hb2 ⊢
        apply bodyPost_ret (v := .tuple #[.agg #[.int .i64 0, .int .i64 0, .int .i64 0, .slice none 0 0, .slice none 0 0], .int .i64 7])
        · exact results_cell1 Tryd.results18 _ Wd _ 25 #[.int .i64 0, .int .i64 0, .int .i64 0, .slice none 0 0, .slice none 0 0] (0, 0) _ rfl B2u Tryd.underlying25 rfl (by kernel_rfl)
        · rfl
        · exact ⟨rfl, hb2⟩
  · have hcf : findC s y = c := by
      unfold tagC at hc
      have : (findC s y == 0) = false := by simpa using hf
      rw [this] at hc
      exact hc
    have HC := Lib.hid hcf
    have HE := Lib.hid hne
    have he0 : ¬ c = 0 := hne
    clear hf hcf hc hne
    clear hS0 hT hB hN hcb hmb hcn hmn
    go_enter Tryd.func18, Tryd.ntmps18
    go_wp2_with (first | (go_at_call 44; ((with_reducible refine (nfind_no s _ y _ S1 T1 c HC.out HE.out).mono ?_); rintro e' w3 ⟨rfl, bx⟩; (try clear k0 k1 k2 k3 k4 r0 r1 r2 r3 r4 t0 t1 t2 t3 t4); obtain ⟨S1, T1, B1, B2, HB, k0, k1, k2, k3, k4, r0, r1, r2, r3, r4, t0, t1, t2, t3, t4⟩ := keepT S1 T1 B1 B2 HB bx; clear bx)))
    have B2u := z5_blk B2
    have hb2 := z5_below HB (g := w.heap.size + 1) (by omega)
    change bodyPost _ _ _ _ _ (z5 w3 (w.heap.size + 1))
    generalize z5 w3 (w.heap.size + 1) = Wd at B2u hb2 ⊢
    apply bodyPost_ret (v := .tuple #[.agg #[.int .i64 0, .int .i64 0, .int .i64 0, .slice none 0 0, .slice none 0 0], .int .i64 c])
    · exact results_cell1 Tryd.results18 _ Wd _ 25 #[.int .i64 0, .int .i64 0, .int .i64 0, .slice none 0 0, .slice none 0 0] (0, 0) _ rfl B2u Tryd.underlying25 rfl (by kernel_rfl)
    · rfl
    · exact ⟨rfl, hb2⟩
theorem ntag_yes (s : Sf) (v : Value) (y : Int) (x : ByteArray) (w : World) (hS : ShR w w.heap.size v s) (hT : Tabs w) (hc : tagC s y x = 0) :
    Calls Tryd.prog 18 #[v, .int .i64 y, .string x] w fun e' w' => ∃ v', e' = .returned (.tuple #[v', .int .i64 0]) ∧ ShW w' w.heap.size v' (tagS s y x) ∧ Below w.heap.size w w' := by
  have hS0 := hS
  obtain ⟨Ab, cb, An, cn, rfl, hB, hN, hcb, hmb, hcn, hmn⟩ := hS.ex
  clear hS
  obtain ⟨HB, B1, B2, S1⟩ := pre2 hS0
  have T1 := hT.next HB
  have hf : findC s y = 0 := by
    unfold tagC at hc
    by_cases h : findC s y = 0
    · exact h
    · have h2 : (findC s y == 0) = false := by simpa using h
      rw [h2] at hc
      exact absurd hc h
  obtain ⟨k, n, h⟩ := fdF_of hf
  obtain ⟨hN9, hH9, hL9⟩ : mayN x = true ∧ hasT n.tg x = false ∧ n.tg.length < 4 := by
    unfold tagC at hc
    rw [hf, h.of_] at hc
    cases h1 : mayN x
    · rw [h1] at hc
      cases hc
    · cases h2 : hasT n.tg x
      · rw [h1, h2] at hc
        refine ⟨rfl, rfl, ?_⟩
        rcases Nat.lt_or_ge n.tg.length 4 with h3 | h3
        · exact h3
        · rw [decide_eq_true h3] at hc
          cases hc
      · rw [h1, h2] at hc
        cases hc
  have HNN := Lib.hid h.nt
  have hMF := h.may
  have HLB : Hid (s.bs.length ≤ 100000) := Lib.hid (by have := hMF.bl; omega)
  have HLN : Hid (s.ts.length ≤ 100000) := Lib.hid (by have := hMF.tl; omega)
  have HLR := Lib.hid hMF.small
  have HKL : Hid (k < s.ts.length) := Lib.hid (List.getElem?_eq_some_iff.1 h.nt).1
  have HF := Lib.hid h
  obtain ⟨es, hel, hse, hnt⟩ := hN.ex
  have hkl : k < s.ts.length := (List.getElem?_eq_some_iff.1 h.nt).1
  obtain ⟨e0, he⟩ : ∃ e, es[k]? = some e := ⟨_, List.getElem?_eq_getElem (by omega)⟩
  obtain ⟨At, ct, As, cs, rfl, hAt, -⟩ := (hnt k n e0 h.nt he).ex
  obtain ⟨b1, o1, rfl, l1, q1⟩ := hse.at_ (by omega)
  have y3 := q1 k _ he 3 _ rfl
  have i0 : (0 : Int) ≤ (k : Int) := by omega
  have i1 : (k : Int) < (s.ts.length : Int) := by omega
  have i2 : ¬ (k : Int) < 0 := by omega
  have HL4 : Hid (n.tg.length ≤ 100000) := Lib.hid (h.may.small n (List.mem_of_getElem? h.nt)).1
  have hmt := tg_iff.1 (mayNt_iff.1 (h.may.ts n (List.mem_of_getElem? h.nt)).2.2).2.2.2
  have HSRT := Lib.hid hmt.2.2
  have HRS : Hid (tagS s y x = { s with ts := s.ts.set k { n with tg := tgIns n.tg x } }) := Lib.hid (by unfold tagS; rw [h.of_, h.put])
  obtain ⟨L, hL⟩ : ∃ L, n.tg.length = L := ⟨_, rfl⟩
  obtain ⟨T, hTe⟩ : ∃ T, s.ts.length = T := ⟨_, rfl⟩
  have HLL := Lib.hid hL
  have HTT := Lib.hid hTe
  rw [hL] at y3
  rw [hTe] at i1 HB B1 B2 S1 T1 ⊢
  rw [hL] at HL4
  obtain ⟨P, hP⟩ : ∃ P, tgPos n.tg x = P := ⟨_, rfl⟩
  have HP := Lib.hid hP
  rw [hL] at hL9
  have HI9 : Hid (n.tg.take P ++ [x] ++ n.tg.drop P = tgIns n.tg x) := Lib.hid (by unfold tgIns; rw [hP])
  have hPL : P ≤ L := by rw [← hP, ← hL]; exact tgPos_le _ _
  have HH := Lib.hid hH9
  have HN : Hid (nameB x.data.toList = true) := Lib.hid hN9
  have hL8 := HL4.out
  have g5 : ¬ (4 : Int) ≤ (L : Int) := by omega
  clear hP hH9 hN9 hmt hc h hL hTe hkl he q1 hse hel hnt hN hB hS0 hT hcb hmb hcn hmn hf hMF
  go_enter Tryd.func18, Tryd.ntmps18
  go_upto_region 12 with (first | (go_at_call 44; ((with_reducible refine (nfind_yes s _ y _ S1 T1 k n HF.out).mono ?_); rintro e' w3 ⟨rfl, bx⟩; (try clear k0 k1 k2 k3 k4 r0 r1 r2 r3 r4 t0 t1 t2 t3 t4); obtain ⟨S1, T1, B1, B2, HB, k0, k1, k2, k3, k4, r0, r1, r2, r3, r4, t0, t1, t2, t3, t4⟩ := keepT S1 T1 B1 B2 HB bx; clear bx; have z3 := (HB.cell (p := ⟨b1, o1 + k * 5 + 3, none⟩) l1).trans y3; have SA := (hAt.below HB).mono_ HB.size)) | (go_at_call 45; ((with_reducible refine (bsStr n.tg L At ct x _ HLL.out SA HL4.out HSRT.out).mono ?_); rintro e' w4 ⟨rfl, bx⟩; rw [HP.out, HH.out]; clear SA; (try clear k0 k1 k2 k3 k4 r0 r1 r2 r3 r4 t0 t1 t2 t3 t4); obtain ⟨S1, T1, B1, B2, HB, k0, k1, k2, k3, k4, r0, r1, r2, r3, r4, t0, t1, t2, t3, t4⟩ := keepT S1 T1 B1 B2 HB bx; clear bx)) | (go_at_call 46; ((with_reducible refine (nmay_any x _ _ T1 HN.out).mono ?_); rintro e' w5 ⟨rfl, bx⟩; (try clear k0 k1 k2 k3 k4 r0 r1 r2 r3 r4 t0 t1 t2 t3 t4); obtain ⟨S1, T1, B1, B2, HB, k0, k1, k2, k3, k4, r0, r1, r2, r3, r4, t0, t1, t2, t3, t4⟩ := keepT S1 T1 B1 B2 HB bx; clear bx)))
  have hW5 : w.heap.size + 2 ≤ w5.heap.size := by have := B2.lt; omega
  go_upto_region 13 with (go_at_call 47; ((with_reducible refine (clone_ap s _ _ S1 HLB.out HLN.out HLR.out).mono ?_); rintro e' w9 ⟨v6, rfl, hQ, b6⟩; obtain ⟨Ab6, cb6, An6, cn6, rfl, hBk, hNt, q1, q2, q3, q4⟩ := ShA.parts hQ; have B1 := B1.below b6 B1.lt; have B2 := B2.below b6 B2.lt; have HB := btr HB HB.size b6; have hz6 := b6.size; (try clear k0 k1 k2 k3 k4 r0 r1 r2 r3 r4 t0 t1 t2 t3 t4); have k0 := B1.cell_ 0; have t0 := B1.free 0; have k1 := B1.cell_ 1; have t1 := B1.free 1; have k2 := B1.cell_ 2; have t2 := B1.free 2; have k3 := B1.cell_ 3; have t3 := B1.free 3; have k4 := B1.cell_ 4; have t4 := B1.free 4; simp at k0 k1 k2 k3 k4; clear b6 hQ S1 T1))
  have B1u := B1.st5_ (.int .i64 s.nb) (.int .i64 s.nn) (.int .i64 s.ns) (.slice Ab6 s.bs.length cb6) (.slice An6 s.ts.length cn6)
  have hg6 := st5_grown w9 w.heap.size 0 (.int .i64 s.nb) (.int .i64 s.nn) (.int .i64 s.ns) (.slice Ab6 s.bs.length cb6) (.slice An6 s.ts.length cn6)
  have B2u := B2.grown hg6 (by omega)
  have hBk2 := hBk.far hg6 (by omega)
  have hNt2 := hNt.far hg6 (by omega)
  have hb2 := below_grown HB hg6 (Nat.le_refl _) HB.size
  have HSZ : Hid (w5.heap.size ≤ (st5 w9 w.heap.size 0 (.int .i64 s.nb) (.int .i64 s.nn) (.int .i64 s.ns) (.slice Ab6 s.bs.length cb6) (.slice An6 s.ts.length cn6)).heap.size) := Lib.hid (by have := hz6; have := hg6.size; omega)
  clear hg6
  obtain ⟨Wd, hWd⟩ : ∃ V : World, V = (st5 w9 w.heap.size 0 (.int .i64 s.nb) (.int .i64 s.nn) (.int .i64 s.ns) (.slice Ab6 s.bs.length cb6) (.slice An6 s.ts.length cn6)) := ⟨_, rfl⟩
  change Code.wp _ _ _ _ (st5 w9 w.heap.size 0 (.int .i64 s.nb) (.int .i64 s.nn) (.int .i64 s.ns) (.slice Ab6 s.bs.length cb6) (.slice An6 s.ts.length cn6))
  rw [← hWd] at B1u B2u hBk2 hNt2 hb2 HSZ ⊢
  clear hWd y3 z3 hAt B1 B2 HB hBk hNt k0 k1 k2 k3 k4 t0 t1 t2 t3 t4 hz6
  have HW5 := Lib.hid hW5
  obtain ⟨es, hel, hon, hnt, hap⟩ := hNt2
  have hkT := (List.getElem?_eq_some_iff.1 HNN.out).1
  obtain ⟨e0, he⟩ : ∃ e, es[k]? = some e := ⟨_, List.getElem?_eq_getElem (by omega)⟩
  obtain ⟨vt, vs, rfl, q1, q2⟩ := hnt k n e0 HNN.out he
  obtain ⟨At9, ct9, rfl, ht1, ht2⟩ := own_shape q1
  obtain ⟨As9, cs9, rfl, hs1, hs2⟩ := own_shape q2
  obtain ⟨gn, hgn, hgn2⟩ : ∃ gn, An6 = some ⟨gn, 0, none⟩ ∧ w5.heap.size ≤ gn := by
    rcases hon.2 with ⟨h, h0⟩ | ⟨g, c, cu, h, hb, _⟩
    · omega
    · injection h with h1 h2 h3
      exact ⟨g, h1, hb⟩
  subst hgn
  have h5 := es_five hel hnt
  have hga : gn ≠ Wd.heap.size := by
    have := (hon.lt gn rfl).2
    omega
  have HE := Lib.hid he
  have HEL := Lib.hid hel
  have HON := Lib.hid hon
  rw [HLL.out] at he q1
  rw [HTT.out] at hon hel
  have k0 := B1u.cell_ 0
  have k1 := B1u.cell_ 1
  have k2 := B1u.cell_ 2
  have k3 := B1u.cell_ 3
  have k4 := B1u.cell_ 4
  simp at k0 k1 k2 k3 k4
  rw [HTT.out] at k4
  have x4 := own_cellE hon h5 he (j := 3) rfl
  have kd : Wd.drew.cell? ⟨w.heap.size, 4, none⟩ = some (.slice (some ⟨gn, 0, none⟩) T cn6) := drew_cell k4
  have ka : (Wd.alloc (.cells #[.string x] 9)).drew.cell? ⟨w.heap.size, 4, none⟩ = some (.slice (some ⟨gn, 0, none⟩) T cn6) := by
    rw [← HTT.out]
    exact drew_cell ((B1u.alloc_ _).cell_ 4)
  have xd : Wd.drew.cell? ⟨gn, k * 5 + 3, none⟩ = some (.slice At9 L ct9) := drew_cell x4
  have xa : (Wd.alloc (.cells #[.string x] 9)).drew.cell? ⟨gn, k * 5 + 3, none⟩ = some (.slice At9 L ct9) := own_cellE (drew_own (hon.alloc _)) h5 he (j := 3) rfl
  have hqb : ∀ g, (Value.slice At9 L ct9).ownBlock = some g → w5.heap.size ≤ g := fun g hg => (q1.lt g hg).1
  have hqn : (Value.slice At9 L ct9).ownBlock ≠ some Wd.heap.size := fun e => by
    have := (q1.lt _ e).2
    omega
  have hzA : w5.heap.size ≤ (Wd.alloc (.cells #[.string x] 9)).drew.heap.size := by
    have := HSZ.out
    show w5.heap.size ≤ (Wd.alloc (.cells #[.string x] 9)).heap.size
    simp
    omega
  clear k0 k1 k2 k3 k4 x4
  refine wp_region_noPanic ?_
  refine wp_region_held_drew (S := (fun w_ => w_.cell? ⟨w.heap.size, 4, none⟩ = some (.slice (some ⟨gn, 0, none⟩) T cn6))) (by kernel_rfl) ?_ (fun hHeld => ?_)
  · (first | with_reducible exact kd | with_reducible exact ka | with_reducible exact k4' | with_reducible exact kb)
  refine tk 0 ?_; try simp only [Act.put, pz1, pz2, pz3]
  refine tk 1 ?_; try simp only [Act.put, pz1, pz2, pz3]
  refine tk 2 ?_; try simp only [Act.put, pz1, pz2, pz3]
  refine tk 3 ?_; try simp only [Act.put, pz1, pz2, pz3]
  refine tk 4 ?_; try simp only [Act.put, pz1, pz2, pz3]
  refine tk 5 ?_; try simp only [Act.put, pz1, pz2, pz3]
  refine tk 6 ?_; try simp only [Act.put, pz1, pz2, pz3]
  refine tk 7 ?_; try simp only [Act.put, pz1, pz2, pz3]
  refine tk 9 ?_; try simp only [Act.put, pz1, pz2, pz3]
  refine tk 10 ?_; try simp only [Act.put, pz1, pz2, pz3]
  refine wpAnyH_ready (rs := [8, 11]) (by kernel_rfl) (by simp) ?_
  refine (AllReadyH.cons (o := ⟨some 58, .load 46 (.tmp 57), 46, "note.go:54", #[⟨7, .data⟩], none⟩) rfl (fun K hK => ?_) (AllReadyH.cons (o := ⟨some 61, .buildSlice 46 1 #[(0, .tmp 60)], 46, "note.go:54", #[⟨10, .data⟩], none⟩) rfl (fun K hK => ?_) AllReadyH.nil))
  · go_simp
    refine hK.out _ _ ?_ (fun hNew => ?_)
    · (first | with_reducible exact kd | with_reducible exact ka | with_reducible exact k4' | with_reducible exact kb)
    clear hK K hHeld
    have hHeld := hNew
    clear hNew
    try simp only [Act.put, pz1, pz2, pz3]
    refine wpAnyH_ready (rs := [11]) (by kernel_rfl) (by simp) ?_
    refine AllReadyH.cons (o := ⟨some 61, .buildSlice 46 1 #[(0, .tmp 60)], 46, "note.go:54", #[⟨10, .data⟩], none⟩) rfl (fun K hK => ?_) AllReadyH.nil
    go_simp
    refine hK.out _ _ ?_ (fun hNew => ?_)
    · (first | with_reducible exact kd | with_reducible exact ka | with_reducible exact k4' | with_reducible exact kb)
    clear hK K hHeld
    have hHeld := hNew
    clear hNew
    try simp only [Act.put, pz1, pz2, pz3]
    refine wpAnyH_ready (rs := [12]) (by kernel_rfl) (by simp) ?_
    refine AllReadyH.cons (o := ⟨some 62, .call { callee := .value (.func 48), args := #[.tmp 58, .tmp 59, .tmp 61], argTypes := #[46, 3, 46] }, 46, "note.go:54", #[⟨8, .data⟩, ⟨9, .data⟩, ⟨11, .data⟩], none⟩) rfl (fun K hK => ?_) AllReadyH.nil
    go_simp
    (go_at_call 48; ((with_reducible refine (insStr _ w5.heap.size At9 L ct9 P Wd.heap.size n.tg x (drew_own (q1.alloc (.cells #[.string x] 9))) hPL hL8 (drew_blk (Blk.new_ Wd 9 #[.string x])) hqn hzA).mono ?_); rintro e' w7 ⟨v9, rfl, ho', hg'⟩; have hof : ∀ j, j < w5.heap.size → (Value.slice At9 L ct9).ownBlock ≠ some j := fun j hj h => (by have := hqb j h; omega); rw [HI9.out] at ho'; have B1a := (drew_blk (B1u.alloc_ (.cells #[.string x] 9))).grownR hg' (hof _ (by have := HW5.out; omega)); have B2a := (drew_blk (B2u.alloc_ (.cells #[.string x] 9))).grownR hg' (hof _ (by have := HW5.out; omega)); have HBa := (drew_below (hb2.alloc hb2.size _)).trans (below_app (B := w.heap.size) (by have := HW5.out; omega) hzA (drew_own (q1.alloc (.cells #[.string x] 9))) hg'); have hon7 := (drew_own (hon.alloc (.cells #[.string x] 9))).kept hg' (own_apart (drew_own (hon.alloc (.cells #[.string x] 9))) (drew_own (q1.alloc (.cells #[.string x] 9))) (by decide)); have k4' := B1a.cell_ 4; simp at k4'; rw [HTT.out] at k4'; obtain ⟨A7, c7, rfl, q21, q22⟩ := own_shape ho'; have x7 := own_cellE hon7 h5 he (j := 3) rfl; have f7 := World.ownsRow.frozenAt hon7 (k * 5 + 3); have kb : (w7.setCell ⟨gn, k * 5 + 3, none⟩ (.slice A7 (L + 1) c7)).cell? ⟨w.heap.size, 4, none⟩ = some (.slice (some ⟨gn, 0, none⟩) T cn6) := (by have := (B1a.grown (set1_grown w7 gn (k * 5 + 3) (.slice A7 (L + 1) c7)) (by have := HW5.out; omega)).cell_ 4; simp at this; rw [HTT.out] at this; exact this)))
    go_wp2_with fail
    refine hK.out _ _ ?_ (fun hNew => ?_)
    · (first | with_reducible exact kd | with_reducible exact ka | with_reducible exact k4' | with_reducible exact kb)
    clear hK K hHeld
    have hHeld := hNew
    clear hNew
    try simp only [Act.put, pz1, pz2, pz3]
    refine tk 13 ?_; try simp only [Act.put, pz1, pz2, pz3]
    refine tk 14 ?_; try simp only [Act.put, pz1, pz2, pz3]
    refine wpAnyH_ready (rs := [15]) (by kernel_rfl) (by simp) ?_
    refine AllReadyH.cons (o := ⟨none, .store 46 (.tmp 64) (.tmp 62), 0, "note.go:54", #[⟨14, .data⟩, ⟨12, .data⟩, ⟨12, .chain⟩, ⟨0, .phase⟩, ⟨1, .phase⟩, ⟨2, .phase⟩, ⟨3, .phase⟩, ⟨4, .phase⟩, ⟨5, .phase⟩, ⟨6, .phase⟩, ⟨7, .phase⟩, ⟨8, .phase⟩, ⟨9, .phase⟩, ⟨10, .phase⟩, ⟨11, .phase⟩, ⟨12, .phase⟩], none⟩) rfl (fun K hK => ?_) AllReadyH.nil
    go_simp
    refine hK.out _ _ ?_ (fun hNew => ?_)
    · (first | with_reducible exact kd | with_reducible exact ka | with_reducible exact k4' | with_reducible exact kb)
    clear hK K hHeld
    have hHeld := hNew
    clear hNew
    try simp only [Act.put, pz1, pz2, pz3]
    refine wpAnyH_done (by kernel_rfl) ?_ _
    refine NoPanic.normal ?_
    have hb0 : Below Wd.heap.size Wd (Wd.alloc (.cells #[.string x] 9)).drew := drew_below ((Below.refl _ Wd).alloc (Nat.le_refl _) _)
    have hl9 : (tgIns n.tg x).length = L + 1 := by rw [tgIns_len, HLL.out]
    obtain ⟨hNw, hgw⟩ := nt_tags (xs := tgIns n.tg x) HEL.out (drew_own (HON.out.alloc (.cells #[.string x] 9))) (fun k n e a b => (hnt k n e a b).below hb0) hap HNN.out HE.out (by rw [HLL.out]; exact hg') (by rw [hl9]; exact ho')
    have B1w := B1a.grown hgw (by have := HW5.out; omega)
    have B2w := B2a.grown hgw (by have := HW5.out; omega)
    have hB7 : BksW w7 w5.heap.size (.slice Ab6 s.bs.length cb6) s.bs := World.ownsRow.kept (own_belowW hBk2 hb0) hg' (own_apart (own_belowW hBk2 hb0) (drew_own (q1.alloc (.cells #[.string x] 9))) (by decide))
    have hBw := BksW.apartN hB7 hon7 hgw
    have hbw := below_grown HBa hgw (by have := HW5.out; omega) HBa.size
    obtain ⟨Wx, hWx⟩ : ∃ V : World, V = w7.setCell ⟨gn, k * 5 + 3, none⟩ (.slice A7 (L + 1) c7) := ⟨_, rfl⟩
    rw [← hWx] at hNw B1w B2w hBw hbw ⊢
    clear hWx hgw hB7 hb0 hl9 B1a B2a HBa ho' hg' hon7 k4' x7 f7 kb hof
    have k0 := B1w.cell_ 0
    have r0 := B2w.cell_ 0
    have t0 := B2w.free 0
    have k1 := B1w.cell_ 1
    have r1 := B2w.cell_ 1
    have t1 := B2w.free 1
    have k2 := B1w.cell_ 2
    have r2 := B2w.cell_ 2
    have t2 := B2w.free 2
    have k3 := B1w.cell_ 3
    have r3 := B2w.cell_ 3
    have t3 := B2w.free 3
    have k4 := B1w.cell_ 4
    have r4 := B2w.cell_ 4
    have t4 := B2w.free 4
    simp at k0 k1 k2 k3 k4 r0 r1 r2 r3 r4
    go_wp2_with fail
    have B2e := B2w.st5_ (.int .i64 s.nb) (.int .i64 s.nn) (.int .i64 s.ns) (.slice Ab6 s.bs.length cb6) (.slice (some ⟨gn, 0, none⟩) s.ts.length cn6)
    have hgE := st5_grown Wx (w.heap.size + 1) 0 (.int .i64 s.nb) (.int .i64 s.nn) (.int .i64 s.ns) (.slice Ab6 s.bs.length cb6) (.slice (some ⟨gn, 0, none⟩) s.ts.length cn6)
    have hBe := hBw.far hgE (by have := HW5.out; omega)
    have hNe := hNw.far hgE (by have := HW5.out; omega)
    have hbe := below_grown hbw hgE (by omega) hbw.size
    change bodyPost _ _ _ _ _ (st5 Wx (w.heap.size + 1) 0 (.int .i64 s.nb) (.int .i64 s.nn) (.int .i64 s.ns) (.slice Ab6 s.bs.length cb6) (.slice (some ⟨gn, 0, none⟩) s.ts.length cn6))
    clear hgE
    generalize st5 Wx (w.heap.size + 1) 0 (.int .i64 s.nb) (.int .i64 s.nn) (.int .i64 s.ns) (.slice Ab6 s.bs.length cb6) (.slice (some ⟨gn, 0, none⟩) s.ts.length cn6) = WF at B2e hBe hNe hbe ⊢
    apply bodyPost_ret (v := .tuple #[.agg #[.int .i64 s.nb, .int .i64 s.nn, .int .i64 s.ns, .slice Ab6 s.bs.length cb6, .slice (some ⟨gn, 0, none⟩) s.ts.length cn6], .int .i64 0])
    · exact results_cell1 Tryd.results18 _ WF (w.heap.size + 1) 25 _ (0, 0) _ rfl B2e Tryd.underlying25 rfl (by kernel_rfl)
    · rfl
    · refine ⟨_, rfl, ?_, hbe⟩
      rw [HRS.out]
      exact ShW.base_ (ShW.make (s := { s with ts := s.ts.set k { n with tg := tgIns n.tg x } }) (w := WF) (base := w5.heap.size) (vb := .slice Ab6 s.bs.length cb6) (vn := .slice (some ⟨gn, 0, none⟩) s.ts.length cn6) hBe hNe) (by have := HW5.out; omega)
  · go_simp
    refine hK.out _ _ ?_ (fun hNew => ?_)
    · (first | with_reducible exact kd | with_reducible exact ka | with_reducible exact k4' | with_reducible exact kb)
    clear hK K hHeld
    have hHeld := hNew
    clear hNew
    try simp only [Act.put, pz1, pz2, pz3]
    refine wpAnyH_ready (rs := [8]) (by kernel_rfl) (by simp) ?_
    refine AllReadyH.cons (o := ⟨some 58, .load 46 (.tmp 57), 46, "note.go:54", #[⟨7, .data⟩], none⟩) rfl (fun K hK => ?_) AllReadyH.nil
    go_simp
    refine hK.out _ _ ?_ (fun hNew => ?_)
    · (first | with_reducible exact kd | with_reducible exact ka | with_reducible exact k4' | with_reducible exact kb)
    clear hK K hHeld
    have hHeld := hNew
    clear hNew
    try simp only [Act.put, pz1, pz2, pz3]
    refine wpAnyH_ready (rs := [12]) (by kernel_rfl) (by simp) ?_
    refine AllReadyH.cons (o := ⟨some 62, .call { callee := .value (.func 48), args := #[.tmp 58, .tmp 59, .tmp 61], argTypes := #[46, 3, 46] }, 46, "note.go:54", #[⟨8, .data⟩, ⟨9, .data⟩, ⟨11, .data⟩], none⟩) rfl (fun K hK => ?_) AllReadyH.nil
    go_simp
    (go_at_call 48; ((with_reducible refine (insStr _ w5.heap.size At9 L ct9 P Wd.heap.size n.tg x (drew_own (q1.alloc (.cells #[.string x] 9))) hPL hL8 (drew_blk (Blk.new_ Wd 9 #[.string x])) hqn hzA).mono ?_); rintro e' w7 ⟨v9, rfl, ho', hg'⟩; have hof : ∀ j, j < w5.heap.size → (Value.slice At9 L ct9).ownBlock ≠ some j := fun j hj h => (by have := hqb j h; omega); rw [HI9.out] at ho'; have B1a := (drew_blk (B1u.alloc_ (.cells #[.string x] 9))).grownR hg' (hof _ (by have := HW5.out; omega)); have B2a := (drew_blk (B2u.alloc_ (.cells #[.string x] 9))).grownR hg' (hof _ (by have := HW5.out; omega)); have HBa := (drew_below (hb2.alloc hb2.size _)).trans (below_app (B := w.heap.size) (by have := HW5.out; omega) hzA (drew_own (q1.alloc (.cells #[.string x] 9))) hg'); have hon7 := (drew_own (hon.alloc (.cells #[.string x] 9))).kept hg' (own_apart (drew_own (hon.alloc (.cells #[.string x] 9))) (drew_own (q1.alloc (.cells #[.string x] 9))) (by decide)); have k4' := B1a.cell_ 4; simp at k4'; rw [HTT.out] at k4'; obtain ⟨A7, c7, rfl, q21, q22⟩ := own_shape ho'; have x7 := own_cellE hon7 h5 he (j := 3) rfl; have f7 := World.ownsRow.frozenAt hon7 (k * 5 + 3); have kb : (w7.setCell ⟨gn, k * 5 + 3, none⟩ (.slice A7 (L + 1) c7)).cell? ⟨w.heap.size, 4, none⟩ = some (.slice (some ⟨gn, 0, none⟩) T cn6) := (by have := (B1a.grown (set1_grown w7 gn (k * 5 + 3) (.slice A7 (L + 1) c7)) (by have := HW5.out; omega)).cell_ 4; simp at this; rw [HTT.out] at this; exact this)))
    go_wp2_with fail
    refine hK.out _ _ ?_ (fun hNew => ?_)
    · (first | with_reducible exact kd | with_reducible exact ka | with_reducible exact k4' | with_reducible exact kb)
    clear hK K hHeld
    have hHeld := hNew
    clear hNew
    try simp only [Act.put, pz1, pz2, pz3]
    refine tk 13 ?_; try simp only [Act.put, pz1, pz2, pz3]
    refine tk 14 ?_; try simp only [Act.put, pz1, pz2, pz3]
    refine wpAnyH_ready (rs := [15]) (by kernel_rfl) (by simp) ?_
    refine AllReadyH.cons (o := ⟨none, .store 46 (.tmp 64) (.tmp 62), 0, "note.go:54", #[⟨14, .data⟩, ⟨12, .data⟩, ⟨12, .chain⟩, ⟨0, .phase⟩, ⟨1, .phase⟩, ⟨2, .phase⟩, ⟨3, .phase⟩, ⟨4, .phase⟩, ⟨5, .phase⟩, ⟨6, .phase⟩, ⟨7, .phase⟩, ⟨8, .phase⟩, ⟨9, .phase⟩, ⟨10, .phase⟩, ⟨11, .phase⟩, ⟨12, .phase⟩], none⟩) rfl (fun K hK => ?_) AllReadyH.nil
    go_simp
    refine hK.out _ _ ?_ (fun hNew => ?_)
    · (first | with_reducible exact kd | with_reducible exact ka | with_reducible exact k4' | with_reducible exact kb)
    clear hK K hHeld
    have hHeld := hNew
    clear hNew
    try simp only [Act.put, pz1, pz2, pz3]
    refine wpAnyH_done (by kernel_rfl) ?_ _
    refine NoPanic.normal ?_
    have hb0 : Below Wd.heap.size Wd (Wd.alloc (.cells #[.string x] 9)).drew := drew_below ((Below.refl _ Wd).alloc (Nat.le_refl _) _)
    have hl9 : (tgIns n.tg x).length = L + 1 := by rw [tgIns_len, HLL.out]
    obtain ⟨hNw, hgw⟩ := nt_tags (xs := tgIns n.tg x) HEL.out (drew_own (HON.out.alloc (.cells #[.string x] 9))) (fun k n e a b => (hnt k n e a b).below hb0) hap HNN.out HE.out (by rw [HLL.out]; exact hg') (by rw [hl9]; exact ho')
    have B1w := B1a.grown hgw (by have := HW5.out; omega)
    have B2w := B2a.grown hgw (by have := HW5.out; omega)
    have hB7 : BksW w7 w5.heap.size (.slice Ab6 s.bs.length cb6) s.bs := World.ownsRow.kept (own_belowW hBk2 hb0) hg' (own_apart (own_belowW hBk2 hb0) (drew_own (q1.alloc (.cells #[.string x] 9))) (by decide))
    have hBw := BksW.apartN hB7 hon7 hgw
    have hbw := below_grown HBa hgw (by have := HW5.out; omega) HBa.size
    obtain ⟨Wx, hWx⟩ : ∃ V : World, V = w7.setCell ⟨gn, k * 5 + 3, none⟩ (.slice A7 (L + 1) c7) := ⟨_, rfl⟩
    rw [← hWx] at hNw B1w B2w hBw hbw ⊢
    clear hWx hgw hB7 hb0 hl9 B1a B2a HBa ho' hg' hon7 k4' x7 f7 kb hof
    have k0 := B1w.cell_ 0
    have r0 := B2w.cell_ 0
    have t0 := B2w.free 0
    have k1 := B1w.cell_ 1
    have r1 := B2w.cell_ 1
    have t1 := B2w.free 1
    have k2 := B1w.cell_ 2
    have r2 := B2w.cell_ 2
    have t2 := B2w.free 2
    have k3 := B1w.cell_ 3
    have r3 := B2w.cell_ 3
    have t3 := B2w.free 3
    have k4 := B1w.cell_ 4
    have r4 := B2w.cell_ 4
    have t4 := B2w.free 4
    simp at k0 k1 k2 k3 k4 r0 r1 r2 r3 r4
    go_wp2_with fail
    have B2e := B2w.st5_ (.int .i64 s.nb) (.int .i64 s.nn) (.int .i64 s.ns) (.slice Ab6 s.bs.length cb6) (.slice (some ⟨gn, 0, none⟩) s.ts.length cn6)
    have hgE := st5_grown Wx (w.heap.size + 1) 0 (.int .i64 s.nb) (.int .i64 s.nn) (.int .i64 s.ns) (.slice Ab6 s.bs.length cb6) (.slice (some ⟨gn, 0, none⟩) s.ts.length cn6)
    have hBe := hBw.far hgE (by have := HW5.out; omega)
    have hNe := hNw.far hgE (by have := HW5.out; omega)
    have hbe := below_grown hbw hgE (by omega) hbw.size
    change bodyPost _ _ _ _ _ (st5 Wx (w.heap.size + 1) 0 (.int .i64 s.nb) (.int .i64 s.nn) (.int .i64 s.ns) (.slice Ab6 s.bs.length cb6) (.slice (some ⟨gn, 0, none⟩) s.ts.length cn6))
    clear hgE
    generalize st5 Wx (w.heap.size + 1) 0 (.int .i64 s.nb) (.int .i64 s.nn) (.int .i64 s.ns) (.slice Ab6 s.bs.length cb6) (.slice (some ⟨gn, 0, none⟩) s.ts.length cn6) = WF at B2e hBe hNe hbe ⊢
    apply bodyPost_ret (v := .tuple #[.agg #[.int .i64 s.nb, .int .i64 s.nn, .int .i64 s.ns, .slice Ab6 s.bs.length cb6, .slice (some ⟨gn, 0, none⟩) s.ts.length cn6], .int .i64 0])
    · exact results_cell1 Tryd.results18 _ WF (w.heap.size + 1) 25 _ (0, 0) _ rfl B2e Tryd.underlying25 rfl (by kernel_rfl)
    · rfl
    · refine ⟨_, rfl, ?_, hbe⟩
      rw [HRS.out]
      exact ShW.base_ (ShW.make (s := { s with ts := s.ts.set k { n with tg := tgIns n.tg x } }) (w := WF) (base := w5.heap.size) (vb := .slice Ab6 s.bs.length cb6) (vn := .slice (some ⟨gn, 0, none⟩) s.ts.length cn6) hBe hNe) (by have := HW5.out; omega)
end Go.Proofs.YtkaoechjekffmaaDoor
namespace Go.Proofs.YtkaoechjekffmaaDoor
open Go.ChangeShapes Go.WideShapes Go.ChangeAt Go.RowKit
attribute [local go_sem ↓] Go.wp_at_zero Go.wp_at_succ
theorem ShW.out {w : World} {base : Nat} {v : Value} {s : Sf} (h : ShW w base v s) : ∃ (A1 : Option Addr) (c1 : Nat) (A2 : Option Addr) (c2 : Nat), v = .agg #[.int .i64 s.nb, .int .i64 s.nn, .int .i64 s.ns, .slice A1 s.bs.length c1, .slice A2 s.ts.length c2] ∧ ShR w w.heap.size (.agg #[.int .i64 s.nb, .int .i64 s.nn, .int .i64 s.ns, .slice A1 s.bs.length c1, .slice A2 s.ts.length c2]) s := by
  have h2 := h.toR
  obtain ⟨A1, c1, A2, c2, rfl, -⟩ := h.parts
  exact ⟨A1, c1, A2, c2, rfl, h2⟩
theorem shtC_cases {s : Sf} {y : Int} {i : Nat} (h : shtC s y (i : Int) = 0) : ∃ k n, FdF s y k n ∧ ntOf s y = n ∧ i < n.sh.length := by
  have hf : findC s y = 0 := by
    unfold shtC at h
    by_cases h1 : findC s y = 0
    · exact h1
    · have h2 : (findC s y == 0) = false := by simpa using h1
      rw [h2] at h
      exact absurd h h1
  obtain ⟨k, n, hF⟩ := fdF_of hf
  refine ⟨k, n, hF, hF.of_, ?_⟩
  unfold shtC at h
  rw [hf, hF.of_] at h
  rcases Nat.lt_or_ge i n.sh.length with h1 | h1
  · exact h1
  · have h2 : decide ((n.sh.length : Int) ≤ (i : Int)) = true := decide_eq_true (by omega)
    rw [h2, Bool.or_true] at h
    cases h
theorem nrem_of (s : Sf) (v : Value) (y : Int) (i : Nat) (x : Int) (w : World) (hS : ShR w w.heap.size v s) (hT : Tabs w) (hc : shtC s y (i : Int) = 0) (hx : (ntOf s y).sh[i]? = some x) : Calls Tryd.prog 22 #[v, .int .i64 y, .int .i64 (i : Int)] w fun e' w' => ∃ v', e' = .returned (.tuple #[v', .int .i64 x, .int .i64 0]) ∧ ShW w' w.heap.size v' (remS s y (i : Int)) ∧ Below w.heap.size w w' := by
  obtain ⟨k, n, hF, hn, hi⟩ := shtC_cases hc
  rw [hn] at hx
  exact nrem_yes s v y w hS hT k n hF i x hx
theorem nsheet_go (s : Sf) (v : Value) (y : Int) (i : Nat) (x : Int) (w : World) (hS : ShR w w.heap.size v s) (hT : Tabs w) (hc : shtC s y (i : Int) = 0) (hx : (ntOf s y).sh[i]? = some x) : Calls Tryd.prog 12 #[v, .int .i64 y, .int .i64 (i : Int)] w fun e' w' => e' = .returned (.tuple #[.int .i64 x, .int .i64 0]) ∧ Below w.heap.size w w' := by
  obtain ⟨k, n, hF, hn, hi⟩ := shtC_cases hc
  rw [hn] at hx
  exact nsheet_yes s v y w hS hT k n hF i x hx
theorem napp_go (s : Sf) (v : Value) (y : Int) (w : World) (hS : ShR w w.heap.size v s) (hT : Tabs w) (hc : appC s y = 0) (q : Sf) (hq : appS s y = q) :
    Calls Tryd.prog 21 #[v, .int .i64 y] w fun e' w' => ∃ A1 c1 A2 c2, e' = .returned (.tuple #[.agg #[.int .i64 q.nb, .int .i64 q.nn, .int .i64 q.ns, .slice A1 q.bs.length c1, .slice A2 q.ts.length c2], .int .i64 s.ns, .int .i64 0]) ∧ ShR w' w'.heap.size (.agg #[.int .i64 q.nb, .int .i64 q.nn, .int .i64 q.ns, .slice A1 q.bs.length c1, .slice A2 q.ts.length c2]) q ∧ Below w.heap.size w w' := by
  subst hq
  refine (napp_yes s v y w hS hT hc).mono ?_
  rintro e' w' ⟨v', rfl, h1, h2⟩
  obtain ⟨A1, c1, A2, c2, rfl, h3⟩ := h1.out
  exact ⟨A1, c1, A2, c2, rfl, h3, h2⟩
theorem nrem_go (s : Sf) (v : Value) (y : Int) (i : Nat) (x : Int) (w : World) (hS : ShR w w.heap.size v s) (hT : Tabs w) (hc : shtC s y (i : Int) = 0) (hx : (ntOf s y).sh[i]? = some x) (q : Sf) (hq : remS s y (i : Int) = q) :
    Calls Tryd.prog 22 #[v, .int .i64 y, .int .i64 (i : Int)] w fun e' w' => ∃ A1 c1 A2 c2, e' = .returned (.tuple #[.agg #[.int .i64 q.nb, .int .i64 q.nn, .int .i64 q.ns, .slice A1 q.bs.length c1, .slice A2 q.ts.length c2], .int .i64 x, .int .i64 0]) ∧ ShR w' w'.heap.size (.agg #[.int .i64 q.nb, .int .i64 q.nn, .int .i64 q.ns, .slice A1 q.bs.length c1, .slice A2 q.ts.length c2]) q ∧ Below w.heap.size w w' := by
  subst hq
  refine (nrem_of s v y i x w hS hT hc hx).mono ?_
  rintro e' w' ⟨v', rfl, h1, h2⟩
  obtain ⟨A1, c1, A2, c2, rfl, h3⟩ := h1.out
  exact ⟨A1, c1, A2, c2, rfl, h3, h2⟩
theorem ntag_go (s : Sf) (v : Value) (y : Int) (x : ByteArray) (w : World) (hS : ShR w w.heap.size v s) (hT : Tabs w) (hc : tagC s y x = 0) (q : Sf) (hq : tagS s y x = q) :
    Calls Tryd.prog 18 #[v, .int .i64 y, .string x] w fun e' w' => ∃ A1 c1 A2 c2, e' = .returned (.tuple #[.agg #[.int .i64 q.nb, .int .i64 q.nn, .int .i64 q.ns, .slice A1 q.bs.length c1, .slice A2 q.ts.length c2], .int .i64 0]) ∧ ShR w' w'.heap.size (.agg #[.int .i64 q.nb, .int .i64 q.nn, .int .i64 q.ns, .slice A1 q.bs.length c1, .slice A2 q.ts.length c2]) q ∧ Below w.heap.size w w' := by
  subst hq
  refine (ntag_yes s v y x w hS hT hc).mono ?_
  rintro e' w' ⟨v', rfl, h1, h2⟩
  obtain ⟨A1, c1, A2, c2, rfl, h3⟩ := h1.out
  exact ⟨A1, c1, A2, c2, rfl, h3, h2⟩
def sN : ByteArray := ⟨#[110]⟩
def sBb : ByteArray := ⟨#[98]⟩
def sX : ByteArray := ⟨#[120]⟩
def sfO : Sf := ⟨2, 2, 1, [⟨1, sBb⟩], [⟨1, 1, sN, [], []⟩]⟩
def ntO : Nt := ⟨1, 1, sN, [], []⟩
theorem one_any (w : World) :
    Calls Tryd.prog 26 #[] w fun e' w' => ∃ A1 c1 A2 c2, e' = .returned (.agg #[.int .i64 sfO.nb, .int .i64 sfO.nn, .int .i64 sfO.ns, .slice A1 sfO.bs.length c1, .slice A2 sfO.ts.length c2]) ∧ ShR w' w'.heap.size (.agg #[.int .i64 sfO.nb, .int .i64 sfO.nn, .int .i64 sfO.ns, .slice A1 sfO.bs.length c1, .slice A2 sfO.ts.length c2]) sfO ∧ Below w.heap.size w w' := by
  have B0 : Blk (((w.alloc (.cells #[.int .i64 2, .int .i64 2, .int .i64 1, .slice (some ⟨w.heap.size + 1, 0, none⟩) 1 1, .slice (some ⟨w.heap.size + 2, 0, none⟩) 1 1] 25)).alloc (.cells #[.int .i64 1, .string ⟨#[98]⟩] 61)).alloc (.cells #[.int .i64 1, .int .i64 1, .string ⟨#[110]⟩, .slice none 0 0, .slice none 0 0] 49)) w.heap.size 25 #[.int .i64 2, .int .i64 2, .int .i64 1, .slice (some ⟨w.heap.size + 1, 0, none⟩) 1 1, .slice (some ⟨w.heap.size + 2, 0, none⟩) 1 1] := ((Blk.new_ w 25 #[.int .i64 2, .int .i64 2, .int .i64 1, .slice (some ⟨w.heap.size + 1, 0, none⟩) 1 1, .slice (some ⟨w.heap.size + 2, 0, none⟩) 1 1]).alloc_ _).alloc_ _
  have hb0 : Below w.heap.size w (((w.alloc (.cells #[.int .i64 2, .int .i64 2, .int .i64 1, .slice (some ⟨w.heap.size + 1, 0, none⟩) 1 1, .slice (some ⟨w.heap.size + 2, 0, none⟩) 1 1] 25)).alloc (.cells #[.int .i64 1, .string ⟨#[98]⟩] 61)).alloc (.cells #[.int .i64 1, .int .i64 1, .string ⟨#[110]⟩, .slice none 0 0, .slice none 0 0] 49)) := (((Below.refl w.heap.size w).alloc (Nat.le_refl _) _).alloc (by first | (simp; done) | (simp; omega)) _).alloc (by first | (simp; done) | (simp; omega)) _
  have hs1 : (w.alloc (.cells #[.int .i64 2, .int .i64 2, .int .i64 1, .slice (some ⟨w.heap.size + 1, 0, none⟩) 1 1, .slice (some ⟨w.heap.size + 2, 0, none⟩) 1 1] 25)).heap.size = w.heap.size + 1 := by simp
  have hs2 : ((w.alloc (.cells #[.int .i64 2, .int .i64 2, .int .i64 1, .slice (some ⟨w.heap.size + 1, 0, none⟩) 1 1, .slice (some ⟨w.heap.size + 2, 0, none⟩) 1 1] 25)).alloc (.cells #[.int .i64 1, .string ⟨#[98]⟩] 61)).heap.size = w.heap.size + 2 := by simp
  have hBk : BksW (((w.alloc (.cells #[.int .i64 2, .int .i64 2, .int .i64 1, .slice (some ⟨w.heap.size + 1, 0, none⟩) 1 1, .slice (some ⟨w.heap.size + 2, 0, none⟩) 1 1] 25)).alloc (.cells #[.int .i64 1, .string ⟨#[98]⟩] 61)).alloc (.cells #[.int .i64 1, .int .i64 1, .string ⟨#[110]⟩, .slice none 0 0, .slice none 0 0] 49)) (w.heap.size + 1) (.slice (some ⟨w.heap.size + 1, 0, none⟩) 1 1) sfO.bs := by
    have h := (World.ownsRow_lit (base := w.heap.size + 1) (e := 61) (size := 2) (w.alloc (.cells #[.int .i64 2, .int .i64 2, .int .i64 1, .slice (some ⟨w.heap.size + 1, 0, none⟩) 1 1, .slice (some ⟨w.heap.size + 2, 0, none⟩) 1 1] 25)) #[.int .i64 1, .string ⟨#[98]⟩] 1 (by rw [hs1]; omega) (by unfold maxLen; omega) rfl).alloc (.cells #[.int .i64 1, .int .i64 1, .string ⟨#[110]⟩, .slice none 0 0, .slice none 0 0] 49)
    rw [hs1] at h
    exact h
  have hNt : NtsW (((w.alloc (.cells #[.int .i64 2, .int .i64 2, .int .i64 1, .slice (some ⟨w.heap.size + 1, 0, none⟩) 1 1, .slice (some ⟨w.heap.size + 2, 0, none⟩) 1 1] 25)).alloc (.cells #[.int .i64 1, .string ⟨#[98]⟩] 61)).alloc (.cells #[.int .i64 1, .int .i64 1, .string ⟨#[110]⟩, .slice none 0 0, .slice none 0 0] 49)) (w.heap.size + 1) (.slice (some ⟨w.heap.size + 2, 0, none⟩) 1 1) sfO.ts := by
    have h := World.ownsRow_lit (base := w.heap.size + 1) (e := 49) (size := 5) ((w.alloc (.cells #[.int .i64 2, .int .i64 2, .int .i64 1, .slice (some ⟨w.heap.size + 1, 0, none⟩) 1 1, .slice (some ⟨w.heap.size + 2, 0, none⟩) 1 1] 25)).alloc (.cells #[.int .i64 1, .string ⟨#[98]⟩] 61)) #[.int .i64 1, .int .i64 1, .string ⟨#[110]⟩, .slice none 0 0, .slice none 0 0] 1 (by rw [hs2]; omega) (by unfold maxLen; omega) rfl
    rw [hs2] at h
    refine ⟨[ntC ntO (.slice none 0 0) (.slice none 0 0)], rfl, h, fun k n e a b => ?_⟩
    cases k with
    | zero =>
      cases a
      cases b
      exact ⟨_, _, rfl, World.ownsRow_nil _ _ _ _, World.ownsRow_nil _ _ _ _⟩
    | succ k => simp [sfO] at a
  go_enter Tryd.func26, Tryd.ntmps26
  go_wp2_with fail
  have hW := ShW.make (s := sfO) hBk hNt
  change bodyPost _ _ _ _ _ (((w.alloc (.cells #[.int .i64 2, .int .i64 2, .int .i64 1, .slice (some ⟨w.heap.size + 1, 0, none⟩) 1 1, .slice (some ⟨w.heap.size + 2, 0, none⟩) 1 1] 25)).alloc (.cells #[.int .i64 1, .string ⟨#[98]⟩] 61)).alloc (.cells #[.int .i64 1, .int .i64 1, .string ⟨#[110]⟩, .slice none 0 0, .slice none 0 0] 49))
  generalize (((w.alloc (.cells #[.int .i64 2, .int .i64 2, .int .i64 1, .slice (some ⟨w.heap.size + 1, 0, none⟩) 1 1, .slice (some ⟨w.heap.size + 2, 0, none⟩) 1 1] 25)).alloc (.cells #[.int .i64 1, .string ⟨#[98]⟩] 61)).alloc (.cells #[.int .i64 1, .int .i64 1, .string ⟨#[110]⟩, .slice none 0 0, .slice none 0 0] 49)) = WF at B0 hW hb0 ⊢
  apply bodyPost_ret (v := .agg #[.int .i64 2, .int .i64 2, .int .i64 1, .slice (some ⟨w.heap.size + 1, 0, none⟩) 1 1, .slice (some ⟨w.heap.size + 2, 0, none⟩) 1 1])
  · exact results_cell_row Tryd.results26 _ WF w.heap.size 25 _ (0, 0) _ rfl B0 Tryd.underlying25 rfl (by kernel_rfl)
  · rfl
  · exact ⟨_, _, _, _, rfl, hW.toR, hb0⟩
def sq1 : Sf := ⟨2, 2, 2, [⟨1, sBb⟩], [⟨1, 1, sN, [], [1]⟩]⟩
def sq2 : Sf := ⟨2, 2, 3, [⟨1, sBb⟩], [⟨1, 1, sN, [], [1, 2]⟩]⟩
def sq3 : Sf := ⟨2, 2, 3, [⟨1, sBb⟩], [⟨1, 1, sN, [], [2]⟩]⟩
def sqT : Sf := ⟨2, 2, 1, [⟨1, sBb⟩], [⟨1, 1, sN, [sX], []⟩]⟩
theorem aw1 (v : Value) (w : World) (hS : ShR w w.heap.size v sfO) (hT : Tabs w) :
    Calls Tryd.prog 21 #[v, .int .i64 1] w fun e' w' => ∃ A1 c1 A2 c2, e' = .returned (.tuple #[.agg #[.int .i64 2, .int .i64 2, .int .i64 2, .slice A1 1 c1, .slice A2 1 c2], .int .i64 1, .int .i64 0]) ∧ ShR w' w'.heap.size (.agg #[.int .i64 2, .int .i64 2, .int .i64 2, .slice A1 1 c1, .slice A2 1 c2]) sq1 ∧ Below w.heap.size w w' := napp_go sfO v 1 w hS hT (by decide +kernel) sq1 (by kernel_rfl)
theorem aw2 (v : Value) (w : World) (hS : ShR w w.heap.size v sq1) (hT : Tabs w) :
    Calls Tryd.prog 21 #[v, .int .i64 1] w fun e' w' => ∃ A1 c1 A2 c2, e' = .returned (.tuple #[.agg #[.int .i64 2, .int .i64 2, .int .i64 3, .slice A1 1 c1, .slice A2 1 c2], .int .i64 2, .int .i64 0]) ∧ ShR w' w'.heap.size (.agg #[.int .i64 2, .int .i64 2, .int .i64 3, .slice A1 1 c1, .slice A2 1 c2]) sq2 ∧ Below w.heap.size w w' := napp_go sq1 v 1 w hS hT (by decide +kernel) sq2 (by kernel_rfl)
theorem aw3 (v : Value) (w : World) (hS : ShR w w.heap.size v sq2) (hT : Tabs w) :
    Calls Tryd.prog 22 #[v, .int .i64 1, .int .i64 0] w fun e' w' => ∃ A1 c1 A2 c2, e' = .returned (.tuple #[.agg #[.int .i64 2, .int .i64 2, .int .i64 3, .slice A1 1 c1, .slice A2 1 c2], .int .i64 1, .int .i64 0]) ∧ ShR w' w'.heap.size (.agg #[.int .i64 2, .int .i64 2, .int .i64 3, .slice A1 1 c1, .slice A2 1 c2]) sq3 ∧ Below w.heap.size w w' := nrem_go sq2 v 1 0 1 w hS hT (by decide +kernel) (by decide +kernel) sq3 (by kernel_rfl)
theorem aw4 (v : Value) (w : World) (hS : ShR w w.heap.size v sq3) (hT : Tabs w) :
    Calls Tryd.prog 12 #[v, .int .i64 1, .int .i64 0] w fun e' w' => e' = .returned (.tuple #[.int .i64 2, .int .i64 0]) ∧ Below w.heap.size w w' := nsheet_go sq3 v 1 0 2 w hS hT (by decide +kernel) (by decide +kernel)
theorem aw5 (v : Value) (w : World) (hS : ShR w w.heap.size v sfO) (hT : Tabs w) :
    Calls Tryd.prog 18 #[v, .int .i64 1, .string ⟨#[120]⟩] w fun e' w' => ∃ A1 c1 A2 c2, e' = .returned (.tuple #[.agg #[.int .i64 2, .int .i64 2, .int .i64 1, .slice A1 1 c1, .slice A2 1 c2], .int .i64 0]) ∧ ShR w' w'.heap.size (.agg #[.int .i64 2, .int .i64 2, .int .i64 1, .slice A1 1 c1, .slice A2 1 c2]) sqT ∧ Below w.heap.size w w' := ntag_go sfO v 1 sX w hS hT (by decide +kernel) sqT (by kernel_rfl)
theorem one_lit (w : World) :
    Calls Tryd.prog 26 #[] w fun e' w' => ∃ A1 c1 A2 c2, e' = .returned (.agg #[.int .i64 2, .int .i64 2, .int .i64 1, .slice A1 1 c1, .slice A2 1 c2]) ∧ ShR w' w'.heap.size (.agg #[.int .i64 2, .int .i64 2, .int .i64 1, .slice A1 1 c1, .slice A2 1 c2]) sfO ∧ Below w.heap.size w w' := one_any w
theorem tag_row {w : World} {a b c : Int} {A B : Option Addr} {ca cb : Nat} (h : ShR w w.heap.size (.agg #[.int .i64 a, .int .i64 b, .int .i64 c, .slice A 1 ca, .slice B 1 cb]) sqT) : ∃ b1 o1 At ct, B = some ⟨b1, o1, none⟩ ∧ b1 < w.heap.size ∧ w.cell? ⟨b1, o1 + 3, none⟩ = some (.slice At 1 ct) ∧ Sl w w.heap.size At ([sX].map strV) := by
  obtain ⟨Ab, cb', An, cn, he, hB, hN, _⟩ := h.ex
  obtain ⟨es, hel, hse, hnt⟩ := hN.ex
  have hel1 : es.length = 1 := hel
  obtain ⟨e0, he0⟩ : ∃ e, es[0]? = some e := ⟨_, List.getElem?_eq_getElem (by omega)⟩
  obtain ⟨At, ct, As, cs, rfl, hAt, -⟩ := (hnt 0 ⟨1, 1, sN, [sX], []⟩ e0 rfl he0).ex
  obtain ⟨b1, o1, rfl, l1, q1⟩ := hse.at_ (by omega)
  have hAn : B = some ⟨b1, o1, none⟩ := by
    injection he with he
    have h4 := congrArg (fun x : Array Value => x[4]?) he
    simp at h4
    exact h4.1
  have y3 := q1 0 _ he0 3 _ rfl
  rw [Nat.zero_mul, Nat.add_zero] at y3
  exact ⟨b1, o1, At, ct, hAn, l1, y3, hAt⟩
theorem aw6 (A B : Option Addr) (c d : Nat) (w : World) (h1 : Sl w w.heap.size A ([sX].map strV)) (h2 : Sl w w.heap.size B ([sX].map strV)) : Calls Tryd.prog 27 #[.slice A 1 c, .slice B 1 d] w fun e' w' => e' = .returned (.bool true) ∧ Below w.heap.size w w' := sameTexts_yes [sX] A B c d w (by decide) h1 h2
theorem sl_one (w : World) (x : ByteArray) : Sl (w.alloc (.cells #[.string x] 9)) (w.alloc (.cells #[.string x] 9)).heap.size (some ⟨w.heap.size, 0, none⟩) ([x].map strV) := by
  refine Or.inr ⟨w.heap.size, 0, rfl, by simp, fun j u hj => ?_⟩
  cases j with
  | zero =>
    rw [Joins.cell_of_block (heap_alloc_new w _)]
    simp at hj
    rw [← hj]
    rfl
  | succ j => simp at hj
theorem aw7 (A : Option Addr) (c b : Nat) (w : World) (hb : b = w.heap.size) (h1 : Sl w w.heap.size A ([sX].map strV)) : Calls Tryd.prog 27 #[.slice A 1 c, .slice (some ⟨b, 0, none⟩) 1 1] (w.alloc (.cells #[.string ⟨#[120]⟩] 9)) fun e' w' => e' = .returned (.bool true) ∧ Below (w.alloc (.cells #[.string ⟨#[120]⟩] 9)).heap.size (w.alloc (.cells #[.string ⟨#[120]⟩] 9)) w' := by
  subst hb
  exact aw6 _ _ _ _ _ (h1.next ((Below.refl _ _).alloc (Nat.le_refl _) _)) (sl_one w sX)
theorem awake_any (w : World) (hT : Tabs w) :
    Calls Tryd.prog 9 #[] w fun e' w' => e' = .returned (.bool true) ∧ Below w.heap.size w w' := by
  have HB : Below w.heap.size w w := Below.refl _ _
  have T1 := hT
  clear hT
  go_enter Tryd.func9, Tryd.ntmps9
  go_wp2_with (first | (go_at_call 26; ((with_reducible refine (one_lit _).mono ?_); rintro e' w1 ⟨A1, c1, A2, c2, rfl, S0, bx⟩; have T1 := T1.next bx; have HB := btr HB HB.size bx; clear bx)) | (go_at_call 21; ((with_reducible refine (aw1 _ _ S0 T1).mono ?_); rintro e' w2 ⟨A3, c3, A4, c4, rfl, hN, bx⟩; have AL : Below w2.heap.size w2 (w2.alloc (.cells #[.int .i64 2, .int .i64 2, .int .i64 2, .slice A3 1 c3, .slice A4 1 c4] 25)) := (Below.refl _ _).alloc (Nat.le_refl _) _; have BX : Blk (w2.alloc (.cells #[.int .i64 2, .int .i64 2, .int .i64 2, .slice A3 1 c3, .slice A4 1 c4] 25)) w2.heap.size 25 #[.int .i64 2, .int .i64 2, .int .i64 2, .slice A3 1 c3, .slice A4 1 c4] := Blk.new_ w2 25 #[.int .i64 2, .int .i64 2, .int .i64 2, .slice A3 1 c3, .slice A4 1 c4]; have T1 := (T1.next bx).next AL; have HB := btr (btr HB HB.size bx) (btr HB HB.size bx).size AL; have S1 := hN.next AL; (try clear k0 k1 k2 k3 k4); have k0 := BX.cell_ 0; have k1 := BX.cell_ 1; have k2 := BX.cell_ 2; have k3 := BX.cell_ 3; have k4 := BX.cell_ 4; simp at k0 k1 k2 k3 k4; clear bx AL hN)) | (go_at_call 21; ((with_reducible refine (aw2 _ _ S1 T1).mono ?_); rintro e' w3 ⟨A5, c5, A6, c6, rfl, hN, bx⟩; have AL : Below w3.heap.size w3 (w3.alloc (.cells #[.int .i64 2, .int .i64 2, .int .i64 3, .slice A5 1 c5, .slice A6 1 c6] 25)) := (Below.refl _ _).alloc (Nat.le_refl _) _; have BX : Blk (w3.alloc (.cells #[.int .i64 2, .int .i64 2, .int .i64 3, .slice A5 1 c5, .slice A6 1 c6] 25)) w3.heap.size 25 #[.int .i64 2, .int .i64 2, .int .i64 3, .slice A5 1 c5, .slice A6 1 c6] := Blk.new_ w3 25 #[.int .i64 2, .int .i64 2, .int .i64 3, .slice A5 1 c5, .slice A6 1 c6]; have T1 := (T1.next bx).next AL; have HB := btr (btr HB HB.size bx) (btr HB HB.size bx).size AL; have S1 := hN.next AL; (try clear k0 k1 k2 k3 k4); have k0 := BX.cell_ 0; have k1 := BX.cell_ 1; have k2 := BX.cell_ 2; have k3 := BX.cell_ 3; have k4 := BX.cell_ 4; simp at k0 k1 k2 k3 k4; clear bx AL hN)) | (go_at_call 22; ((with_reducible refine (aw3 _ _ S1 T1).mono ?_); rintro e' w4 ⟨A7, c7, A8, c8, rfl, hN, bx⟩; have AL : Below w4.heap.size w4 (w4.alloc (.cells #[.int .i64 2, .int .i64 2, .int .i64 3, .slice A7 1 c7, .slice A8 1 c8] 25)) := (Below.refl _ _).alloc (Nat.le_refl _) _; have BX : Blk (w4.alloc (.cells #[.int .i64 2, .int .i64 2, .int .i64 3, .slice A7 1 c7, .slice A8 1 c8] 25)) w4.heap.size 25 #[.int .i64 2, .int .i64 2, .int .i64 3, .slice A7 1 c7, .slice A8 1 c8] := Blk.new_ w4 25 #[.int .i64 2, .int .i64 2, .int .i64 3, .slice A7 1 c7, .slice A8 1 c8]; have T1 := (T1.next bx).next AL; have HB := btr (btr HB HB.size bx) (btr HB HB.size bx).size AL; have S1 := hN.next AL; (try clear k0 k1 k2 k3 k4); have k0 := BX.cell_ 0; have k1 := BX.cell_ 1; have k2 := BX.cell_ 2; have k3 := BX.cell_ 3; have k4 := BX.cell_ 4; simp at k0 k1 k2 k3 k4; clear bx AL hN)) | (go_at_call 12; ((with_reducible refine (aw4 _ _ S1 T1).mono ?_); rintro e' w5 ⟨rfl, bx⟩; have T1 := T1.next bx; have HB := btr HB HB.size bx; clear bx S1; clear k0 k1 k2 k3 k4)) | (go_at_call 18; ((with_reducible refine (aw5 _ _ S0 T1).mono ?_); rintro e' w6 ⟨A9, c9, A10, c10, rfl, hN, bx⟩; have AL : Below w6.heap.size w6 (w6.alloc (.cells #[.int .i64 2, .int .i64 2, .int .i64 1, .slice A9 1 c9, .slice A10 1 c10] 25)) := (Below.refl _ _).alloc (Nat.le_refl _) _; have BX : Blk (w6.alloc (.cells #[.int .i64 2, .int .i64 2, .int .i64 1, .slice A9 1 c9, .slice A10 1 c10] 25)) w6.heap.size 25 #[.int .i64 2, .int .i64 2, .int .i64 1, .slice A9 1 c9, .slice A10 1 c10] := Blk.new_ w6 25 #[.int .i64 2, .int .i64 2, .int .i64 1, .slice A9 1 c9, .slice A10 1 c10]; have T1 := (T1.next bx).next AL; have HB := btr (btr HB HB.size bx) (btr HB HB.size bx).size AL; have S1 := hN.next AL; (try clear k0 k1 k2 k3 k4); have k0 := BX.cell_ 0; have k1 := BX.cell_ 1; have k2 := BX.cell_ 2; have k3 := BX.cell_ 3; have k4 := BX.cell_ 4; simp at k0 k1 k2 k3 k4; clear bx AL hN; obtain ⟨b1, o1, At, ct, rfl, SB, y3, TG⟩ := tag_row S1)) | (go_at_call 27; ((with_reducible refine (aw7 _ ct _ _ (by simp) TG).mono ?_); rintro e' w7 ⟨rfl, bx⟩; have HB := btr (HB.alloc HB.size _) (HB.alloc HB.size _).size bx)))
  go_ret
  exact ⟨rfl, HB⟩
end Go.Proofs.YtkaoechjekffmaaDoor
namespace Go.Proofs.YtkaoechjekffmaaDoor
open Go.ChangeShapes Go.WideShapes Go.ChangeAt Go.RowKit
attribute [local go_sem ↓] Go.wp_at_zero Go.wp_at_succ
structure Ac where
  d : Int
  a : Int
  b : Int
  nm : ByteArray
def zeroSf : Sf := ⟨0, 0, 0, [], []⟩
theorem zeroW (w : World) (base : Nat) : ShW w base (.agg #[.int .i64 0, .int .i64 0, .int .i64 0, .slice none 0 0, .slice none 0 0]) zeroSf := ShW.make (s := zeroSf) (w := w) (base := base) (vb := .slice none 0 0) (vn := .slice none 0 0) (World.ownsRow_nil _ _ _ _) ⟨[], rfl, World.ownsRow_nil _ _ _ _, fun k n e a _ => by simp [zeroSf] at a⟩
def shtN (s : Sf) (y i : Int) : Int := match (ntOf s y).sh[i.toNat]? with
  | some x => x
  | none => 0
def actC (s : Sf) (x : Ac) : Int := if x.d = 0 then tagC s x.a x.nm else if x.d = 1 then untC s x.a x.nm else if x.d = 2 then appC s x.a else if x.d = 3 then shtC s x.a x.b else if x.d = 4 then shtC s x.a x.b else 8
def actS (s : Sf) (x : Ac) : Sf := if x.d = 0 then tagS s x.a x.nm else if x.d = 1 then untS s x.a x.nm else if x.d = 2 then appS s x.a else if x.d = 3 then s else remS s x.a x.b
def resS (s : Sf) (x : Ac) : Sf := cond (actC s x == 0) (actS s x) zeroSf
theorem num_any (z : Int) (w : World) : Calls Tryd.prog 15 #[.int .i64 z] w fun e' w' => e' = .returned (.int .i64 z) ∧ Below w.heap.size w w' := by
  go_enter Tryd.func15, Tryd.ntmps15
  go_wp2_with fail
  go_ret
  exact ⟨rfl, Below.refl _ _⟩
theorem ShW.far {w w' : World} {base g : Nat} {v : Value} {s : Sf} (h : ShW w base v s) (hg : w.grownBy w' (some g)) (hb : g < base) : ShW w' base v s := by
  obtain ⟨Ab, cb, An, cn, rfl, h1, h2, -⟩ := h.parts
  exact ShW.make (h1.far hg hb) (h2.far hg hb)
theorem sht_nat {s : Sf} {y i : Int} (h : shtC s y i = 0) : ∃ (k j : Nat) (n : Nt) (x : Int), FdF s y k n ∧ i = (j : Int) ∧ n.sh[j]? = some x ∧ shtN s y i = x := by
  have hf : findC s y = 0 := by
    unfold shtC at h
    by_cases h1 : findC s y = 0
    · exact h1
    · have h2 : (findC s y == 0) = false := by simpa using h1
      rw [h2] at h
      exact absurd h h1
  obtain ⟨k, n, hF⟩ := fdF_of hf
  obtain ⟨h1, h2⟩ := (sht_at hF).1 h
  have hj : i.toNat < n.sh.length := by omega
  refine ⟨k, i.toNat, n, n.sh[i.toNat], hF, by omega, List.getElem?_eq_getElem hj, ?_⟩
  unfold shtN
  rw [hF.of_, List.getElem?_eq_getElem hj]
theorem may_size {x : ByteArray} (h : mayN x = true) : x.size ≤ 20 := by
  have h1 := (name_iff.1 (show nameB x.data.toList = true from h)).2.1
  exact h1
theorem MayF.sz {s : Sf} (h : MayF s) : SzF s := by
  have h6 : ∀ l : List Nt, (∀ n ∈ l, n.sh.length ≤ 8) → (l.flatMap Nt.sh).length ≤ 8 * l.length := by
    intro l
    induction l with
    | nil => intro _; simp
    | cons n l ih =>
      intro hl
      rw [List.flatMap_cons, List.length_append, List.length_cons]
      have q1 := hl n (by simp)
      have q2 := ih (fun m hm => hl m (by simp [hm]))
      omega
  have h7 := h6 s.ts ((sh_iff _ _ _).1 h.sh).1
  have h8 := h.tl
  refine ⟨fun b hb => ?_, fun n hn => ?_, by have := h.bl; omega, by omega, by omega⟩
  · have := may_size (h.bs b hb).2.2.1
    omega
  · obtain ⟨m1, m2, m3, m4⟩ := mayNt_iff.1 (h.ts n hn).2.2
    obtain ⟨t1, t2, t3⟩ := tg_iff.1 m4
    refine ⟨by have := may_size m1; omega, ⟨fun t ht => by have := may_size (t2 t ht); omega, by omega⟩, ?_⟩
    have := ((sh_iff _ _ _).1 h.sh).1 n hn
    omega
structure NxF (s T : Sf) : Prop where
  may : MayF T
  lo : s.ns ≤ T.ns
  hi : T.ns ≤ s.ns + 1
  nt : T.ts.length = s.ts.length
theorem act_next {s : Sf} {x : Ac} (hm : MayF s) (h : actC s x = 0) : NxF s (actS s x) := by
  have hput : ∀ (y : Int) (m : Nt), (putN s y m).ts.length = s.ts.length := fun y m => List.length_set
  unfold actC at h
  unfold actS
  split at h
  · rename_i h0
    rw [if_pos h0]
    obtain ⟨h1, h2, h3, h4⟩ := tagC_cases h
    obtain ⟨k, n, hF⟩ := fdF_of h1
    rw [hF.of_] at h3 h4
    exact ⟨tag_may hF h2 (fun hm => by rw [hasT_iff.2 hm] at h3; cases h3) h4, Int.le_refl _, by show s.ns ≤ s.ns + 1; omega, hput _ _⟩
  · rename_i h0
    rw [if_neg h0]
    split at h
    · rename_i h1
      rw [if_pos h1]
      have hf : findC s x.a = 0 := by
        unfold untC at h
        by_cases h1 : findC s x.a = 0
        · exact h1
        · have h2 : (findC s x.a == 0) = false := by simpa using h1
          rw [h2] at h
          exact absurd h h1
      obtain ⟨k, n, hF⟩ := fdF_of hf
      exact ⟨unt_may hF, Int.le_refl _, by show s.ns ≤ s.ns + 1; omega, hput _ _⟩
    · rename_i h1
      rw [if_neg h1]
      split at h
      · rename_i h2
        rw [if_pos h2]
        obtain ⟨h3, h4, h5⟩ := appC_cases h
        obtain ⟨k, n, hF⟩ := fdF_of h3
        rw [hF.of_] at h4
        exact ⟨app_may hF h4 h5, by show s.ns ≤ s.ns + 1; omega, Int.le_refl _, hput _ _⟩
      · rename_i h2
        rw [if_neg h2]
        split at h
        · rename_i h3
          rw [if_pos h3]
          exact ⟨hm, Int.le_refl _, by omega, rfl⟩
        · rename_i h3
          rw [if_neg h3]
          split at h
          · obtain ⟨k, j, n, z, hF, -⟩ := sht_nat h
            exact ⟨rem_may hF, Int.le_refl _, by show s.ns ≤ s.ns + 1; omega, hput _ _⟩
          · cases h
theorem res_cases (s : Sf) (x : Ac) : (resS s x = zeroSf) ∨ (actC s x = 0 ∧ resS s x = actS s x) := by
  unfold resS
  cases h : actC s x == 0
  · exact Or.inl rfl
  · exact Or.inr ⟨by simpa using h, rfl⟩
theorem act_may {s : Sf} {x : Ac} (h : actC s x = 0) : MayF s := by
  have hf : ∀ y, findC s y = 0 → MayF s := fun y h => by
    obtain ⟨k, n, hF⟩ := fdF_of h
    exact hF.may
  unfold actC at h
  split at h
  · exact hf _ (tagC_cases h).1
  · split at h
    · unfold untC at h
      by_cases h1 : findC s x.a = 0
      · exact hf _ h1
      · have h2 : (findC s x.a == 0) = false := by simpa using h1
        rw [h2] at h
        exact absurd h h1
    · split at h
      · exact hf _ (appC_cases h).1
      · split at h
        · obtain ⟨k, j, n, z, hF, -⟩ := sht_nat h
          exact hF.may
        · split at h
          · obtain ⟨k, j, n, z, hF, -⟩ := sht_nat h
            exact hF.may
          · cases h
theorem res_small (s : Sf) (x : Ac) : (resS s x).bs.length ≤ 100000 ∧ (resS s x).ts.length ≤ 100000 ∧ ∀ n ∈ (resS s x).ts, n.tg.length ≤ 100000 ∧ n.sh.length ≤ 100000 := by
  rcases res_cases s x with h | ⟨h1, h2⟩
  · rw [h]
    exact ⟨by simp [zeroSf], by simp [zeroSf], fun n hn => by simp [zeroSf] at hn⟩
  · rw [h2]
    exact (act_next (act_may h1) h1).may.lens3
theorem ntag_all (s : Sf) (v : Value) (y : Int) (x : ByteArray) (w : World) (hS : ShR w w.heap.size v s) (hT : Tabs w) (c : Int) (hc : tagC s y x = c) (T : Sf) (hR : cond (c == 0) (tagS s y x) zeroSf = T) :
    Calls Tryd.prog 18 #[v, .int .i64 y, .string x] w fun e' w' => ∃ va, e' = .returned (.tuple #[va, .int .i64 c]) ∧ ShW w' w.heap.size va T ∧ Below w.heap.size w w' := by
  by_cases h0 : c = 0
  · subst h0
    have hR' : tagS s y x = T := hR
    subst hR'
    exact (ntag_yes s v y x w hS hT hc).mono fun e' w' ⟨v', h1, h2, h3⟩ => ⟨v', h1, h2, h3⟩
  · have hb : (c == 0) = false := by simpa using h0
    rw [hb] at hR
    have hR' : zeroSf = T := hR
    subst hR'
    exact (ntag_no s v y x w hS hT c hc h0).mono fun e' w' ⟨h1, h2⟩ => ⟨_, h1, zeroW _ _, h2⟩
theorem rtag_all (s : Sf) (v : Value) (y : Int) (x : ByteArray) (w : World) (hS : ShR w w.heap.size v s) (hz : SzF s) (hx : x.size ≤ 100000) (c : Int) (hc : tagC s y x = c) (T : Sf) (hR : cond (c == 0) (tagS s y x) zeroSf = T) :
    Calls Tryd.prog 28 #[v, .int .i64 y, .string x] w fun e' w' => ∃ va, e' = .returned (.tuple #[va, .int .i64 c]) ∧ ShW w' w.heap.size va T ∧ Below w.heap.size w w' := by
  by_cases h0 : c = 0
  · subst h0
    have hR' : tagS s y x = T := hR
    subst hR'
    exact (rtag_yes s v y x w hS hz hx hc).mono fun e' w' ⟨v', h1, h2, h3⟩ => ⟨v', h1, h2, h3⟩
  · have hb : (c == 0) = false := by simpa using h0
    rw [hb] at hR
    have hR' : zeroSf = T := hR
    subst hR'
    exact (rtag_no s v y x w hS hz hx c hc h0).mono fun e' w' ⟨h1, h2⟩ => ⟨_, h1, zeroW _ _, h2⟩
theorem nunt_all (s : Sf) (v : Value) (y : Int) (x : ByteArray) (w : World) (hS : ShR w w.heap.size v s) (hT : Tabs w) (c : Int) (hc : untC s y x = c) (T : Sf) (hR : cond (c == 0) (untS s y x) zeroSf = T) :
    Calls Tryd.prog 20 #[v, .int .i64 y, .string x] w fun e' w' => ∃ va, e' = .returned (.tuple #[va, .int .i64 c]) ∧ ShW w' w.heap.size va T ∧ Below w.heap.size w w' := by
  by_cases h0 : c = 0
  · subst h0
    have hR' : untS s y x = T := hR
    subst hR'
    exact (nunt_yes s v y x w hS hT hc).mono fun e' w' ⟨v', h1, h2, h3⟩ => ⟨v', h1, h2, h3⟩
  · have hb : (c == 0) = false := by simpa using h0
    rw [hb] at hR
    have hR' : zeroSf = T := hR
    subst hR'
    exact (nunt_no s v y x w hS hT c hc h0).mono fun e' w' ⟨h1, h2⟩ => ⟨_, h1, zeroW _ _, h2⟩
theorem runt_all (s : Sf) (v : Value) (y : Int) (x : ByteArray) (w : World) (hS : ShR w w.heap.size v s) (hz : SzF s) (c : Int) (hc : untC s y x = c) (T : Sf) (hR : cond (c == 0) (untS s y x) zeroSf = T) :
    Calls Tryd.prog 29 #[v, .int .i64 y, .string x] w fun e' w' => ∃ va, e' = .returned (.tuple #[va, .int .i64 c]) ∧ ShW w' w.heap.size va T ∧ Below w.heap.size w w' := by
  by_cases h0 : c = 0
  · subst h0
    have hR' : untS s y x = T := hR
    subst hR'
    exact (runt_yes s v y x w hS hz hc).mono fun e' w' ⟨v', h1, h2, h3⟩ => ⟨v', h1, h2, h3⟩
  · have hb : (c == 0) = false := by simpa using h0
    rw [hb] at hR
    have hR' : zeroSf = T := hR
    subst hR'
    exact (runt_no s v y x w hS hz c hc h0).mono fun e' w' ⟨h1, h2⟩ => ⟨_, h1, zeroW _ _, h2⟩
theorem napp_all (s : Sf) (v : Value) (y : Int) (w : World) (hS : ShR w w.heap.size v s) (hT : Tabs w) (c : Int) (hc : appC s y = c) (N : Int) (hN : cond (c == 0) s.ns 0 = N) (T : Sf) (hR : cond (c == 0) (appS s y) zeroSf = T) :
    Calls Tryd.prog 21 #[v, .int .i64 y] w fun e' w' => ∃ va, e' = .returned (.tuple #[va, .int .i64 N, .int .i64 c]) ∧ ShW w' w.heap.size va T ∧ Below w.heap.size w w' := by
  by_cases h0 : c = 0
  · subst h0
    have hR' : appS s y = T := hR
    subst hR'
    have hN' : s.ns = N := hN
    subst hN'
    exact (napp_yes s v y w hS hT hc).mono fun e' w' ⟨v', h1, h2, h3⟩ => ⟨v', h1, h2, h3⟩
  · have hb : (c == 0) = false := by simpa using h0
    rw [hb] at hR
    have hR' : zeroSf = T := hR
    subst hR'
    rw [hb] at hN
    have hN' : (0 : Int) = N := hN
    subst hN'
    exact (napp_no s v y w hS hT c hc h0).mono fun e' w' ⟨h1, h2⟩ => ⟨_, h1, zeroW _ _, h2⟩
theorem rapp_all (s : Sf) (v : Value) (y : Int) (w : World) (hS : ShR w w.heap.size v s) (hz : SzF s) (c : Int) (hc : appC s y = c) (N : Int) (hN : cond (c == 0) s.ns 0 = N) (T : Sf) (hR : cond (c == 0) (appS s y) zeroSf = T) :
    Calls Tryd.prog 30 #[v, .int .i64 y] w fun e' w' => ∃ va, e' = .returned (.tuple #[va, .int .i64 N, .int .i64 c]) ∧ ShW w' w.heap.size va T ∧ Below w.heap.size w w' := by
  by_cases h0 : c = 0
  · subst h0
    have hR' : appS s y = T := hR
    subst hR'
    have hN' : s.ns = N := hN
    subst hN'
    exact (rapp_yes s v y w hS hz hc).mono fun e' w' ⟨v', h1, h2, h3⟩ => ⟨v', h1, h2, h3⟩
  · have hb : (c == 0) = false := by simpa using h0
    rw [hb] at hR
    have hR' : zeroSf = T := hR
    subst hR'
    rw [hb] at hN
    have hN' : (0 : Int) = N := hN
    subst hN'
    exact (rapp_no s v y w hS hz c hc h0).mono fun e' w' ⟨h1, h2⟩ => ⟨_, h1, zeroW _ _, h2⟩
theorem nrepl_all (s : Sf) (v : Value) (y : Int) (z : Int) (w : World) (hS : ShR w w.heap.size v s) (hT : Tabs w) (c : Int) (hc : shtC s y z = c) (N : Int) (hN : cond (c == 0) (shtN s y z) 0 = N) (T : Sf) (hR : cond (c == 0) (s) zeroSf = T) :
    Calls Tryd.prog 31 #[v, .int .i64 y, .int .i64 z] w fun e' w' => ∃ va, e' = .returned (.tuple #[va, .int .i64 N, .int .i64 c]) ∧ ShW w' w.heap.size va T ∧ Below w.heap.size w w' := by
  by_cases h0 : c = 0
  · subst h0
    have hR' : s = T := hR
    subst hR'
    have hN' : (shtN s y z) = N := hN
    subst hN'
    obtain ⟨k, j, n, q, hF, rfl, hq, hN2⟩ := sht_nat hc
    rw [hN2]
    exact (nrepl_yes s v y w hS hT k n hF j q hq).mono fun e' w' ⟨v', h1, h2, h3⟩ => ⟨v', h1, h2.toW, h3⟩
  · have hb : (c == 0) = false := by simpa using h0
    rw [hb] at hR
    have hR' : zeroSf = T := hR
    subst hR'
    rw [hb] at hN
    have hN' : (0 : Int) = N := hN
    subst hN'
    exact (nrepl_no s v y z w hS hT c hc h0).mono fun e' w' ⟨h1, h2⟩ => ⟨_, h1, zeroW _ _, h2⟩
theorem rrepl_all (s : Sf) (v : Value) (y : Int) (z : Int) (w : World) (hS : ShR w w.heap.size v s) (hz : SzF s) (c : Int) (hc : shtC s y z = c) (N : Int) (hN : cond (c == 0) (shtN s y z) 0 = N) (T : Sf) (hR : cond (c == 0) (s) zeroSf = T) :
    Calls Tryd.prog 32 #[v, .int .i64 y, .int .i64 z] w fun e' w' => ∃ va, e' = .returned (.tuple #[va, .int .i64 N, .int .i64 c]) ∧ ShW w' w.heap.size va T ∧ Below w.heap.size w w' := by
  by_cases h0 : c = 0
  · subst h0
    have hR' : s = T := hR
    subst hR'
    have hN' : (shtN s y z) = N := hN
    subst hN'
    obtain ⟨k, j, n, q, hF, rfl, hq, hN2⟩ := sht_nat hc
    rw [hN2]
    exact (rrepl_yes s v y w hS hz k n hF j q hq).mono fun e' w' ⟨v', h1, h2, h3⟩ => ⟨v', h1, h2.toW, h3⟩
  · have hb : (c == 0) = false := by simpa using h0
    rw [hb] at hR
    have hR' : zeroSf = T := hR
    subst hR'
    rw [hb] at hN
    have hN' : (0 : Int) = N := hN
    subst hN'
    exact (rrepl_no s v y z w hS hz c hc h0).mono fun e' w' ⟨h1, h2⟩ => ⟨_, h1, zeroW _ _, h2⟩
theorem nrem_all (s : Sf) (v : Value) (y : Int) (z : Int) (w : World) (hS : ShR w w.heap.size v s) (hT : Tabs w) (c : Int) (hc : shtC s y z = c) (N : Int) (hN : cond (c == 0) (shtN s y z) 0 = N) (T : Sf) (hR : cond (c == 0) (remS s y z) zeroSf = T) :
    Calls Tryd.prog 22 #[v, .int .i64 y, .int .i64 z] w fun e' w' => ∃ va, e' = .returned (.tuple #[va, .int .i64 N, .int .i64 c]) ∧ ShW w' w.heap.size va T ∧ Below w.heap.size w w' := by
  by_cases h0 : c = 0
  · subst h0
    have hR' : remS s y z = T := hR
    subst hR'
    have hN' : (shtN s y z) = N := hN
    subst hN'
    obtain ⟨k, j, n, q, hF, rfl, hq, hN2⟩ := sht_nat hc
    rw [hN2]
    exact (nrem_yes s v y w hS hT k n hF j q hq).mono fun e' w' ⟨v', h1, h2, h3⟩ => ⟨v', h1, h2, h3⟩
  · have hb : (c == 0) = false := by simpa using h0
    rw [hb] at hR
    have hR' : zeroSf = T := hR
    subst hR'
    rw [hb] at hN
    have hN' : (0 : Int) = N := hN
    subst hN'
    exact (nrem_no s v y z w hS hT c hc h0).mono fun e' w' ⟨h1, h2⟩ => ⟨_, h1, zeroW _ _, h2⟩
theorem rrem_all (s : Sf) (v : Value) (y : Int) (z : Int) (w : World) (hS : ShR w w.heap.size v s) (hz : SzF s) (c : Int) (hc : shtC s y z = c) (N : Int) (hN : cond (c == 0) (shtN s y z) 0 = N) (T : Sf) (hR : cond (c == 0) (remS s y z) zeroSf = T) :
    Calls Tryd.prog 33 #[v, .int .i64 y, .int .i64 z] w fun e' w' => ∃ va, e' = .returned (.tuple #[va, .int .i64 N, .int .i64 c]) ∧ ShW w' w.heap.size va T ∧ Below w.heap.size w w' := by
  by_cases h0 : c = 0
  · subst h0
    have hR' : remS s y z = T := hR
    subst hR'
    have hN' : (shtN s y z) = N := hN
    subst hN'
    obtain ⟨k, j, n, q, hF, rfl, hq, hN2⟩ := sht_nat hc
    rw [hN2]
    exact (rrem_yes s v y w hS hz k n hF j q hq).mono fun e' w' ⟨v', h1, h2, h3⟩ => ⟨v', h1, h2, h3⟩
  · have hb : (c == 0) = false := by simpa using h0
    rw [hb] at hR
    have hR' : zeroSf = T := hR
    subst hR'
    rw [hb] at hN
    have hN' : (0 : Int) = N := hN
    subst hN'
    exact (rrem_no s v y z w hS hz c hc h0).mono fun e' w' ⟨h1, h2⟩ => ⟨_, h1, zeroW _ _, h2⟩
def BoxW (w : World) (g base : Nat) (T : Sf) : Prop := ∃ Ab cb An cn, Blk w g 25 #[.int .i64 T.nb, .int .i64 T.nn, .int .i64 T.ns, .slice Ab T.bs.length cb, .slice An T.ts.length cn] ∧ ShW w base (.agg #[.int .i64 T.nb, .int .i64 T.nn, .int .i64 T.ns, .slice Ab T.bs.length cb, .slice An T.ts.length cn]) T
structure BothI (g : Nat) (w0 : World) (T : Sf) (n m f e : Value) (wx : World) : Prop where
  num : ∃ N : Int, n = .int .i64 N ∧ m = .int .i64 N
  err : ∃ c : Int, f = .int .i64 c ∧ e = .int .i64 c
  a : BoxW wx (g + 1 + 1 + 1) (g + 5) T
  b : BoxW wx (g + 1 + 1 + 1 + 1) (g + 5) T
  r1 : Blk wx (g + 1 + 1) 25 #[.int .i64 0, .int .i64 0, .int .i64 0, .slice none 0 0, .slice none 0 0]
  be : Below g w0 wx
  sz : g + 5 ≤ wx.heap.size
theorem both_any (s : Sf) (v : Value) (x : Ac) (w : World) (hS : ShR w w.heap.size v s) (hT : Tabs w) (hz : SzF s) (hx : x.nm.size ≤ 100000) :
    Calls Tryd.prog 11 #[v, .agg #[.int .i64 x.d, .int .i64 x.a, .int .i64 x.b, .string x.nm]] w fun e' w' => ∃ va, e' = .returned (.tuple #[va, .bool true]) ∧ ShW w' w.heap.size va (resS s x) ∧ Below w.heap.size w w' := by
  obtain ⟨d, a, b, nm⟩ := x
  have hS0 := hS
  obtain ⟨Ab, cb, An, cn, rfl, hB, hN, hcb, hmb, hcn, hmn⟩ := hS.ex
  clear hS
  have HB : Below w.heap.size w (((((w.alloc (.cells #[.int .i64 s.nb, .int .i64 s.nn, .int .i64 s.ns, .slice Ab s.bs.length cb, .slice An s.ts.length cn] 25)).alloc (.cells #[.int .i64 d, .int .i64 a, .int .i64 b, .string nm] 27)).alloc (.cells #[.int .i64 0, .int .i64 0, .int .i64 0, .slice none 0 0, .slice none 0 0] 25)).alloc (.cells #[.int .i64 0, .int .i64 0, .int .i64 0, .slice none 0 0, .slice none 0 0] 25)).alloc (.cells #[.int .i64 0, .int .i64 0, .int .i64 0, .slice none 0 0, .slice none 0 0] 25)) := ((((((Below.refl w.heap.size w).alloc (by first | (simp; done) | (simp; omega)) _).alloc (by first | (simp; done) | (simp; omega)) _).alloc (by first | (simp; done) | (simp; omega)) _).alloc (by first | (simp; done) | (simp; omega)) _).alloc (by first | (simp; done) | (simp; omega)) _)
  have B1 : Blk (((((w.alloc (.cells #[.int .i64 s.nb, .int .i64 s.nn, .int .i64 s.ns, .slice Ab s.bs.length cb, .slice An s.ts.length cn] 25)).alloc (.cells #[.int .i64 d, .int .i64 a, .int .i64 b, .string nm] 27)).alloc (.cells #[.int .i64 0, .int .i64 0, .int .i64 0, .slice none 0 0, .slice none 0 0] 25)).alloc (.cells #[.int .i64 0, .int .i64 0, .int .i64 0, .slice none 0 0, .slice none 0 0] 25)).alloc (.cells #[.int .i64 0, .int .i64 0, .int .i64 0, .slice none 0 0, .slice none 0 0] 25)) w.heap.size 25 #[.int .i64 s.nb, .int .i64 s.nn, .int .i64 s.ns, .slice Ab s.bs.length cb, .slice An s.ts.length cn] := by
    have := (((((Blk.new_ w 25 #[.int .i64 s.nb, .int .i64 s.nn, .int .i64 s.ns, .slice Ab s.bs.length cb, .slice An s.ts.length cn]).alloc_ (.cells #[.int .i64 d, .int .i64 a, .int .i64 b, .string nm] 27)).alloc_ (.cells #[.int .i64 0, .int .i64 0, .int .i64 0, .slice none 0 0, .slice none 0 0] 25)).alloc_ (.cells #[.int .i64 0, .int .i64 0, .int .i64 0, .slice none 0 0, .slice none 0 0] 25)).alloc_ (.cells #[.int .i64 0, .int .i64 0, .int .i64 0, .slice none 0 0, .slice none 0 0] 25))
    simpa using this
  have B2 : Blk (((((w.alloc (.cells #[.int .i64 s.nb, .int .i64 s.nn, .int .i64 s.ns, .slice Ab s.bs.length cb, .slice An s.ts.length cn] 25)).alloc (.cells #[.int .i64 d, .int .i64 a, .int .i64 b, .string nm] 27)).alloc (.cells #[.int .i64 0, .int .i64 0, .int .i64 0, .slice none 0 0, .slice none 0 0] 25)).alloc (.cells #[.int .i64 0, .int .i64 0, .int .i64 0, .slice none 0 0, .slice none 0 0] 25)).alloc (.cells #[.int .i64 0, .int .i64 0, .int .i64 0, .slice none 0 0, .slice none 0 0] 25)) (w.heap.size + 1) 27 #[.int .i64 d, .int .i64 a, .int .i64 b, .string nm] := by
    have := ((((Blk.new_ (w.alloc (.cells #[.int .i64 s.nb, .int .i64 s.nn, .int .i64 s.ns, .slice Ab s.bs.length cb, .slice An s.ts.length cn] 25)) 27 #[.int .i64 d, .int .i64 a, .int .i64 b, .string nm]).alloc_ (.cells #[.int .i64 0, .int .i64 0, .int .i64 0, .slice none 0 0, .slice none 0 0] 25)).alloc_ (.cells #[.int .i64 0, .int .i64 0, .int .i64 0, .slice none 0 0, .slice none 0 0] 25)).alloc_ (.cells #[.int .i64 0, .int .i64 0, .int .i64 0, .slice none 0 0, .slice none 0 0] 25))
    simpa using this
  have B3 : Blk (((((w.alloc (.cells #[.int .i64 s.nb, .int .i64 s.nn, .int .i64 s.ns, .slice Ab s.bs.length cb, .slice An s.ts.length cn] 25)).alloc (.cells #[.int .i64 d, .int .i64 a, .int .i64 b, .string nm] 27)).alloc (.cells #[.int .i64 0, .int .i64 0, .int .i64 0, .slice none 0 0, .slice none 0 0] 25)).alloc (.cells #[.int .i64 0, .int .i64 0, .int .i64 0, .slice none 0 0, .slice none 0 0] 25)).alloc (.cells #[.int .i64 0, .int .i64 0, .int .i64 0, .slice none 0 0, .slice none 0 0] 25)) (w.heap.size + 1 + 1) 25 #[.int .i64 0, .int .i64 0, .int .i64 0, .slice none 0 0, .slice none 0 0] := by
    have := (((Blk.new_ ((w.alloc (.cells #[.int .i64 s.nb, .int .i64 s.nn, .int .i64 s.ns, .slice Ab s.bs.length cb, .slice An s.ts.length cn] 25)).alloc (.cells #[.int .i64 d, .int .i64 a, .int .i64 b, .string nm] 27)) 25 #[.int .i64 0, .int .i64 0, .int .i64 0, .slice none 0 0, .slice none 0 0]).alloc_ (.cells #[.int .i64 0, .int .i64 0, .int .i64 0, .slice none 0 0, .slice none 0 0] 25)).alloc_ (.cells #[.int .i64 0, .int .i64 0, .int .i64 0, .slice none 0 0, .slice none 0 0] 25))
    simpa using this
  have B4 : Blk (((((w.alloc (.cells #[.int .i64 s.nb, .int .i64 s.nn, .int .i64 s.ns, .slice Ab s.bs.length cb, .slice An s.ts.length cn] 25)).alloc (.cells #[.int .i64 d, .int .i64 a, .int .i64 b, .string nm] 27)).alloc (.cells #[.int .i64 0, .int .i64 0, .int .i64 0, .slice none 0 0, .slice none 0 0] 25)).alloc (.cells #[.int .i64 0, .int .i64 0, .int .i64 0, .slice none 0 0, .slice none 0 0] 25)).alloc (.cells #[.int .i64 0, .int .i64 0, .int .i64 0, .slice none 0 0, .slice none 0 0] 25)) (w.heap.size + 1 + 1 + 1) 25 #[.int .i64 0, .int .i64 0, .int .i64 0, .slice none 0 0, .slice none 0 0] := by
    have := ((Blk.new_ (((w.alloc (.cells #[.int .i64 s.nb, .int .i64 s.nn, .int .i64 s.ns, .slice Ab s.bs.length cb, .slice An s.ts.length cn] 25)).alloc (.cells #[.int .i64 d, .int .i64 a, .int .i64 b, .string nm] 27)).alloc (.cells #[.int .i64 0, .int .i64 0, .int .i64 0, .slice none 0 0, .slice none 0 0] 25)) 25 #[.int .i64 0, .int .i64 0, .int .i64 0, .slice none 0 0, .slice none 0 0]).alloc_ (.cells #[.int .i64 0, .int .i64 0, .int .i64 0, .slice none 0 0, .slice none 0 0] 25))
    simpa using this
  have B5 : Blk (((((w.alloc (.cells #[.int .i64 s.nb, .int .i64 s.nn, .int .i64 s.ns, .slice Ab s.bs.length cb, .slice An s.ts.length cn] 25)).alloc (.cells #[.int .i64 d, .int .i64 a, .int .i64 b, .string nm] 27)).alloc (.cells #[.int .i64 0, .int .i64 0, .int .i64 0, .slice none 0 0, .slice none 0 0] 25)).alloc (.cells #[.int .i64 0, .int .i64 0, .int .i64 0, .slice none 0 0, .slice none 0 0] 25)).alloc (.cells #[.int .i64 0, .int .i64 0, .int .i64 0, .slice none 0 0, .slice none 0 0] 25)) (w.heap.size + 1 + 1 + 1 + 1) 25 #[.int .i64 0, .int .i64 0, .int .i64 0, .slice none 0 0, .slice none 0 0] := by
    have := (Blk.new_ ((((w.alloc (.cells #[.int .i64 s.nb, .int .i64 s.nn, .int .i64 s.ns, .slice Ab s.bs.length cb, .slice An s.ts.length cn] 25)).alloc (.cells #[.int .i64 d, .int .i64 a, .int .i64 b, .string nm] 27)).alloc (.cells #[.int .i64 0, .int .i64 0, .int .i64 0, .slice none 0 0, .slice none 0 0] 25)).alloc (.cells #[.int .i64 0, .int .i64 0, .int .i64 0, .slice none 0 0, .slice none 0 0] 25)) 25 #[.int .i64 0, .int .i64 0, .int .i64 0, .slice none 0 0, .slice none 0 0])
    simpa using this
  have S1 : ShR (((((w.alloc (.cells #[.int .i64 s.nb, .int .i64 s.nn, .int .i64 s.ns, .slice Ab s.bs.length cb, .slice An s.ts.length cn] 25)).alloc (.cells #[.int .i64 d, .int .i64 a, .int .i64 b, .string nm] 27)).alloc (.cells #[.int .i64 0, .int .i64 0, .int .i64 0, .slice none 0 0, .slice none 0 0] 25)).alloc (.cells #[.int .i64 0, .int .i64 0, .int .i64 0, .slice none 0 0, .slice none 0 0] 25)).alloc (.cells #[.int .i64 0, .int .i64 0, .int .i64 0, .slice none 0 0, .slice none 0 0] 25)) ((((((w.alloc (.cells #[.int .i64 s.nb, .int .i64 s.nn, .int .i64 s.ns, .slice Ab s.bs.length cb, .slice An s.ts.length cn] 25)).alloc (.cells #[.int .i64 d, .int .i64 a, .int .i64 b, .string nm] 27)).alloc (.cells #[.int .i64 0, .int .i64 0, .int .i64 0, .slice none 0 0, .slice none 0 0] 25)).alloc (.cells #[.int .i64 0, .int .i64 0, .int .i64 0, .slice none 0 0, .slice none 0 0] 25)).alloc (.cells #[.int .i64 0, .int .i64 0, .int .i64 0, .slice none 0 0, .slice none 0 0] 25))).heap.size (.agg #[.int .i64 s.nb, .int .i64 s.nn, .int .i64 s.ns, .slice Ab s.bs.length cb, .slice An s.ts.length cn]) s := hS0.next HB
  have T1 := hT.next HB
  have HZ := Lib.hid hz
  have HX : Hid (nm.size ≤ 100000) := Lib.hid hx
  have hT0 := hT
  obtain ⟨W, hW⟩ : ∃ V : World, V = (((((w.alloc (.cells #[.int .i64 s.nb, .int .i64 s.nn, .int .i64 s.ns, .slice Ab s.bs.length cb, .slice An s.ts.length cn] 25)).alloc (.cells #[.int .i64 d, .int .i64 a, .int .i64 b, .string nm] 27)).alloc (.cells #[.int .i64 0, .int .i64 0, .int .i64 0, .slice none 0 0, .slice none 0 0] 25)).alloc (.cells #[.int .i64 0, .int .i64 0, .int .i64 0, .slice none 0 0, .slice none 0 0] 25)).alloc (.cells #[.int .i64 0, .int .i64 0, .int .i64 0, .slice none 0 0, .slice none 0 0] 25)) := ⟨_, rfl⟩
  have hsz : w.heap.size + 5 ≤ W.heap.size := by rw [hW]; simp
  have HSM := Lib.hid (res_small s ⟨d, a, b, nm⟩)
  clear hB hN hcb hmb hcn hmn hz hx hT
  go_enter Tryd.func11, Tryd.ntmps11
  go_upto_block 0 with fail
  rw [← hW] at HB B1 B2 B3 B4 B5 S1 T1 ⊢
  clear hW
  go_cut [8, 9, 10, 11] (fun n m f e wx => BothI w.heap.size w (resS s ⟨d, a, b, nm⟩) n m f e wx)
  case first =>
    have hd : d = 0 ∨ d = 1 ∨ d = 2 ∨ d = 3 ∨ d = 4 ∨ (d ≠ 0 ∧ d ≠ 1 ∧ d ≠ 2 ∧ d ≠ 3 ∧ d ≠ 4) := by omega
    rcases hd with rfl | rfl | rfl | rfl | rfl | ⟨d0, d1, d2, d3, d4⟩
    · skip
      obtain ⟨c, hc⟩ : ∃ c, tagC s a nm = c := ⟨_, rfl⟩
      obtain ⟨T, hTe⟩ : ∃ T, cond (c == 0) (tagS s a nm) zeroSf = T := ⟨_, rfl⟩
      have hRT : resS s ⟨0, a, b, nm⟩ = T := by rw [← hTe, ← hc]; rfl
      have HRT := Lib.hid hRT
      have HC := Lib.hid hc
      have HR := Lib.hid hTe
      clear hc hTe hRT
      have k0 := B1.cell_ 0
      have k1 := B1.cell_ 1
      have k2 := B1.cell_ 2
      have k3 := B1.cell_ 3
      have k4 := B1.cell_ 4
      have y0 := B2.cell_ 0
      have y1 := B2.cell_ 1
      have y2 := B2.cell_ 2
      have y3 := B2.cell_ 3
      have u0 := B4.cell_ 0
      have u1 := B4.cell_ 1
      have u2 := B4.cell_ 2
      have u3 := B4.cell_ 3
      have u4 := B4.cell_ 4
      have fu0 := B4.free 0
      have fu1 := B4.free 1
      have fu2 := B4.free 2
      have fu3 := B4.free 3
      have fu4 := B4.free 4
      simp at k0 k1 k2 k3 k4 y0 y1 y2 y3 u0 u1 u2 u3 u4
      go_upto_region 7 with (go_at_call 18; ((with_reducible refine (ntag_all s _ a nm _ S1 T1 _ HC.out _ HR.out).mono ?_); rintro e' w7 ⟨v7, rfl, hA1, b7⟩; have hA1 := hA1.base_ hsz; obtain ⟨A1, c1, D1, e1, rfl, hp1, hp2, -⟩ := hA1.parts; clear hp1 hp2; have B1 := B1.below b7 B1.lt; have B2 := B2.below b7 B2.lt; have B3 := B3.below b7 B3.lt; have B4 := B4.below b7 B4.lt; have B5 := B5.below b7 B5.lt; have S1 := S1.next b7; have T1 := T1.next b7; have HB := btr HB HB.size b7; have hsz := Nat.le_trans hsz b7.size; (try clear k0 k1 k2 k3 k4 y0 y1 y2 y3 u0 fu0 u1 fu1 u2 fu2 u3 fu3 u4 fu4); have k0 := B1.cell_ 0; have k1 := B1.cell_ 1; have k2 := B1.cell_ 2; have k3 := B1.cell_ 3; have k4 := B1.cell_ 4; have y0 := B2.cell_ 0; have y1 := B2.cell_ 1; have y2 := B2.cell_ 2; have y3 := B2.cell_ 3; have u0 := B4.cell_ 0; have u1 := B4.cell_ 1; have u2 := B4.cell_ 2; have u3 := B4.cell_ 3; have u4 := B4.cell_ 4; have fu0 := B4.free 0; have fu1 := B4.free 1; have fu2 := B4.free 2; have fu3 := B4.free 3; have fu4 := B4.free 4; simp at k0 k1 k2 k3 k4 y0 y1 y2 y3 u0 u1 u2 u3 u4; clear b7))
      have hg := st5_grown w7 (w.heap.size + 1 + 1 + 1) 0 (.int .i64 T.nb) (.int .i64 T.nn) (.int .i64 T.ns) (.slice A1 T.bs.length c1) (.slice D1 T.ts.length e1)
      have C1 := B1.grown hg (by omega)
      have C2 := B2.grown hg (by omega)
      have C3 := B3.grown hg (by omega)
      have C4 := B4.st5_ (.int .i64 T.nb) (.int .i64 T.nn) (.int .i64 T.ns) (.slice A1 T.bs.length c1) (.slice D1 T.ts.length e1)
      have C5 := B5.grown hg (by omega)
      have HBn := below_grown HB hg (by omega) HB.size
      have S2 : ShR (st5 w7 (w.heap.size + 1 + 1 + 1) 0 (.int .i64 T.nb) (.int .i64 T.nn) (.int .i64 T.ns) (.slice A1 T.bs.length c1) (.slice D1 T.ts.length e1)) (st5 w7 (w.heap.size + 1 + 1 + 1) 0 (.int .i64 T.nb) (.int .i64 T.nn) (.int .i64 T.ns) (.slice A1 T.bs.length c1) (.slice D1 T.ts.length e1)).heap.size (.agg #[.int .i64 s.nb, .int .i64 s.nn, .int .i64 s.ns, .slice Ab s.bs.length cb, .slice An s.ts.length cn]) s := hS0.next HBn
      have T2 : Tabs (st5 w7 (w.heap.size + 1 + 1 + 1) 0 (.int .i64 T.nb) (.int .i64 T.nn) (.int .i64 T.ns) (.slice A1 T.bs.length c1) (.slice D1 T.ts.length e1)) := hT0.next HBn
      have hB1 := hA1.far hg (by omega)
      have hszn : w.heap.size + 5 ≤ (st5 w7 (w.heap.size + 1 + 1 + 1) 0 (.int .i64 T.nb) (.int .i64 T.nn) (.int .i64 T.ns) (.slice A1 T.bs.length c1) (.slice D1 T.ts.length e1)).heap.size := Nat.le_trans hsz hg.size
      clear hg
      obtain ⟨w8, hw8⟩ : ∃ V : World, V = (st5 w7 (w.heap.size + 1 + 1 + 1) 0 (.int .i64 T.nb) (.int .i64 T.nn) (.int .i64 T.ns) (.slice A1 T.bs.length c1) (.slice D1 T.ts.length e1)) := ⟨_, rfl⟩
      change Code.wp _ _ _ _ (st5 w7 (w.heap.size + 1 + 1 + 1) 0 (.int .i64 T.nb) (.int .i64 T.nn) (.int .i64 T.ns) (.slice A1 T.bs.length c1) (.slice D1 T.ts.length e1))
      rw [← hw8] at C1 C2 C3 C4 C5 HBn S2 T2 hB1 hszn ⊢
      clear hw8 B1 B2 B3 B4 B5 HB S1 T1 hA1 hsz k0 k1 k2 k3 k4 y0 y1 y2 y3 u0 fu0 u1 fu1 u2 fu2 u3 fu3 u4 fu4
      have B1 := C1
      have B2 := C2
      have B3 := C3
      have B4 := C4
      have B5 := C5
      have HB := HBn
      have S1 := S2
      have T1 := T2
      have hA1 := hB1
      have hsz := hszn
      clear C1 C2 C3 C4 C5 HBn S2 T2 hB1 hszn
      have k0 := B1.cell_ 0
      have k1 := B1.cell_ 1
      have k2 := B1.cell_ 2
      have k3 := B1.cell_ 3
      have k4 := B1.cell_ 4
      have y0 := B2.cell_ 0
      have y1 := B2.cell_ 1
      have y2 := B2.cell_ 2
      have y3 := B2.cell_ 3
      have u0 := B5.cell_ 0
      have u1 := B5.cell_ 1
      have u2 := B5.cell_ 2
      have u3 := B5.cell_ 3
      have u4 := B5.cell_ 4
      have fu0 := B5.free 0
      have fu1 := B5.free 1
      have fu2 := B5.free 2
      have fu3 := B5.free 3
      have fu4 := B5.free 4
      simp at k0 k1 k2 k3 k4 y0 y1 y2 y3 u0 u1 u2 u3 u4
      go_wp2_with (go_at_call 28; ((with_reducible refine (rtag_all s _ a nm _ S1 HZ.out HX.out _ HC.out _ HR.out).mono ?_); rintro e' w9 ⟨v7, rfl, hA2, b7⟩; have hA1 := hA1.below b7; have hA2 := hA2.base_ hsz; obtain ⟨A2, c2, D2, e2, rfl, hp1, hp2, -⟩ := hA2.parts; clear hp1 hp2; have B1 := B1.below b7 B1.lt; have B2 := B2.below b7 B2.lt; have B3 := B3.below b7 B3.lt; have B4 := B4.below b7 B4.lt; have B5 := B5.below b7 B5.lt; have S1 := S1.next b7; have T1 := T1.next b7; have HB := btr HB HB.size b7; have hsz := Nat.le_trans hsz b7.size; (try clear k0 k1 k2 k3 k4 y0 y1 y2 y3 u0 fu0 u1 fu1 u2 fu2 u3 fu3 u4 fu4); have k0 := B1.cell_ 0; have k1 := B1.cell_ 1; have k2 := B1.cell_ 2; have k3 := B1.cell_ 3; have k4 := B1.cell_ 4; have y0 := B2.cell_ 0; have y1 := B2.cell_ 1; have y2 := B2.cell_ 2; have y3 := B2.cell_ 3; have u0 := B5.cell_ 0; have u1 := B5.cell_ 1; have u2 := B5.cell_ 2; have u3 := B5.cell_ 3; have u4 := B5.cell_ 4; have fu0 := B5.free 0; have fu1 := B5.free 1; have fu2 := B5.free 2; have fu3 := B5.free 3; have fu4 := B5.free 4; simp at k0 k1 k2 k3 k4 y0 y1 y2 y3 u0 u1 u2 u3 u4; clear b7))
      have hg := st5_grown w9 (w.heap.size + 1 + 1 + 1 + 1) 0 (.int .i64 T.nb) (.int .i64 T.nn) (.int .i64 T.ns) (.slice A2 T.bs.length c2) (.slice D2 T.ts.length e2)
      have C1 := B1.grown hg (by omega)
      have C2 := B2.grown hg (by omega)
      have C3 := B3.grown hg (by omega)
      have C4 := B4.grown hg (by omega)
      have C5 := B5.st5_ (.int .i64 T.nb) (.int .i64 T.nn) (.int .i64 T.ns) (.slice A2 T.bs.length c2) (.slice D2 T.ts.length e2)
      have HBn := below_grown HB hg (by omega) HB.size
      have S2 : ShR (st5 w9 (w.heap.size + 1 + 1 + 1 + 1) 0 (.int .i64 T.nb) (.int .i64 T.nn) (.int .i64 T.ns) (.slice A2 T.bs.length c2) (.slice D2 T.ts.length e2)) (st5 w9 (w.heap.size + 1 + 1 + 1 + 1) 0 (.int .i64 T.nb) (.int .i64 T.nn) (.int .i64 T.ns) (.slice A2 T.bs.length c2) (.slice D2 T.ts.length e2)).heap.size (.agg #[.int .i64 s.nb, .int .i64 s.nn, .int .i64 s.ns, .slice Ab s.bs.length cb, .slice An s.ts.length cn]) s := hS0.next HBn
      have T2 : Tabs (st5 w9 (w.heap.size + 1 + 1 + 1 + 1) 0 (.int .i64 T.nb) (.int .i64 T.nn) (.int .i64 T.ns) (.slice A2 T.bs.length c2) (.slice D2 T.ts.length e2)) := hT0.next HBn
      have hB1 := hA1.far hg (by omega)
      have hB2 := hA2.far hg (by omega)
      have hszn : w.heap.size + 5 ≤ (st5 w9 (w.heap.size + 1 + 1 + 1 + 1) 0 (.int .i64 T.nb) (.int .i64 T.nn) (.int .i64 T.ns) (.slice A2 T.bs.length c2) (.slice D2 T.ts.length e2)).heap.size := Nat.le_trans hsz hg.size
      clear hg
      go_meet
      rw [HRT.out]
      refine ⟨⟨0, rfl, rfl⟩, ⟨c, rfl, rfl⟩, ⟨_, _, _, _, C4, hB1⟩, ⟨_, _, _, _, C5, hB2⟩, C3, HBn, hszn⟩
    · skip
      obtain ⟨c, hc⟩ : ∃ c, untC s a nm = c := ⟨_, rfl⟩
      obtain ⟨T, hTe⟩ : ∃ T, cond (c == 0) (untS s a nm) zeroSf = T := ⟨_, rfl⟩
      have hRT : resS s ⟨1, a, b, nm⟩ = T := by rw [← hTe, ← hc]; rfl
      have HRT := Lib.hid hRT
      have HC := Lib.hid hc
      have HR := Lib.hid hTe
      clear hc hTe hRT
      have k0 := B1.cell_ 0
      have k1 := B1.cell_ 1
      have k2 := B1.cell_ 2
      have k3 := B1.cell_ 3
      have k4 := B1.cell_ 4
      have y0 := B2.cell_ 0
      have y1 := B2.cell_ 1
      have y2 := B2.cell_ 2
      have y3 := B2.cell_ 3
      have u0 := B4.cell_ 0
      have u1 := B4.cell_ 1
      have u2 := B4.cell_ 2
      have u3 := B4.cell_ 3
      have u4 := B4.cell_ 4
      have fu0 := B4.free 0
      have fu1 := B4.free 1
      have fu2 := B4.free 2
      have fu3 := B4.free 3
      have fu4 := B4.free 4
      simp at k0 k1 k2 k3 k4 y0 y1 y2 y3 u0 u1 u2 u3 u4
      go_upto_region 10 with (go_at_call 20; ((with_reducible refine (nunt_all s _ a nm _ S1 T1 _ HC.out _ HR.out).mono ?_); rintro e' w7 ⟨v7, rfl, hA1, b7⟩; have hA1 := hA1.base_ hsz; obtain ⟨A1, c1, D1, e1, rfl, hp1, hp2, -⟩ := hA1.parts; clear hp1 hp2; have B1 := B1.below b7 B1.lt; have B2 := B2.below b7 B2.lt; have B3 := B3.below b7 B3.lt; have B4 := B4.below b7 B4.lt; have B5 := B5.below b7 B5.lt; have S1 := S1.next b7; have T1 := T1.next b7; have HB := btr HB HB.size b7; have hsz := Nat.le_trans hsz b7.size; (try clear k0 k1 k2 k3 k4 y0 y1 y2 y3 u0 fu0 u1 fu1 u2 fu2 u3 fu3 u4 fu4); have k0 := B1.cell_ 0; have k1 := B1.cell_ 1; have k2 := B1.cell_ 2; have k3 := B1.cell_ 3; have k4 := B1.cell_ 4; have y0 := B2.cell_ 0; have y1 := B2.cell_ 1; have y2 := B2.cell_ 2; have y3 := B2.cell_ 3; have u0 := B4.cell_ 0; have u1 := B4.cell_ 1; have u2 := B4.cell_ 2; have u3 := B4.cell_ 3; have u4 := B4.cell_ 4; have fu0 := B4.free 0; have fu1 := B4.free 1; have fu2 := B4.free 2; have fu3 := B4.free 3; have fu4 := B4.free 4; simp at k0 k1 k2 k3 k4 y0 y1 y2 y3 u0 u1 u2 u3 u4; clear b7))
      have hg := st5_grown w7 (w.heap.size + 1 + 1 + 1) 0 (.int .i64 T.nb) (.int .i64 T.nn) (.int .i64 T.ns) (.slice A1 T.bs.length c1) (.slice D1 T.ts.length e1)
      have C1 := B1.grown hg (by omega)
      have C2 := B2.grown hg (by omega)
      have C3 := B3.grown hg (by omega)
      have C4 := B4.st5_ (.int .i64 T.nb) (.int .i64 T.nn) (.int .i64 T.ns) (.slice A1 T.bs.length c1) (.slice D1 T.ts.length e1)
      have C5 := B5.grown hg (by omega)
      have HBn := below_grown HB hg (by omega) HB.size
      have S2 : ShR (st5 w7 (w.heap.size + 1 + 1 + 1) 0 (.int .i64 T.nb) (.int .i64 T.nn) (.int .i64 T.ns) (.slice A1 T.bs.length c1) (.slice D1 T.ts.length e1)) (st5 w7 (w.heap.size + 1 + 1 + 1) 0 (.int .i64 T.nb) (.int .i64 T.nn) (.int .i64 T.ns) (.slice A1 T.bs.length c1) (.slice D1 T.ts.length e1)).heap.size (.agg #[.int .i64 s.nb, .int .i64 s.nn, .int .i64 s.ns, .slice Ab s.bs.length cb, .slice An s.ts.length cn]) s := hS0.next HBn
      have T2 : Tabs (st5 w7 (w.heap.size + 1 + 1 + 1) 0 (.int .i64 T.nb) (.int .i64 T.nn) (.int .i64 T.ns) (.slice A1 T.bs.length c1) (.slice D1 T.ts.length e1)) := hT0.next HBn
      have hB1 := hA1.far hg (by omega)
      have hszn : w.heap.size + 5 ≤ (st5 w7 (w.heap.size + 1 + 1 + 1) 0 (.int .i64 T.nb) (.int .i64 T.nn) (.int .i64 T.ns) (.slice A1 T.bs.length c1) (.slice D1 T.ts.length e1)).heap.size := Nat.le_trans hsz hg.size
      clear hg
      obtain ⟨w8, hw8⟩ : ∃ V : World, V = (st5 w7 (w.heap.size + 1 + 1 + 1) 0 (.int .i64 T.nb) (.int .i64 T.nn) (.int .i64 T.ns) (.slice A1 T.bs.length c1) (.slice D1 T.ts.length e1)) := ⟨_, rfl⟩
      change Code.wp _ _ _ _ (st5 w7 (w.heap.size + 1 + 1 + 1) 0 (.int .i64 T.nb) (.int .i64 T.nn) (.int .i64 T.ns) (.slice A1 T.bs.length c1) (.slice D1 T.ts.length e1))
      rw [← hw8] at C1 C2 C3 C4 C5 HBn S2 T2 hB1 hszn ⊢
      clear hw8 B1 B2 B3 B4 B5 HB S1 T1 hA1 hsz k0 k1 k2 k3 k4 y0 y1 y2 y3 u0 fu0 u1 fu1 u2 fu2 u3 fu3 u4 fu4
      have B1 := C1
      have B2 := C2
      have B3 := C3
      have B4 := C4
      have B5 := C5
      have HB := HBn
      have S1 := S2
      have T1 := T2
      have hA1 := hB1
      have hsz := hszn
      clear C1 C2 C3 C4 C5 HBn S2 T2 hB1 hszn
      have k0 := B1.cell_ 0
      have k1 := B1.cell_ 1
      have k2 := B1.cell_ 2
      have k3 := B1.cell_ 3
      have k4 := B1.cell_ 4
      have y0 := B2.cell_ 0
      have y1 := B2.cell_ 1
      have y2 := B2.cell_ 2
      have y3 := B2.cell_ 3
      have u0 := B5.cell_ 0
      have u1 := B5.cell_ 1
      have u2 := B5.cell_ 2
      have u3 := B5.cell_ 3
      have u4 := B5.cell_ 4
      have fu0 := B5.free 0
      have fu1 := B5.free 1
      have fu2 := B5.free 2
      have fu3 := B5.free 3
      have fu4 := B5.free 4
      simp at k0 k1 k2 k3 k4 y0 y1 y2 y3 u0 u1 u2 u3 u4
      go_wp2_with (go_at_call 29; ((with_reducible refine (runt_all s _ a nm _ S1 HZ.out _ HC.out _ HR.out).mono ?_); rintro e' w9 ⟨v7, rfl, hA2, b7⟩; have hA1 := hA1.below b7; have hA2 := hA2.base_ hsz; obtain ⟨A2, c2, D2, e2, rfl, hp1, hp2, -⟩ := hA2.parts; clear hp1 hp2; have B1 := B1.below b7 B1.lt; have B2 := B2.below b7 B2.lt; have B3 := B3.below b7 B3.lt; have B4 := B4.below b7 B4.lt; have B5 := B5.below b7 B5.lt; have S1 := S1.next b7; have T1 := T1.next b7; have HB := btr HB HB.size b7; have hsz := Nat.le_trans hsz b7.size; (try clear k0 k1 k2 k3 k4 y0 y1 y2 y3 u0 fu0 u1 fu1 u2 fu2 u3 fu3 u4 fu4); have k0 := B1.cell_ 0; have k1 := B1.cell_ 1; have k2 := B1.cell_ 2; have k3 := B1.cell_ 3; have k4 := B1.cell_ 4; have y0 := B2.cell_ 0; have y1 := B2.cell_ 1; have y2 := B2.cell_ 2; have y3 := B2.cell_ 3; have u0 := B5.cell_ 0; have u1 := B5.cell_ 1; have u2 := B5.cell_ 2; have u3 := B5.cell_ 3; have u4 := B5.cell_ 4; have fu0 := B5.free 0; have fu1 := B5.free 1; have fu2 := B5.free 2; have fu3 := B5.free 3; have fu4 := B5.free 4; simp at k0 k1 k2 k3 k4 y0 y1 y2 y3 u0 u1 u2 u3 u4; clear b7))
      have hg := st5_grown w9 (w.heap.size + 1 + 1 + 1 + 1) 0 (.int .i64 T.nb) (.int .i64 T.nn) (.int .i64 T.ns) (.slice A2 T.bs.length c2) (.slice D2 T.ts.length e2)
      have C1 := B1.grown hg (by omega)
      have C2 := B2.grown hg (by omega)
      have C3 := B3.grown hg (by omega)
      have C4 := B4.grown hg (by omega)
      have C5 := B5.st5_ (.int .i64 T.nb) (.int .i64 T.nn) (.int .i64 T.ns) (.slice A2 T.bs.length c2) (.slice D2 T.ts.length e2)
      have HBn := below_grown HB hg (by omega) HB.size
      have S2 : ShR (st5 w9 (w.heap.size + 1 + 1 + 1 + 1) 0 (.int .i64 T.nb) (.int .i64 T.nn) (.int .i64 T.ns) (.slice A2 T.bs.length c2) (.slice D2 T.ts.length e2)) (st5 w9 (w.heap.size + 1 + 1 + 1 + 1) 0 (.int .i64 T.nb) (.int .i64 T.nn) (.int .i64 T.ns) (.slice A2 T.bs.length c2) (.slice D2 T.ts.length e2)).heap.size (.agg #[.int .i64 s.nb, .int .i64 s.nn, .int .i64 s.ns, .slice Ab s.bs.length cb, .slice An s.ts.length cn]) s := hS0.next HBn
      have T2 : Tabs (st5 w9 (w.heap.size + 1 + 1 + 1 + 1) 0 (.int .i64 T.nb) (.int .i64 T.nn) (.int .i64 T.ns) (.slice A2 T.bs.length c2) (.slice D2 T.ts.length e2)) := hT0.next HBn
      have hB1 := hA1.far hg (by omega)
      have hB2 := hA2.far hg (by omega)
      have hszn : w.heap.size + 5 ≤ (st5 w9 (w.heap.size + 1 + 1 + 1 + 1) 0 (.int .i64 T.nb) (.int .i64 T.nn) (.int .i64 T.ns) (.slice A2 T.bs.length c2) (.slice D2 T.ts.length e2)).heap.size := Nat.le_trans hsz hg.size
      clear hg
      go_meet
      rw [HRT.out]
      refine ⟨⟨0, rfl, rfl⟩, ⟨c, rfl, rfl⟩, ⟨_, _, _, _, C4, hB1⟩, ⟨_, _, _, _, C5, hB2⟩, C3, HBn, hszn⟩
    · skip
      obtain ⟨c, hc⟩ : ∃ c, appC s a = c := ⟨_, rfl⟩
      obtain ⟨T, hTe⟩ : ∃ T, cond (c == 0) (appS s a) zeroSf = T := ⟨_, rfl⟩
      have hRT : resS s ⟨2, a, b, nm⟩ = T := by rw [← hTe, ← hc]; rfl
      obtain ⟨N, hN⟩ : ∃ N, cond (c == 0) s.ns 0 = N := ⟨_, rfl⟩
      have HN := Lib.hid hN
      clear hN
      have HRT := Lib.hid hRT
      have HC := Lib.hid hc
      have HR := Lib.hid hTe
      clear hc hTe hRT
      have k0 := B1.cell_ 0
      have k1 := B1.cell_ 1
      have k2 := B1.cell_ 2
      have k3 := B1.cell_ 3
      have k4 := B1.cell_ 4
      have y0 := B2.cell_ 0
      have y1 := B2.cell_ 1
      have y2 := B2.cell_ 2
      have y3 := B2.cell_ 3
      have u0 := B4.cell_ 0
      have u1 := B4.cell_ 1
      have u2 := B4.cell_ 2
      have u3 := B4.cell_ 3
      have u4 := B4.cell_ 4
      have fu0 := B4.free 0
      have fu1 := B4.free 1
      have fu2 := B4.free 2
      have fu3 := B4.free 3
      have fu4 := B4.free 4
      simp at k0 k1 k2 k3 k4 y0 y1 y2 y3 u0 u1 u2 u3 u4
      go_upto_region 13 with (go_at_call 21; ((with_reducible refine (napp_all s _ a _ S1 T1 _ HC.out _ HN.out _ HR.out).mono ?_); rintro e' w7 ⟨v7, rfl, hA1, b7⟩; have hA1 := hA1.base_ hsz; obtain ⟨A1, c1, D1, e1, rfl, hp1, hp2, -⟩ := hA1.parts; clear hp1 hp2; have B1 := B1.below b7 B1.lt; have B2 := B2.below b7 B2.lt; have B3 := B3.below b7 B3.lt; have B4 := B4.below b7 B4.lt; have B5 := B5.below b7 B5.lt; have S1 := S1.next b7; have T1 := T1.next b7; have HB := btr HB HB.size b7; have hsz := Nat.le_trans hsz b7.size; (try clear k0 k1 k2 k3 k4 y0 y1 y2 y3 u0 fu0 u1 fu1 u2 fu2 u3 fu3 u4 fu4); have k0 := B1.cell_ 0; have k1 := B1.cell_ 1; have k2 := B1.cell_ 2; have k3 := B1.cell_ 3; have k4 := B1.cell_ 4; have y0 := B2.cell_ 0; have y1 := B2.cell_ 1; have y2 := B2.cell_ 2; have y3 := B2.cell_ 3; have u0 := B4.cell_ 0; have u1 := B4.cell_ 1; have u2 := B4.cell_ 2; have u3 := B4.cell_ 3; have u4 := B4.cell_ 4; have fu0 := B4.free 0; have fu1 := B4.free 1; have fu2 := B4.free 2; have fu3 := B4.free 3; have fu4 := B4.free 4; simp at k0 k1 k2 k3 k4 y0 y1 y2 y3 u0 u1 u2 u3 u4; clear b7))
      have hg := st5_grown w7 (w.heap.size + 1 + 1 + 1) 0 (.int .i64 T.nb) (.int .i64 T.nn) (.int .i64 T.ns) (.slice A1 T.bs.length c1) (.slice D1 T.ts.length e1)
      have C1 := B1.grown hg (by omega)
      have C2 := B2.grown hg (by omega)
      have C3 := B3.grown hg (by omega)
      have C4 := B4.st5_ (.int .i64 T.nb) (.int .i64 T.nn) (.int .i64 T.ns) (.slice A1 T.bs.length c1) (.slice D1 T.ts.length e1)
      have C5 := B5.grown hg (by omega)
      have HBn := below_grown HB hg (by omega) HB.size
      have S2 : ShR (st5 w7 (w.heap.size + 1 + 1 + 1) 0 (.int .i64 T.nb) (.int .i64 T.nn) (.int .i64 T.ns) (.slice A1 T.bs.length c1) (.slice D1 T.ts.length e1)) (st5 w7 (w.heap.size + 1 + 1 + 1) 0 (.int .i64 T.nb) (.int .i64 T.nn) (.int .i64 T.ns) (.slice A1 T.bs.length c1) (.slice D1 T.ts.length e1)).heap.size (.agg #[.int .i64 s.nb, .int .i64 s.nn, .int .i64 s.ns, .slice Ab s.bs.length cb, .slice An s.ts.length cn]) s := hS0.next HBn
      have T2 : Tabs (st5 w7 (w.heap.size + 1 + 1 + 1) 0 (.int .i64 T.nb) (.int .i64 T.nn) (.int .i64 T.ns) (.slice A1 T.bs.length c1) (.slice D1 T.ts.length e1)) := hT0.next HBn
      have hB1 := hA1.far hg (by omega)
      have hszn : w.heap.size + 5 ≤ (st5 w7 (w.heap.size + 1 + 1 + 1) 0 (.int .i64 T.nb) (.int .i64 T.nn) (.int .i64 T.ns) (.slice A1 T.bs.length c1) (.slice D1 T.ts.length e1)).heap.size := Nat.le_trans hsz hg.size
      clear hg
      obtain ⟨w8, hw8⟩ : ∃ V : World, V = (st5 w7 (w.heap.size + 1 + 1 + 1) 0 (.int .i64 T.nb) (.int .i64 T.nn) (.int .i64 T.ns) (.slice A1 T.bs.length c1) (.slice D1 T.ts.length e1)) := ⟨_, rfl⟩
      change Code.wp _ _ _ _ (st5 w7 (w.heap.size + 1 + 1 + 1) 0 (.int .i64 T.nb) (.int .i64 T.nn) (.int .i64 T.ns) (.slice A1 T.bs.length c1) (.slice D1 T.ts.length e1))
      rw [← hw8] at C1 C2 C3 C4 C5 HBn S2 T2 hB1 hszn ⊢
      clear hw8 B1 B2 B3 B4 B5 HB S1 T1 hA1 hsz k0 k1 k2 k3 k4 y0 y1 y2 y3 u0 fu0 u1 fu1 u2 fu2 u3 fu3 u4 fu4
      have B1 := C1
      have B2 := C2
      have B3 := C3
      have B4 := C4
      have B5 := C5
      have HB := HBn
      have S1 := S2
      have T1 := T2
      have hA1 := hB1
      have hsz := hszn
      clear C1 C2 C3 C4 C5 HBn S2 T2 hB1 hszn
      have k0 := B1.cell_ 0
      have k1 := B1.cell_ 1
      have k2 := B1.cell_ 2
      have k3 := B1.cell_ 3
      have k4 := B1.cell_ 4
      have y0 := B2.cell_ 0
      have y1 := B2.cell_ 1
      have y2 := B2.cell_ 2
      have y3 := B2.cell_ 3
      have u0 := B5.cell_ 0
      have u1 := B5.cell_ 1
      have u2 := B5.cell_ 2
      have u3 := B5.cell_ 3
      have u4 := B5.cell_ 4
      have fu0 := B5.free 0
      have fu1 := B5.free 1
      have fu2 := B5.free 2
      have fu3 := B5.free 3
      have fu4 := B5.free 4
      simp at k0 k1 k2 k3 k4 y0 y1 y2 y3 u0 u1 u2 u3 u4
      go_wp2_with (go_at_call 30; ((with_reducible refine (rapp_all s _ a _ S1 HZ.out _ HC.out _ HN.out _ HR.out).mono ?_); rintro e' w9 ⟨v7, rfl, hA2, b7⟩; have hA1 := hA1.below b7; have hA2 := hA2.base_ hsz; obtain ⟨A2, c2, D2, e2, rfl, hp1, hp2, -⟩ := hA2.parts; clear hp1 hp2; have B1 := B1.below b7 B1.lt; have B2 := B2.below b7 B2.lt; have B3 := B3.below b7 B3.lt; have B4 := B4.below b7 B4.lt; have B5 := B5.below b7 B5.lt; have S1 := S1.next b7; have T1 := T1.next b7; have HB := btr HB HB.size b7; have hsz := Nat.le_trans hsz b7.size; (try clear k0 k1 k2 k3 k4 y0 y1 y2 y3 u0 fu0 u1 fu1 u2 fu2 u3 fu3 u4 fu4); have k0 := B1.cell_ 0; have k1 := B1.cell_ 1; have k2 := B1.cell_ 2; have k3 := B1.cell_ 3; have k4 := B1.cell_ 4; have y0 := B2.cell_ 0; have y1 := B2.cell_ 1; have y2 := B2.cell_ 2; have y3 := B2.cell_ 3; have u0 := B5.cell_ 0; have u1 := B5.cell_ 1; have u2 := B5.cell_ 2; have u3 := B5.cell_ 3; have u4 := B5.cell_ 4; have fu0 := B5.free 0; have fu1 := B5.free 1; have fu2 := B5.free 2; have fu3 := B5.free 3; have fu4 := B5.free 4; simp at k0 k1 k2 k3 k4 y0 y1 y2 y3 u0 u1 u2 u3 u4; clear b7))
      have hg := st5_grown w9 (w.heap.size + 1 + 1 + 1 + 1) 0 (.int .i64 T.nb) (.int .i64 T.nn) (.int .i64 T.ns) (.slice A2 T.bs.length c2) (.slice D2 T.ts.length e2)
      have C1 := B1.grown hg (by omega)
      have C2 := B2.grown hg (by omega)
      have C3 := B3.grown hg (by omega)
      have C4 := B4.grown hg (by omega)
      have C5 := B5.st5_ (.int .i64 T.nb) (.int .i64 T.nn) (.int .i64 T.ns) (.slice A2 T.bs.length c2) (.slice D2 T.ts.length e2)
      have HBn := below_grown HB hg (by omega) HB.size
      have S2 : ShR (st5 w9 (w.heap.size + 1 + 1 + 1 + 1) 0 (.int .i64 T.nb) (.int .i64 T.nn) (.int .i64 T.ns) (.slice A2 T.bs.length c2) (.slice D2 T.ts.length e2)) (st5 w9 (w.heap.size + 1 + 1 + 1 + 1) 0 (.int .i64 T.nb) (.int .i64 T.nn) (.int .i64 T.ns) (.slice A2 T.bs.length c2) (.slice D2 T.ts.length e2)).heap.size (.agg #[.int .i64 s.nb, .int .i64 s.nn, .int .i64 s.ns, .slice Ab s.bs.length cb, .slice An s.ts.length cn]) s := hS0.next HBn
      have T2 : Tabs (st5 w9 (w.heap.size + 1 + 1 + 1 + 1) 0 (.int .i64 T.nb) (.int .i64 T.nn) (.int .i64 T.ns) (.slice A2 T.bs.length c2) (.slice D2 T.ts.length e2)) := hT0.next HBn
      have hB1 := hA1.far hg (by omega)
      have hB2 := hA2.far hg (by omega)
      have hszn : w.heap.size + 5 ≤ (st5 w9 (w.heap.size + 1 + 1 + 1 + 1) 0 (.int .i64 T.nb) (.int .i64 T.nn) (.int .i64 T.ns) (.slice A2 T.bs.length c2) (.slice D2 T.ts.length e2)).heap.size := Nat.le_trans hsz hg.size
      clear hg
      go_meet
      rw [HRT.out]
      refine ⟨⟨N, rfl, rfl⟩, ⟨c, rfl, rfl⟩, ⟨_, _, _, _, C4, hB1⟩, ⟨_, _, _, _, C5, hB2⟩, C3, HBn, hszn⟩
    · skip
      obtain ⟨c, hc⟩ : ∃ c, shtC s a b = c := ⟨_, rfl⟩
      obtain ⟨T, hTe⟩ : ∃ T, cond (c == 0) (s) zeroSf = T := ⟨_, rfl⟩
      have hRT : resS s ⟨3, a, b, nm⟩ = T := by rw [← hTe, ← hc]; rfl
      obtain ⟨N, hN⟩ : ∃ N, cond (c == 0) (shtN s a b) 0 = N := ⟨_, rfl⟩
      have HN := Lib.hid hN
      clear hN
      have HRT := Lib.hid hRT
      have HC := Lib.hid hc
      have HR := Lib.hid hTe
      clear hc hTe hRT
      have k0 := B1.cell_ 0
      have k1 := B1.cell_ 1
      have k2 := B1.cell_ 2
      have k3 := B1.cell_ 3
      have k4 := B1.cell_ 4
      have y0 := B2.cell_ 0
      have y1 := B2.cell_ 1
      have y2 := B2.cell_ 2
      have y3 := B2.cell_ 3
      have u0 := B4.cell_ 0
      have u1 := B4.cell_ 1
      have u2 := B4.cell_ 2
      have u3 := B4.cell_ 3
      have u4 := B4.cell_ 4
      have fu0 := B4.free 0
      have fu1 := B4.free 1
      have fu2 := B4.free 2
      have fu3 := B4.free 3
      have fu4 := B4.free 4
      simp at k0 k1 k2 k3 k4 y0 y1 y2 y3 u0 u1 u2 u3 u4
      go_upto_region 16 with (go_at_call 31; ((with_reducible refine (nrepl_all s _ a b _ S1 T1 _ HC.out _ HN.out _ HR.out).mono ?_); rintro e' w7 ⟨v7, rfl, hA1, b7⟩; have hA1 := hA1.base_ hsz; obtain ⟨A1, c1, D1, e1, rfl, hp1, hp2, -⟩ := hA1.parts; clear hp1 hp2; have B1 := B1.below b7 B1.lt; have B2 := B2.below b7 B2.lt; have B3 := B3.below b7 B3.lt; have B4 := B4.below b7 B4.lt; have B5 := B5.below b7 B5.lt; have S1 := S1.next b7; have T1 := T1.next b7; have HB := btr HB HB.size b7; have hsz := Nat.le_trans hsz b7.size; (try clear k0 k1 k2 k3 k4 y0 y1 y2 y3 u0 fu0 u1 fu1 u2 fu2 u3 fu3 u4 fu4); have k0 := B1.cell_ 0; have k1 := B1.cell_ 1; have k2 := B1.cell_ 2; have k3 := B1.cell_ 3; have k4 := B1.cell_ 4; have y0 := B2.cell_ 0; have y1 := B2.cell_ 1; have y2 := B2.cell_ 2; have y3 := B2.cell_ 3; have u0 := B4.cell_ 0; have u1 := B4.cell_ 1; have u2 := B4.cell_ 2; have u3 := B4.cell_ 3; have u4 := B4.cell_ 4; have fu0 := B4.free 0; have fu1 := B4.free 1; have fu2 := B4.free 2; have fu3 := B4.free 3; have fu4 := B4.free 4; simp at k0 k1 k2 k3 k4 y0 y1 y2 y3 u0 u1 u2 u3 u4; clear b7))
      have hg := st5_grown w7 (w.heap.size + 1 + 1 + 1) 0 (.int .i64 T.nb) (.int .i64 T.nn) (.int .i64 T.ns) (.slice A1 T.bs.length c1) (.slice D1 T.ts.length e1)
      have C1 := B1.grown hg (by omega)
      have C2 := B2.grown hg (by omega)
      have C3 := B3.grown hg (by omega)
      have C4 := B4.st5_ (.int .i64 T.nb) (.int .i64 T.nn) (.int .i64 T.ns) (.slice A1 T.bs.length c1) (.slice D1 T.ts.length e1)
      have C5 := B5.grown hg (by omega)
      have HBn := below_grown HB hg (by omega) HB.size
      have S2 : ShR (st5 w7 (w.heap.size + 1 + 1 + 1) 0 (.int .i64 T.nb) (.int .i64 T.nn) (.int .i64 T.ns) (.slice A1 T.bs.length c1) (.slice D1 T.ts.length e1)) (st5 w7 (w.heap.size + 1 + 1 + 1) 0 (.int .i64 T.nb) (.int .i64 T.nn) (.int .i64 T.ns) (.slice A1 T.bs.length c1) (.slice D1 T.ts.length e1)).heap.size (.agg #[.int .i64 s.nb, .int .i64 s.nn, .int .i64 s.ns, .slice Ab s.bs.length cb, .slice An s.ts.length cn]) s := hS0.next HBn
      have T2 : Tabs (st5 w7 (w.heap.size + 1 + 1 + 1) 0 (.int .i64 T.nb) (.int .i64 T.nn) (.int .i64 T.ns) (.slice A1 T.bs.length c1) (.slice D1 T.ts.length e1)) := hT0.next HBn
      have hB1 := hA1.far hg (by omega)
      have hszn : w.heap.size + 5 ≤ (st5 w7 (w.heap.size + 1 + 1 + 1) 0 (.int .i64 T.nb) (.int .i64 T.nn) (.int .i64 T.ns) (.slice A1 T.bs.length c1) (.slice D1 T.ts.length e1)).heap.size := Nat.le_trans hsz hg.size
      clear hg
      obtain ⟨w8, hw8⟩ : ∃ V : World, V = (st5 w7 (w.heap.size + 1 + 1 + 1) 0 (.int .i64 T.nb) (.int .i64 T.nn) (.int .i64 T.ns) (.slice A1 T.bs.length c1) (.slice D1 T.ts.length e1)) := ⟨_, rfl⟩
      change Code.wp _ _ _ _ (st5 w7 (w.heap.size + 1 + 1 + 1) 0 (.int .i64 T.nb) (.int .i64 T.nn) (.int .i64 T.ns) (.slice A1 T.bs.length c1) (.slice D1 T.ts.length e1))
      rw [← hw8] at C1 C2 C3 C4 C5 HBn S2 T2 hB1 hszn ⊢
      clear hw8 B1 B2 B3 B4 B5 HB S1 T1 hA1 hsz k0 k1 k2 k3 k4 y0 y1 y2 y3 u0 fu0 u1 fu1 u2 fu2 u3 fu3 u4 fu4
      have B1 := C1
      have B2 := C2
      have B3 := C3
      have B4 := C4
      have B5 := C5
      have HB := HBn
      have S1 := S2
      have T1 := T2
      have hA1 := hB1
      have hsz := hszn
      clear C1 C2 C3 C4 C5 HBn S2 T2 hB1 hszn
      have k0 := B1.cell_ 0
      have k1 := B1.cell_ 1
      have k2 := B1.cell_ 2
      have k3 := B1.cell_ 3
      have k4 := B1.cell_ 4
      have y0 := B2.cell_ 0
      have y1 := B2.cell_ 1
      have y2 := B2.cell_ 2
      have y3 := B2.cell_ 3
      have u0 := B5.cell_ 0
      have u1 := B5.cell_ 1
      have u2 := B5.cell_ 2
      have u3 := B5.cell_ 3
      have u4 := B5.cell_ 4
      have fu0 := B5.free 0
      have fu1 := B5.free 1
      have fu2 := B5.free 2
      have fu3 := B5.free 3
      have fu4 := B5.free 4
      simp at k0 k1 k2 k3 k4 y0 y1 y2 y3 u0 u1 u2 u3 u4
      go_wp2_with (go_at_call 32; ((with_reducible refine (rrepl_all s _ a b _ S1 HZ.out _ HC.out _ HN.out _ HR.out).mono ?_); rintro e' w9 ⟨v7, rfl, hA2, b7⟩; have hA1 := hA1.below b7; have hA2 := hA2.base_ hsz; obtain ⟨A2, c2, D2, e2, rfl, hp1, hp2, -⟩ := hA2.parts; clear hp1 hp2; have B1 := B1.below b7 B1.lt; have B2 := B2.below b7 B2.lt; have B3 := B3.below b7 B3.lt; have B4 := B4.below b7 B4.lt; have B5 := B5.below b7 B5.lt; have S1 := S1.next b7; have T1 := T1.next b7; have HB := btr HB HB.size b7; have hsz := Nat.le_trans hsz b7.size; (try clear k0 k1 k2 k3 k4 y0 y1 y2 y3 u0 fu0 u1 fu1 u2 fu2 u3 fu3 u4 fu4); have k0 := B1.cell_ 0; have k1 := B1.cell_ 1; have k2 := B1.cell_ 2; have k3 := B1.cell_ 3; have k4 := B1.cell_ 4; have y0 := B2.cell_ 0; have y1 := B2.cell_ 1; have y2 := B2.cell_ 2; have y3 := B2.cell_ 3; have u0 := B5.cell_ 0; have u1 := B5.cell_ 1; have u2 := B5.cell_ 2; have u3 := B5.cell_ 3; have u4 := B5.cell_ 4; have fu0 := B5.free 0; have fu1 := B5.free 1; have fu2 := B5.free 2; have fu3 := B5.free 3; have fu4 := B5.free 4; simp at k0 k1 k2 k3 k4 y0 y1 y2 y3 u0 u1 u2 u3 u4; clear b7))
      have hg := st5_grown w9 (w.heap.size + 1 + 1 + 1 + 1) 0 (.int .i64 T.nb) (.int .i64 T.nn) (.int .i64 T.ns) (.slice A2 T.bs.length c2) (.slice D2 T.ts.length e2)
      have C1 := B1.grown hg (by omega)
      have C2 := B2.grown hg (by omega)
      have C3 := B3.grown hg (by omega)
      have C4 := B4.grown hg (by omega)
      have C5 := B5.st5_ (.int .i64 T.nb) (.int .i64 T.nn) (.int .i64 T.ns) (.slice A2 T.bs.length c2) (.slice D2 T.ts.length e2)
      have HBn := below_grown HB hg (by omega) HB.size
      have S2 : ShR (st5 w9 (w.heap.size + 1 + 1 + 1 + 1) 0 (.int .i64 T.nb) (.int .i64 T.nn) (.int .i64 T.ns) (.slice A2 T.bs.length c2) (.slice D2 T.ts.length e2)) (st5 w9 (w.heap.size + 1 + 1 + 1 + 1) 0 (.int .i64 T.nb) (.int .i64 T.nn) (.int .i64 T.ns) (.slice A2 T.bs.length c2) (.slice D2 T.ts.length e2)).heap.size (.agg #[.int .i64 s.nb, .int .i64 s.nn, .int .i64 s.ns, .slice Ab s.bs.length cb, .slice An s.ts.length cn]) s := hS0.next HBn
      have T2 : Tabs (st5 w9 (w.heap.size + 1 + 1 + 1 + 1) 0 (.int .i64 T.nb) (.int .i64 T.nn) (.int .i64 T.ns) (.slice A2 T.bs.length c2) (.slice D2 T.ts.length e2)) := hT0.next HBn
      have hB1 := hA1.far hg (by omega)
      have hB2 := hA2.far hg (by omega)
      have hszn : w.heap.size + 5 ≤ (st5 w9 (w.heap.size + 1 + 1 + 1 + 1) 0 (.int .i64 T.nb) (.int .i64 T.nn) (.int .i64 T.ns) (.slice A2 T.bs.length c2) (.slice D2 T.ts.length e2)).heap.size := Nat.le_trans hsz hg.size
      clear hg
      go_meet
      rw [HRT.out]
      refine ⟨⟨N, rfl, rfl⟩, ⟨c, rfl, rfl⟩, ⟨_, _, _, _, C4, hB1⟩, ⟨_, _, _, _, C5, hB2⟩, C3, HBn, hszn⟩
    · skip
      obtain ⟨c, hc⟩ : ∃ c, shtC s a b = c := ⟨_, rfl⟩
      obtain ⟨T, hTe⟩ : ∃ T, cond (c == 0) (remS s a b) zeroSf = T := ⟨_, rfl⟩
      have hRT : resS s ⟨4, a, b, nm⟩ = T := by rw [← hTe, ← hc]; rfl
      obtain ⟨N, hN⟩ : ∃ N, cond (c == 0) (shtN s a b) 0 = N := ⟨_, rfl⟩
      have HN := Lib.hid hN
      clear hN
      have HRT := Lib.hid hRT
      have HC := Lib.hid hc
      have HR := Lib.hid hTe
      clear hc hTe hRT
      have k0 := B1.cell_ 0
      have k1 := B1.cell_ 1
      have k2 := B1.cell_ 2
      have k3 := B1.cell_ 3
      have k4 := B1.cell_ 4
      have y0 := B2.cell_ 0
      have y1 := B2.cell_ 1
      have y2 := B2.cell_ 2
      have y3 := B2.cell_ 3
      have u0 := B4.cell_ 0
      have u1 := B4.cell_ 1
      have u2 := B4.cell_ 2
      have u3 := B4.cell_ 3
      have u4 := B4.cell_ 4
      have fu0 := B4.free 0
      have fu1 := B4.free 1
      have fu2 := B4.free 2
      have fu3 := B4.free 3
      have fu4 := B4.free 4
      simp at k0 k1 k2 k3 k4 y0 y1 y2 y3 u0 u1 u2 u3 u4
      go_upto_region 19 with (go_at_call 22; ((with_reducible refine (nrem_all s _ a b _ S1 T1 _ HC.out _ HN.out _ HR.out).mono ?_); rintro e' w7 ⟨v7, rfl, hA1, b7⟩; have hA1 := hA1.base_ hsz; obtain ⟨A1, c1, D1, e1, rfl, hp1, hp2, -⟩ := hA1.parts; clear hp1 hp2; have B1 := B1.below b7 B1.lt; have B2 := B2.below b7 B2.lt; have B3 := B3.below b7 B3.lt; have B4 := B4.below b7 B4.lt; have B5 := B5.below b7 B5.lt; have S1 := S1.next b7; have T1 := T1.next b7; have HB := btr HB HB.size b7; have hsz := Nat.le_trans hsz b7.size; (try clear k0 k1 k2 k3 k4 y0 y1 y2 y3 u0 fu0 u1 fu1 u2 fu2 u3 fu3 u4 fu4); have k0 := B1.cell_ 0; have k1 := B1.cell_ 1; have k2 := B1.cell_ 2; have k3 := B1.cell_ 3; have k4 := B1.cell_ 4; have y0 := B2.cell_ 0; have y1 := B2.cell_ 1; have y2 := B2.cell_ 2; have y3 := B2.cell_ 3; have u0 := B4.cell_ 0; have u1 := B4.cell_ 1; have u2 := B4.cell_ 2; have u3 := B4.cell_ 3; have u4 := B4.cell_ 4; have fu0 := B4.free 0; have fu1 := B4.free 1; have fu2 := B4.free 2; have fu3 := B4.free 3; have fu4 := B4.free 4; simp at k0 k1 k2 k3 k4 y0 y1 y2 y3 u0 u1 u2 u3 u4; clear b7))
      have hg := st5_grown w7 (w.heap.size + 1 + 1 + 1) 0 (.int .i64 T.nb) (.int .i64 T.nn) (.int .i64 T.ns) (.slice A1 T.bs.length c1) (.slice D1 T.ts.length e1)
      have C1 := B1.grown hg (by omega)
      have C2 := B2.grown hg (by omega)
      have C3 := B3.grown hg (by omega)
      have C4 := B4.st5_ (.int .i64 T.nb) (.int .i64 T.nn) (.int .i64 T.ns) (.slice A1 T.bs.length c1) (.slice D1 T.ts.length e1)
      have C5 := B5.grown hg (by omega)
      have HBn := below_grown HB hg (by omega) HB.size
      have S2 : ShR (st5 w7 (w.heap.size + 1 + 1 + 1) 0 (.int .i64 T.nb) (.int .i64 T.nn) (.int .i64 T.ns) (.slice A1 T.bs.length c1) (.slice D1 T.ts.length e1)) (st5 w7 (w.heap.size + 1 + 1 + 1) 0 (.int .i64 T.nb) (.int .i64 T.nn) (.int .i64 T.ns) (.slice A1 T.bs.length c1) (.slice D1 T.ts.length e1)).heap.size (.agg #[.int .i64 s.nb, .int .i64 s.nn, .int .i64 s.ns, .slice Ab s.bs.length cb, .slice An s.ts.length cn]) s := hS0.next HBn
      have T2 : Tabs (st5 w7 (w.heap.size + 1 + 1 + 1) 0 (.int .i64 T.nb) (.int .i64 T.nn) (.int .i64 T.ns) (.slice A1 T.bs.length c1) (.slice D1 T.ts.length e1)) := hT0.next HBn
      have hB1 := hA1.far hg (by omega)
      have hszn : w.heap.size + 5 ≤ (st5 w7 (w.heap.size + 1 + 1 + 1) 0 (.int .i64 T.nb) (.int .i64 T.nn) (.int .i64 T.ns) (.slice A1 T.bs.length c1) (.slice D1 T.ts.length e1)).heap.size := Nat.le_trans hsz hg.size
      clear hg
      obtain ⟨w8, hw8⟩ : ∃ V : World, V = (st5 w7 (w.heap.size + 1 + 1 + 1) 0 (.int .i64 T.nb) (.int .i64 T.nn) (.int .i64 T.ns) (.slice A1 T.bs.length c1) (.slice D1 T.ts.length e1)) := ⟨_, rfl⟩
      change Code.wp _ _ _ _ (st5 w7 (w.heap.size + 1 + 1 + 1) 0 (.int .i64 T.nb) (.int .i64 T.nn) (.int .i64 T.ns) (.slice A1 T.bs.length c1) (.slice D1 T.ts.length e1))
      rw [← hw8] at C1 C2 C3 C4 C5 HBn S2 T2 hB1 hszn ⊢
      clear hw8 B1 B2 B3 B4 B5 HB S1 T1 hA1 hsz k0 k1 k2 k3 k4 y0 y1 y2 y3 u0 fu0 u1 fu1 u2 fu2 u3 fu3 u4 fu4
      have B1 := C1
      have B2 := C2
      have B3 := C3
      have B4 := C4
      have B5 := C5
      have HB := HBn
      have S1 := S2
      have T1 := T2
      have hA1 := hB1
      have hsz := hszn
      clear C1 C2 C3 C4 C5 HBn S2 T2 hB1 hszn
      have k0 := B1.cell_ 0
      have k1 := B1.cell_ 1
      have k2 := B1.cell_ 2
      have k3 := B1.cell_ 3
      have k4 := B1.cell_ 4
      have y0 := B2.cell_ 0
      have y1 := B2.cell_ 1
      have y2 := B2.cell_ 2
      have y3 := B2.cell_ 3
      have u0 := B5.cell_ 0
      have u1 := B5.cell_ 1
      have u2 := B5.cell_ 2
      have u3 := B5.cell_ 3
      have u4 := B5.cell_ 4
      have fu0 := B5.free 0
      have fu1 := B5.free 1
      have fu2 := B5.free 2
      have fu3 := B5.free 3
      have fu4 := B5.free 4
      simp at k0 k1 k2 k3 k4 y0 y1 y2 y3 u0 u1 u2 u3 u4
      go_wp2_with (go_at_call 33; ((with_reducible refine (rrem_all s _ a b _ S1 HZ.out _ HC.out _ HN.out _ HR.out).mono ?_); rintro e' w9 ⟨v7, rfl, hA2, b7⟩; have hA1 := hA1.below b7; have hA2 := hA2.base_ hsz; obtain ⟨A2, c2, D2, e2, rfl, hp1, hp2, -⟩ := hA2.parts; clear hp1 hp2; have B1 := B1.below b7 B1.lt; have B2 := B2.below b7 B2.lt; have B3 := B3.below b7 B3.lt; have B4 := B4.below b7 B4.lt; have B5 := B5.below b7 B5.lt; have S1 := S1.next b7; have T1 := T1.next b7; have HB := btr HB HB.size b7; have hsz := Nat.le_trans hsz b7.size; (try clear k0 k1 k2 k3 k4 y0 y1 y2 y3 u0 fu0 u1 fu1 u2 fu2 u3 fu3 u4 fu4); have k0 := B1.cell_ 0; have k1 := B1.cell_ 1; have k2 := B1.cell_ 2; have k3 := B1.cell_ 3; have k4 := B1.cell_ 4; have y0 := B2.cell_ 0; have y1 := B2.cell_ 1; have y2 := B2.cell_ 2; have y3 := B2.cell_ 3; have u0 := B5.cell_ 0; have u1 := B5.cell_ 1; have u2 := B5.cell_ 2; have u3 := B5.cell_ 3; have u4 := B5.cell_ 4; have fu0 := B5.free 0; have fu1 := B5.free 1; have fu2 := B5.free 2; have fu3 := B5.free 3; have fu4 := B5.free 4; simp at k0 k1 k2 k3 k4 y0 y1 y2 y3 u0 u1 u2 u3 u4; clear b7))
      have hg := st5_grown w9 (w.heap.size + 1 + 1 + 1 + 1) 0 (.int .i64 T.nb) (.int .i64 T.nn) (.int .i64 T.ns) (.slice A2 T.bs.length c2) (.slice D2 T.ts.length e2)
      have C1 := B1.grown hg (by omega)
      have C2 := B2.grown hg (by omega)
      have C3 := B3.grown hg (by omega)
      have C4 := B4.grown hg (by omega)
      have C5 := B5.st5_ (.int .i64 T.nb) (.int .i64 T.nn) (.int .i64 T.ns) (.slice A2 T.bs.length c2) (.slice D2 T.ts.length e2)
      have HBn := below_grown HB hg (by omega) HB.size
      have S2 : ShR (st5 w9 (w.heap.size + 1 + 1 + 1 + 1) 0 (.int .i64 T.nb) (.int .i64 T.nn) (.int .i64 T.ns) (.slice A2 T.bs.length c2) (.slice D2 T.ts.length e2)) (st5 w9 (w.heap.size + 1 + 1 + 1 + 1) 0 (.int .i64 T.nb) (.int .i64 T.nn) (.int .i64 T.ns) (.slice A2 T.bs.length c2) (.slice D2 T.ts.length e2)).heap.size (.agg #[.int .i64 s.nb, .int .i64 s.nn, .int .i64 s.ns, .slice Ab s.bs.length cb, .slice An s.ts.length cn]) s := hS0.next HBn
      have T2 : Tabs (st5 w9 (w.heap.size + 1 + 1 + 1 + 1) 0 (.int .i64 T.nb) (.int .i64 T.nn) (.int .i64 T.ns) (.slice A2 T.bs.length c2) (.slice D2 T.ts.length e2)) := hT0.next HBn
      have hB1 := hA1.far hg (by omega)
      have hB2 := hA2.far hg (by omega)
      have hszn : w.heap.size + 5 ≤ (st5 w9 (w.heap.size + 1 + 1 + 1 + 1) 0 (.int .i64 T.nb) (.int .i64 T.nn) (.int .i64 T.ns) (.slice A2 T.bs.length c2) (.slice D2 T.ts.length e2)).heap.size := Nat.le_trans hsz hg.size
      clear hg
      go_meet
      rw [HRT.out]
      refine ⟨⟨N, rfl, rfl⟩, ⟨c, rfl, rfl⟩, ⟨_, _, _, _, C4, hB1⟩, ⟨_, _, _, _, C5, hB2⟩, C3, HBn, hszn⟩
    · have hRT : resS s ⟨d, a, b, nm⟩ = zeroSf := by
        have : actC s ⟨d, a, b, nm⟩ = 8 := by unfold actC; simp [d0, d1, d2, d3, d4]
        unfold resS
        rw [this]
        rfl
      have HRT := Lib.hid hRT
      clear hRT
      have k0 := B1.cell_ 0
      have k1 := B1.cell_ 1
      have k2 := B1.cell_ 2
      have k3 := B1.cell_ 3
      have k4 := B1.cell_ 4
      have y0 := B2.cell_ 0
      have y1 := B2.cell_ 1
      have y2 := B2.cell_ 2
      have y3 := B2.cell_ 3
      have u0 := B4.cell_ 0
      have u1 := B4.cell_ 1
      have u2 := B4.cell_ 2
      have u3 := B4.cell_ 3
      have u4 := B4.cell_ 4
      have fu0 := B4.free 0
      have fu1 := B4.free 1
      have fu2 := B4.free 2
      have fu3 := B4.free 3
      have fu4 := B4.free 4
      simp at k0 k1 k2 k3 k4 y0 y1 y2 y3 u0 u1 u2 u3 u4
      go_wp2_with fail
      go_meet
      rw [HRT.out]
      exact ⟨⟨0, rfl, rfl⟩, ⟨0, rfl, rfl⟩, ⟨_, _, _, _, B4, zeroW _ _⟩, ⟨_, _, _, _, B5, zeroW _ _⟩, B3, HB, hsz⟩
  case rest =>
    obtain ⟨T, hRT⟩ : ∃ T, resS s ⟨d, a, b, nm⟩ = T := ⟨_, rfl⟩
    rw [hRT] at hcut HSM
    have HRT := Lib.hid hRT
    clear hRT B1 B2 B3 B4 B5 HB S1 T1 hsz
    obtain ⟨⟨N, rfl, rfl⟩, ⟨c, rfl, rfl⟩, ⟨A1, c1, D1, e1, B4, hA1⟩, ⟨A2, c2, D2, e2, B5, hA2⟩, B3, HB, hsz⟩ := hcut
    have u0 := B4.cell_ 0
    have u1 := B4.cell_ 1
    have u2 := B4.cell_ 2
    have u3 := B4.cell_ 3
    have u4 := B4.cell_ 4
    have x0 := B5.cell_ 0
    have x1 := B5.cell_ 1
    have x2 := B5.cell_ 2
    have x3 := B5.cell_ 3
    have x4 := B5.cell_ 4
    simp at u0 u1 u2 u3 u4 x0 x1 x2 x3 x4
    have QD : wc.drew.cell? ⟨w.heap.size + 1 + 1 + 1, 0, none⟩ = some (.int .i64 T.nb) ∧ wc.drew.cell? ⟨w.heap.size + 1 + 1 + 1, 1, none⟩ = some (.int .i64 T.nn) ∧ wc.drew.cell? ⟨w.heap.size + 1 + 1 + 1, 2, none⟩ = some (.int .i64 T.ns) ∧ wc.drew.cell? ⟨w.heap.size + 1 + 1 + 1, 3, none⟩ = some (.slice A1 T.bs.length c1) ∧ wc.drew.cell? ⟨w.heap.size + 1 + 1 + 1, 4, none⟩ = some (.slice D1 T.ts.length e1) ∧ wc.drew.cell? ⟨w.heap.size + 1 + 1 + 1 + 1, 0, none⟩ = some (.int .i64 T.nb) ∧ wc.drew.cell? ⟨w.heap.size + 1 + 1 + 1 + 1, 1, none⟩ = some (.int .i64 T.nn) ∧ wc.drew.cell? ⟨w.heap.size + 1 + 1 + 1 + 1, 2, none⟩ = some (.int .i64 T.ns) ∧ wc.drew.cell? ⟨w.heap.size + 1 + 1 + 1 + 1, 3, none⟩ = some (.slice A2 T.bs.length c2) ∧ wc.drew.cell? ⟨w.heap.size + 1 + 1 + 1 + 1, 4, none⟩ = some (.slice D2 T.ts.length e2) := ⟨drew_cell u0, drew_cell u1, drew_cell u2, drew_cell u3, drew_cell u4, drew_cell x0, drew_cell x1, drew_cell x2, drew_cell x3, drew_cell x4⟩
    go_upto_region 20 with fail
    refine wp_region_noPanic ?_
    refine wp_region_held_drew (S := (fun w_ => w_.cell? ⟨w.heap.size + 1 + 1 + 1, 0, none⟩ = some (.int .i64 T.nb) ∧ w_.cell? ⟨w.heap.size + 1 + 1 + 1, 1, none⟩ = some (.int .i64 T.nn) ∧ w_.cell? ⟨w.heap.size + 1 + 1 + 1, 2, none⟩ = some (.int .i64 T.ns) ∧ w_.cell? ⟨w.heap.size + 1 + 1 + 1, 3, none⟩ = some (.slice A1 T.bs.length c1) ∧ w_.cell? ⟨w.heap.size + 1 + 1 + 1, 4, none⟩ = some (.slice D1 T.ts.length e1) ∧ w_.cell? ⟨w.heap.size + 1 + 1 + 1 + 1, 0, none⟩ = some (.int .i64 T.nb) ∧ w_.cell? ⟨w.heap.size + 1 + 1 + 1 + 1, 1, none⟩ = some (.int .i64 T.nn) ∧ w_.cell? ⟨w.heap.size + 1 + 1 + 1 + 1, 2, none⟩ = some (.int .i64 T.ns) ∧ w_.cell? ⟨w.heap.size + 1 + 1 + 1 + 1, 3, none⟩ = some (.slice A2 T.bs.length c2) ∧ w_.cell? ⟨w.heap.size + 1 + 1 + 1 + 1, 4, none⟩ = some (.slice D2 T.ts.length e2))) (by kernel_rfl) ?_ (fun hHeld => ?_)
    · (first | with_reducible exact QD | with_reducible exact QN | with_reducible exact QM | exact QA)
    refine tk 0 ?_; try simp only [Act.put, pz1, pz2, pz3]
    refine tk 1 ?_; try simp only [Act.put, pz1, pz2, pz3]
    refine tk 3 ?_; try simp only [Act.put, pz1, pz2, pz3]
    refine wpAnyH_ready (rs := [2]) (by kernel_rfl) (by simp) ?_
    refine AllReadyH.cons (o := ⟨some 118, .call { callee := .value (.func 15), args := #[.tmp 117], argTypes := #[33] }, 3, "law.go:66", #[⟨1, .data⟩], none⟩) rfl (fun K hK => ?_) AllReadyH.nil
    go_simp
    (go_at_call 15; ((with_reducible refine (num_any c _).mono ?_); rintro e' wn ⟨rfl, bn⟩; have bn := btr (below_dr wc) (Nat.le_refl _) bn; have QN : wn.cell? ⟨w.heap.size + 1 + 1 + 1, 0, none⟩ = some (.int .i64 T.nb) ∧ wn.cell? ⟨w.heap.size + 1 + 1 + 1, 1, none⟩ = some (.int .i64 T.nn) ∧ wn.cell? ⟨w.heap.size + 1 + 1 + 1, 2, none⟩ = some (.int .i64 T.ns) ∧ wn.cell? ⟨w.heap.size + 1 + 1 + 1, 3, none⟩ = some (.slice A1 T.bs.length c1) ∧ wn.cell? ⟨w.heap.size + 1 + 1 + 1, 4, none⟩ = some (.slice D1 T.ts.length e1) ∧ wn.cell? ⟨w.heap.size + 1 + 1 + 1 + 1, 0, none⟩ = some (.int .i64 T.nb) ∧ wn.cell? ⟨w.heap.size + 1 + 1 + 1 + 1, 1, none⟩ = some (.int .i64 T.nn) ∧ wn.cell? ⟨w.heap.size + 1 + 1 + 1 + 1, 2, none⟩ = some (.int .i64 T.ns) ∧ wn.cell? ⟨w.heap.size + 1 + 1 + 1 + 1, 3, none⟩ = some (.slice A2 T.bs.length c2) ∧ wn.cell? ⟨w.heap.size + 1 + 1 + 1 + 1, 4, none⟩ = some (.slice D2 T.ts.length e2) := ⟨(bn.cell (p := ⟨w.heap.size + 1 + 1 + 1, 0, none⟩) B4.lt).trans u0, (bn.cell (p := ⟨w.heap.size + 1 + 1 + 1, 1, none⟩) B4.lt).trans u1, (bn.cell (p := ⟨w.heap.size + 1 + 1 + 1, 2, none⟩) B4.lt).trans u2, (bn.cell (p := ⟨w.heap.size + 1 + 1 + 1, 3, none⟩) B4.lt).trans u3, (bn.cell (p := ⟨w.heap.size + 1 + 1 + 1, 4, none⟩) B4.lt).trans u4, (bn.cell (p := ⟨w.heap.size + 1 + 1 + 1 + 1, 0, none⟩) B5.lt).trans x0, (bn.cell (p := ⟨w.heap.size + 1 + 1 + 1 + 1, 1, none⟩) B5.lt).trans x1, (bn.cell (p := ⟨w.heap.size + 1 + 1 + 1 + 1, 2, none⟩) B5.lt).trans x2, (bn.cell (p := ⟨w.heap.size + 1 + 1 + 1 + 1, 3, none⟩) B5.lt).trans x3, (bn.cell (p := ⟨w.heap.size + 1 + 1 + 1 + 1, 4, none⟩) B5.lt).trans x4⟩; have hA1n := hA1.below bn; have hA2n := hA2.below bn))
    go_wp2_with fail
    refine hK.out _ _ ?_ (fun hNew => ?_)
    · (first | with_reducible exact QD | with_reducible exact QN | with_reducible exact QM | exact QA)
    clear hK K hHeld
    have hHeld := hNew
    clear hNew
    try simp only [Act.put, pz1, pz2, pz3]
    refine tk 4 ?_; try simp only [Act.put, pz1, pz2, pz3]
    refine tk 5 ?_; try simp only [Act.put, pz1, pz2, pz3]
    refine tk 6 ?_; try simp only [Act.put, pz1, pz2, pz3]
    refine tk 7 ?_; try simp only [Act.put, pz1, pz2, pz3]
    refine tk 8 ?_; try simp only [Act.put, pz1, pz2, pz3]
    refine tk 9 ?_; try simp only [Act.put, pz1, pz2, pz3]
    refine tk 10 ?_; try simp only [Act.put, pz1, pz2, pz3]
    refine tk 11 ?_; try simp only [Act.put, pz1, pz2, pz3]
    refine tk 12 ?_; try simp only [Act.put, pz1, pz2, pz3]
    refine wpAnyH_ready (rs := [13]) (by kernel_rfl) (by simp) ?_
    refine AllReadyH.cons (o := ⟨some 129, .call { callee := .value (.func 16), args := #[.tmp 127, .tmp 128], argTypes := #[25, 25] }, 4, "law.go:66", #[⟨11, .data⟩, ⟨12, .data⟩, ⟨10, .chain⟩, ⟨10, .guard⟩], some (10, true)⟩) rfl (fun K hK => ?_) AllReadyH.nil
    go_simp
    (go_at_call 16; ((with_reducible refine (sameShelf_yes T _ _ _ hA1n.toR hA2n.toR HSM.out.1 HSM.out.2.1 HSM.out.2.2).mono ?_); rintro e' wm ⟨rfl, bm⟩; have bm := btr bn bn.size bm; have QM : wm.cell? ⟨w.heap.size + 1 + 1 + 1, 0, none⟩ = some (.int .i64 T.nb) ∧ wm.cell? ⟨w.heap.size + 1 + 1 + 1, 1, none⟩ = some (.int .i64 T.nn) ∧ wm.cell? ⟨w.heap.size + 1 + 1 + 1, 2, none⟩ = some (.int .i64 T.ns) ∧ wm.cell? ⟨w.heap.size + 1 + 1 + 1, 3, none⟩ = some (.slice A1 T.bs.length c1) ∧ wm.cell? ⟨w.heap.size + 1 + 1 + 1, 4, none⟩ = some (.slice D1 T.ts.length e1) ∧ wm.cell? ⟨w.heap.size + 1 + 1 + 1 + 1, 0, none⟩ = some (.int .i64 T.nb) ∧ wm.cell? ⟨w.heap.size + 1 + 1 + 1 + 1, 1, none⟩ = some (.int .i64 T.nn) ∧ wm.cell? ⟨w.heap.size + 1 + 1 + 1 + 1, 2, none⟩ = some (.int .i64 T.ns) ∧ wm.cell? ⟨w.heap.size + 1 + 1 + 1 + 1, 3, none⟩ = some (.slice A2 T.bs.length c2) ∧ wm.cell? ⟨w.heap.size + 1 + 1 + 1 + 1, 4, none⟩ = some (.slice D2 T.ts.length e2) := ⟨(bm.cell (p := ⟨w.heap.size + 1 + 1 + 1, 0, none⟩) B4.lt).trans u0, (bm.cell (p := ⟨w.heap.size + 1 + 1 + 1, 1, none⟩) B4.lt).trans u1, (bm.cell (p := ⟨w.heap.size + 1 + 1 + 1, 2, none⟩) B4.lt).trans u2, (bm.cell (p := ⟨w.heap.size + 1 + 1 + 1, 3, none⟩) B4.lt).trans u3, (bm.cell (p := ⟨w.heap.size + 1 + 1 + 1, 4, none⟩) B4.lt).trans u4, (bm.cell (p := ⟨w.heap.size + 1 + 1 + 1 + 1, 0, none⟩) B5.lt).trans x0, (bm.cell (p := ⟨w.heap.size + 1 + 1 + 1 + 1, 1, none⟩) B5.lt).trans x1, (bm.cell (p := ⟨w.heap.size + 1 + 1 + 1 + 1, 2, none⟩) B5.lt).trans x2, (bm.cell (p := ⟨w.heap.size + 1 + 1 + 1 + 1, 3, none⟩) B5.lt).trans x3, (bm.cell (p := ⟨w.heap.size + 1 + 1 + 1 + 1, 4, none⟩) B5.lt).trans x4⟩; have hA1m := hA1.below bm; have B3m := B3.below bm B3.lt; have HBm := btr HB HB.size bm; have sm := bm.size; have r0 := B3m.cell_ 0; have r1 := B3m.cell_ 1; have r2 := B3m.cell_ 2; have r3 := B3m.cell_ 3; have r4 := B3m.cell_ 4; have fr0 := B3m.free 0; have fr1 := B3m.free 1; have fr2 := B3m.free 2; have fr3 := B3m.free 3; have fr4 := B3m.free 4; simp at r0 r1 r2 r3 r4))
    go_wp2_with fail
    refine hK.out _ _ ?_ (fun hNew => ?_)
    · (first | with_reducible exact QD | with_reducible exact QN | with_reducible exact QM | exact QA)
    clear hK K hHeld
    have hHeld := hNew
    clear hNew
    try simp only [Act.put, pz1, pz2, pz3]
    refine tk 14 ?_; try simp only [Act.put, pz1, pz2, pz3]
    refine wpAnyH_ready (rs := [15]) (by kernel_rfl) (by simp) ?_
    refine AllReadyH.cons (o := ⟨none, .store 25 (.tmp 4) (.tmp 116), 0, "law.go:66", #[⟨0, .data⟩, ⟨13, .chain⟩, ⟨0, .phase⟩, { on := 1, ground := Ground.textOnly Departure.lateStores }, { on := 2, ground := Ground.textOnly Departure.lateStoresUnsure }, { on := 3, ground := Ground.textOnly Departure.lateStores }, { on := 4, ground := Ground.textOnly Departure.lateStores }, { on := 5, ground := Ground.textOnly Departure.lateStores }, { on := 6, ground := Ground.textOnly Departure.lateStores }, { on := 7, ground := Ground.textOnly Departure.lateStores }, { on := 8, ground := Ground.textOnly Departure.lateStores }, { on := 9, ground := Ground.textOnly Departure.lateStores }, { on := 10, ground := Ground.textOnly Departure.lateStores }, { on := 11, ground := Ground.textOnly Departure.lateStores }, { on := 12, ground := Ground.textOnly Departure.lateStores }, { on := 13, ground := Ground.textOnly Departure.lateStoresUnsure }, { on := 14, ground := Ground.textOnly Departure.lateStores }], none⟩) rfl (fun K hK => ?_) AllReadyH.nil
    go_simp
    have hg1 := st5_grown wm (w.heap.size + 1 + 1) 0 (.int .i64 T.nb) (.int .i64 T.nn) (.int .i64 T.ns) (.slice A1 T.bs.length c1) (.slice D1 T.ts.length e1)
    have B3a := B3m.st5_ (.int .i64 T.nb) (.int .i64 T.nn) (.int .i64 T.ns) (.slice A1 T.bs.length c1) (.slice D1 T.ts.length e1)
    have hA1a := hA1m.far hg1 (by omega)
    have HBa := below_grown HBm hg1 (by omega) HBm.size
    have B4a := (B4.below bm B4.lt).grown hg1 (by omega)
    have B5a := (B5.below bm B5.lt).grown hg1 (by omega)
    have QA : (st5 wm (w.heap.size + 1 + 1) 0 (.int .i64 T.nb) (.int .i64 T.nn) (.int .i64 T.ns) (.slice A1 T.bs.length c1) (.slice D1 T.ts.length e1)).cell? ⟨w.heap.size + 1 + 1 + 1, 0, none⟩ = some (.int .i64 T.nb) ∧ (st5 wm (w.heap.size + 1 + 1) 0 (.int .i64 T.nb) (.int .i64 T.nn) (.int .i64 T.ns) (.slice A1 T.bs.length c1) (.slice D1 T.ts.length e1)).cell? ⟨w.heap.size + 1 + 1 + 1, 1, none⟩ = some (.int .i64 T.nn) ∧ (st5 wm (w.heap.size + 1 + 1) 0 (.int .i64 T.nb) (.int .i64 T.nn) (.int .i64 T.ns) (.slice A1 T.bs.length c1) (.slice D1 T.ts.length e1)).cell? ⟨w.heap.size + 1 + 1 + 1, 2, none⟩ = some (.int .i64 T.ns) ∧ (st5 wm (w.heap.size + 1 + 1) 0 (.int .i64 T.nb) (.int .i64 T.nn) (.int .i64 T.ns) (.slice A1 T.bs.length c1) (.slice D1 T.ts.length e1)).cell? ⟨w.heap.size + 1 + 1 + 1, 3, none⟩ = some (.slice A1 T.bs.length c1) ∧ (st5 wm (w.heap.size + 1 + 1) 0 (.int .i64 T.nb) (.int .i64 T.nn) (.int .i64 T.ns) (.slice A1 T.bs.length c1) (.slice D1 T.ts.length e1)).cell? ⟨w.heap.size + 1 + 1 + 1, 4, none⟩ = some (.slice D1 T.ts.length e1) ∧ (st5 wm (w.heap.size + 1 + 1) 0 (.int .i64 T.nb) (.int .i64 T.nn) (.int .i64 T.ns) (.slice A1 T.bs.length c1) (.slice D1 T.ts.length e1)).cell? ⟨w.heap.size + 1 + 1 + 1 + 1, 0, none⟩ = some (.int .i64 T.nb) ∧ (st5 wm (w.heap.size + 1 + 1) 0 (.int .i64 T.nb) (.int .i64 T.nn) (.int .i64 T.ns) (.slice A1 T.bs.length c1) (.slice D1 T.ts.length e1)).cell? ⟨w.heap.size + 1 + 1 + 1 + 1, 1, none⟩ = some (.int .i64 T.nn) ∧ (st5 wm (w.heap.size + 1 + 1) 0 (.int .i64 T.nb) (.int .i64 T.nn) (.int .i64 T.ns) (.slice A1 T.bs.length c1) (.slice D1 T.ts.length e1)).cell? ⟨w.heap.size + 1 + 1 + 1 + 1, 2, none⟩ = some (.int .i64 T.ns) ∧ (st5 wm (w.heap.size + 1 + 1) 0 (.int .i64 T.nb) (.int .i64 T.nn) (.int .i64 T.ns) (.slice A1 T.bs.length c1) (.slice D1 T.ts.length e1)).cell? ⟨w.heap.size + 1 + 1 + 1 + 1, 3, none⟩ = some (.slice A2 T.bs.length c2) ∧ (st5 wm (w.heap.size + 1 + 1) 0 (.int .i64 T.nb) (.int .i64 T.nn) (.int .i64 T.ns) (.slice A1 T.bs.length c1) (.slice D1 T.ts.length e1)).cell? ⟨w.heap.size + 1 + 1 + 1 + 1, 4, none⟩ = some (.slice D2 T.ts.length e2) := ⟨B4a.cell_ 0, B4a.cell_ 1, B4a.cell_ 2, B4a.cell_ 3, B4a.cell_ 4, B5a.cell_ 0, B5a.cell_ 1, B5a.cell_ 2, B5a.cell_ 3, B5a.cell_ 4⟩
    refine hK.out _ _ ?_ (fun hNew => ?_)
    · (first | with_reducible exact QD | with_reducible exact QN | with_reducible exact QM | exact QA)
    clear hK K hHeld
    have hHeld := hNew
    clear hNew
    try simp only [Act.put, pz1, pz2, pz3]
    refine tk 16 ?_; try simp only [Act.put, pz1, pz2, pz3]
    refine wpAnyH_done (by kernel_rfl) ?_ _
    refine NoPanic.normal ?_
    go_wp2_with fail
    change bodyPost _ _ _ _ _ (st5 wm (w.heap.size + 1 + 1) 0 (.int .i64 T.nb) (.int .i64 T.nn) (.int .i64 T.ns) (.slice A1 T.bs.length c1) (.slice D1 T.ts.length e1))
    apply bodyPost_ret (v := .tuple #[.agg #[.int .i64 T.nb, .int .i64 T.nn, .int .i64 T.ns, .slice A1 T.bs.length c1, .slice D1 T.ts.length e1], .bool true])
    · exact results_cell1 Tryd.results11 _ _ (w.heap.size + 1 + 1) 25 _ (0, 0) _ rfl B3a Tryd.underlying25 rfl (by kernel_rfl)
    · rfl
    · rw [HRT.out]
      exact ⟨_, rfl, hA1a.base_ (by omega), HBa⟩
end Go.Proofs.YtkaoechjekffmaaDoor
namespace Go.Proofs.YtkaoechjekffmaaDoor
open Go.ChangeShapes Go.WideShapes Go.ChangeAt Go.RowKit
attribute [local go_sem ↓] Go.wp_at_zero Go.wp_at_succ
def acC (x : Ac) : List Value := [.int .i64 x.d, .int .i64 x.a, .int .i64 x.b, .string x.nm]
theorem cells4a : Tryd.prog.cellsOf 27 = 4 := by kernel_rfl
theorem len4 {α : Type} {l : List α} (h : l.length = 4) : ∃ a b c d, l = [a, b, c, d] := by
  match l, h with
  | [a, b, c, d], _ => exact ⟨a, b, c, d, rfl⟩
theorem act_ok {w : World} {n : Nat} {x : List Value} (h : OkT Tryd.prog w (n + 2) 27 x) : ∃ b : Ac, x = acC b := by
  obtain ⟨hl, hf⟩ := okT_struct (n := n + 1) Tryd.underlying27 h
  rw [cells4a] at hl
  obtain ⟨a, b, c, d, rfl⟩ := len4 hl
  have h0 : OkT Tryd.prog w (n + 1) 3 ((([a, b, c, d] : List Value).drop 0).take (Tryd.prog.cellsOf 3)) := hf 0 _ rfl
  have h1 : OkT Tryd.prog w (n + 1) 3 ((([a, b, c, d] : List Value).drop 1).take (Tryd.prog.cellsOf 3)) := hf 1 _ rfl
  have h2 : OkT Tryd.prog w (n + 1) 3 ((([a, b, c, d] : List Value).drop 2).take (Tryd.prog.cellsOf 3)) := hf 2 _ rfl
  have h3 : OkT Tryd.prog w (n + 1) 9 ((([a, b, c, d] : List Value).drop 3).take (Tryd.prog.cellsOf 9)) := hf 3 _ rfl
  rw [cells1i] at h0 h1 h2
  rw [cells1s] at h3
  obtain ⟨z0, hz0, -⟩ := okT_int (n := n) Tryd.underlying3 h0
  obtain ⟨z1, hz1, -⟩ := okT_int (n := n) Tryd.underlying3 h1
  obtain ⟨z2, hz2, -⟩ := okT_int (n := n) Tryd.underlying3 h2
  obtain ⟨s, hs, -⟩ := okT_str (n := n) Tryd.underlying9 h3
  simp at hz0 hz1 hz2 hs
  subst hz0 hz1 hz2 hs
  exact ⟨⟨z0, z1, z2, s⟩, rfl⟩
theorem acts_value {Hy : Type} {enc : TypeId × Value → Hy} {w : World} {base : Nat} {spare : Nat → Bool} {held : Bool} {r : Reach} {b0 : Nat} {v : Value} {d : DataW Hy} {p : List MemPlace} (hv : Value.okWide Tryd.prog w r b0 42 v) (h : DataW.Trod enc Tryd.prog w base spare held 42 v d p) :
    ∃ (A : Option Addr) (c : Nat) (l : List Ac), v = .slice A l.length c ∧ l.length ≤ c ∧ c ≤ maxLen ∧ SlE 4 w w.heap.size A (l.map acC) := by
  have h0 := okT_value 6 hv h
  obtain ⟨A0, n0, c0, rfl⟩ := okWide_slice Tryd.underlying42 hv
  obtain ⟨A, n, c, es, he, h1, h2, h3, h4, h5⟩ := okT_row (n := 5) Tryd.underlying42 (Nat.lt_of_lt_of_eq (by decide : 0 < 4) cells4a.symm) h0
  simp [Value.cells] at he
  obtain ⟨rfl, rfl, rfl⟩ := he
  rw [cells4a] at h4
  obtain ⟨l, hl, hr⟩ := choose_list (R := fun (e : List Value) (b : Ac) => e = acC b) es (fun x hx => act_ok (n := 3) (h5 x hx).2)
  have hes : es = l.map acC := by
    apply List.ext_getElem?
    intro k
    rw [List.getElem?_map]
    rcases Nat.lt_or_ge k es.length with hk | hk
    · rw [List.getElem?_eq_getElem hk, List.getElem?_eq_getElem (by omega), hr k _ _ (List.getElem?_eq_getElem hk) (List.getElem?_eq_getElem (by omega))]
      rfl
    · rw [List.getElem?_eq_none hk, List.getElem?_eq_none (by omega)]
      rfl
  subst h1
  refine ⟨A0, c0, l, by rw [hl], by omega, h3, ?_⟩
  rw [← hes]
  exact h4
end Go.Proofs.YtkaoechjekffmaaDoor
namespace Go.Proofs.YtkaoechjekffmaaDoor
open Go.ChangeShapes Go.WideShapes Go.ChangeAt Go.RowKit
attribute [local go_sem ↓] Go.wp_at_zero Go.wp_at_succ
def BoxR (w : World) (g : Nat) (T : Sf) : Prop := ∃ Ab cb An cn, Blk w g 25 #[.int .i64 T.nb, .int .i64 T.nn, .int .i64 T.ns, .slice Ab T.bs.length cb, .slice An T.ts.length cn] ∧ ShR w w.heap.size (.agg #[.int .i64 T.nb, .int .i64 T.nn, .int .i64 T.ns, .slice Ab T.bs.length cb, .slice An T.ts.length cn]) T
theorem keepS_9 {w w_ : World} {B b0 o0 b1 o1 b2 o2 b3 o3 b4 o4 b5 o5 b6 o6 b7 o7 b8 o8 : Nat} {u0 u1 u2 u3 u4 u5 u6 u7 u8 : Value} (h : w.cell? ⟨b0, o0, none⟩ = some u0 ∧ w.cell? ⟨b1, o1, none⟩ = some u1 ∧ w.cell? ⟨b2, o2, none⟩ = some u2 ∧ w.cell? ⟨b3, o3, none⟩ = some u3 ∧ w.cell? ⟨b4, o4, none⟩ = some u4 ∧ w.cell? ⟨b5, o5, none⟩ = some u5 ∧ w.cell? ⟨b6, o6, none⟩ = some u6 ∧ w.cell? ⟨b7, o7, none⟩ = some u7 ∧ w.cell? ⟨b8, o8, none⟩ = some u8) (hb : Below B w w_) (l0 : b0 < B) (l1 : b1 < B) (l2 : b2 < B) (l3 : b3 < B) (l4 : b4 < B) (l5 : b5 < B) (l6 : b6 < B) (l7 : b7 < B) (l8 : b8 < B) : w_.cell? ⟨b0, o0, none⟩ = some u0 ∧ w_.cell? ⟨b1, o1, none⟩ = some u1 ∧ w_.cell? ⟨b2, o2, none⟩ = some u2 ∧ w_.cell? ⟨b3, o3, none⟩ = some u3 ∧ w_.cell? ⟨b4, o4, none⟩ = some u4 ∧ w_.cell? ⟨b5, o5, none⟩ = some u5 ∧ w_.cell? ⟨b6, o6, none⟩ = some u6 ∧ w_.cell? ⟨b7, o7, none⟩ = some u7 ∧ w_.cell? ⟨b8, o8, none⟩ = some u8 := by
  obtain ⟨h0, h1, h2, h3, h4, h5, h6, h7, h8⟩ := h
  exact ⟨(hb.cell (p := ⟨b0, o0, none⟩) l0).trans h0, (hb.cell (p := ⟨b1, o1, none⟩) l1).trans h1, (hb.cell (p := ⟨b2, o2, none⟩) l2).trans h2, (hb.cell (p := ⟨b3, o3, none⟩) l3).trans h3, (hb.cell (p := ⟨b4, o4, none⟩) l4).trans h4, (hb.cell (p := ⟨b5, o5, none⟩) l5).trans h5, (hb.cell (p := ⟨b6, o6, none⟩) l6).trans h6, (hb.cell (p := ⟨b7, o7, none⟩) l7).trans h7, (hb.cell (p := ⟨b8, o8, none⟩) l8).trans h8⟩
theorem script_walk (s : Sf) (v : Value) (A : Option Addr) (cp : Nat) (l : List Ac) (w : World) (hS : ShR w w.heap.size v s) (hc : l.length ≤ cp) (hm : cp ≤ maxLen) (hSA : SlE 4 w w.heap.size A (l.map acC)) (hT : Tabs w) :
    Calls Tryd.prog 4 #[v, .slice A l.length cp] w fun e' w' => e' = .returned (.bool true) ∧ Below w.heap.size w w' := by
  have hS0 := hS
  obtain ⟨Ab, cb, An, cn, rfl, hB, hN, hcb, hmb, hcn, hmn⟩ := hS.ex
  clear hS
  have hT0 := hT
  have HB : Below w.heap.size w (w.alloc (.cells #[.int .i64 s.nb, .int .i64 s.nn, .int .i64 s.ns, .slice Ab s.bs.length cb, .slice An s.ts.length cn] 25)) := (Below.refl w.heap.size w).alloc (Nat.le_refl _) _
  have B1 : Blk (w.alloc (.cells #[.int .i64 s.nb, .int .i64 s.nn, .int .i64 s.ns, .slice Ab s.bs.length cb, .slice An s.ts.length cn] 25)) w.heap.size 25 #[.int .i64 s.nb, .int .i64 s.nn, .int .i64 s.ns, .slice Ab s.bs.length cb, .slice An s.ts.length cn] := Blk.new_ w 25 #[.int .i64 s.nb, .int .i64 s.nn, .int .i64 s.ns, .slice Ab s.bs.length cb, .slice An s.ts.length cn]
  have S1 : ShR (w.alloc (.cells #[.int .i64 s.nb, .int .i64 s.nn, .int .i64 s.ns, .slice Ab s.bs.length cb, .slice An s.ts.length cn] 25)) ((w.alloc (.cells #[.int .i64 s.nb, .int .i64 s.nn, .int .i64 s.ns, .slice Ab s.bs.length cb, .slice An s.ts.length cn] 25))).heap.size (.agg #[.int .i64 s.nb, .int .i64 s.nn, .int .i64 s.ns, .slice Ab s.bs.length cb, .slice An s.ts.length cn]) s := hS0.next HB
  have T1 := hT.next HB
  obtain ⟨G, hG⟩ : ∃ G, greatS s = G := ⟨_, rfl⟩
  obtain ⟨M, hM⟩ : ∃ M, mayS s = M := ⟨_, rfl⟩
  obtain ⟨n, hn⟩ : ∃ n, l.length = n := ⟨_, rfl⟩
  have HG := Lib.hid hG
  have HM := Lib.hid hM
  have HLN := Lib.hid hn
  rw [hn] at hc ⊢
  clear hG hM hn hT hB hN hcb hmb hcn hmn hS0
  cases G
  · by_cases h60 : 60 < n
    · have g60 : (60 : Int) < (n : Int) := by omega
      clear h60
      go_enter Tryd.func4, Tryd.ntmps4
      go_wp2_with (first | (go_at_call 8; ((with_reducible refine (greatShelf_any s _ _ S1 _ HG.out).mono ?_); rintro e' w2 ⟨rfl, bx⟩; have B1 := B1.below bx B1.lt; have S1 := S1.next bx; have T1 := T1.next bx; have HB := btr HB HB.size bx; (try clear k0 k1 k2 k3 k4); have k0 := B1.cell_ 0; have k1 := B1.cell_ 1; have k2 := B1.cell_ 2; have k3 := B1.cell_ 3; have k4 := B1.cell_ 4; simp at k0 k1 k2 k3 k4; clear bx)) | (go_at_call 9; ((with_reducible refine (awake_any _ T1).mono ?_); rintro e' wA ⟨rfl, bA⟩; have HB := btr HB HB.size bA)))
      go_ret
      exact ⟨rfl, HB⟩
    · have g60 : ¬ (60 : Int) < (n : Int) := by omega
      cases M
      · skip
        go_enter Tryd.func4, Tryd.ntmps4
        go_wp2_with (first | (go_at_call 8; ((with_reducible refine (greatShelf_any s _ _ S1 _ HG.out).mono ?_); rintro e' w2 ⟨rfl, bx⟩; have B1 := B1.below bx B1.lt; have S1 := S1.next bx; have T1 := T1.next bx; have HB := btr HB HB.size bx; (try clear k0 k1 k2 k3 k4); have k0 := B1.cell_ 0; have k1 := B1.cell_ 1; have k2 := B1.cell_ 2; have k3 := B1.cell_ 3; have k4 := B1.cell_ 4; simp at k0 k1 k2 k3 k4; clear bx)) | (go_at_call 17; ((with_reducible refine (smay_any s _ _ S1 T1 _ HM.out).mono ?_); rintro e' w3 ⟨rfl, bx⟩; have B1 := B1.below bx B1.lt; have S1 := S1.next bx; have T1 := T1.next bx; have HB := btr HB HB.size bx; (try clear k0 k1 k2 k3 k4); have k0 := B1.cell_ 0; have k1 := B1.cell_ 1; have k2 := B1.cell_ 2; have k3 := B1.cell_ 3; have k4 := B1.cell_ 4; simp at k0 k1 k2 k3 k4; clear bx)) | (go_at_call 9; ((with_reducible refine (awake_any _ T1).mono ?_); rintro e' wA ⟨rfl, bA⟩; have HB := btr HB HB.size bA)))
        go_ret
        exact ⟨rfl, HB⟩
      · have HMF := Lib.hid (mayF_of HM.out)
        go_enter Tryd.func4, Tryd.ntmps4
        go_upto_region 3 with (first | (go_at_call 8; ((with_reducible refine (greatShelf_any s _ _ S1 _ HG.out).mono ?_); rintro e' w2 ⟨rfl, bx⟩; have B1 := B1.below bx B1.lt; have S1 := S1.next bx; have T1 := T1.next bx; have HB := btr HB HB.size bx; (try clear k0 k1 k2 k3 k4); have k0 := B1.cell_ 0; have k1 := B1.cell_ 1; have k2 := B1.cell_ 2; have k3 := B1.cell_ 3; have k4 := B1.cell_ 4; simp at k0 k1 k2 k3 k4; clear bx)) | (go_at_call 17; ((with_reducible refine (smay_any s _ _ S1 T1 _ HM.out).mono ?_); rintro e' w3 ⟨rfl, bx⟩; have B1 := B1.below bx B1.lt; have S1 := S1.next bx; have T1 := T1.next bx; have HB := btr HB HB.size bx; (try clear k0 k1 k2 k3 k4); have k0 := B1.cell_ 0; have k1 := B1.cell_ 1; have k2 := B1.cell_ 2; have k3 := B1.cell_ 3; have k4 := B1.cell_ 4; simp at k0 k1 k2 k3 k4; clear bx)))
        go_wp2_with fail
        go_loop [5] (fun i => ∃ k : Nat, k ≤ n ∧ i = .int .i64 (k : Int) ∧ Hid (∀ (j : Nat) (a : Ac), j < k → l[j]? = some a → a.nm.size ≤ 60)) (fun i => n - (intOf i).toNat)
        case atStart => exact ⟨0, by omega, rfl, Lib.hid (fun j a h => absurd h (Nat.not_lt_zero _))⟩
        case round =>
          obtain ⟨k, hk, rfl, HK⟩ := hrel
          by_cases hlt : k < n
          · have hkl : k < l.length := by have := HLN.out; omega
            obtain ⟨a, ha⟩ : ∃ a, l[k]? = some a := ⟨_, List.getElem?_eq_getElem hkl⟩
            have he : (l.map acC)[k]? = some (acC a) := by rw [List.getElem?_map, ha]; rfl
            obtain ⟨b1, o1, rfl, l1, q1⟩ := SlE.at_ hSA (by rw [List.length_map]; omega)
            have y3 := (HB.cell (p := ⟨b1, o1 + k * 4 + 3, none⟩) l1).trans (q1 k _ he 3 _ rfl)
            have i0 : (0 : Int) ≤ (k : Int) := by omega
            have i1 : (k : Int) < (n : Int) := by omega
            have HA_ := Lib.hid ha
            clear he q1 hkl
            by_cases hs : 60 < a.nm.size
            · have g6 : (60 : Int) < (a.nm.size : Int) := by omega
              clear hs ha
              go_wp2_with (go_at_call 9; ((with_reducible refine (awake_any _ T1).mono ?_); rintro e' wA ⟨rfl, bA⟩; have HB := btr HB HB.size bA))
              go_ret
              exact ⟨rfl, HB⟩
            · have g6 : ¬ (60 : Int) < (a.nm.size : Int) := by omega
              clear ha
              go_wp2_with fail
              go_round
              case rel => exact ⟨k + 1, by omega, by go_num, Lib.hid (fun j c hj hc => by
                rcases Nat.lt_or_ge j k with h | h
                · exact HK.out j c h hc
                · obtain rfl : j = k := by omega
                  have h9 := HA_.out
                  rw [hc] at h9
                  cases h9
                  omega)⟩
              case measure => simp [intOf]; omega
          · have hkn : k = n := by omega
            subst hkn
            have HAL : Hid (∀ (j : Nat) (a : Ac), j < k → l[j]? = some a → a.nm.size ≤ 60) := HK
            clear HK
            obtain ⟨n, hn⟩ : ∃ n, n = k := ⟨_, rfl⟩
            subst hn
            go_wp2_with fail
            go_loopw [6, 7] (fun lv iv wr => ∃ (k : Nat) (q : Sf), lv = .int .i64 q.ns ∧ iv = .int .i64 (k : Int) ∧ k ≤ n ∧ BoxR wr w.heap.size q ∧ Hid (MayF q) ∧ Below w.heap.size w wr ∧ w.heap.size < wr.heap.size) (fun _ iv _ => n - (intOf iv).toNat)
            case atStart => exact ⟨0, s, rfl, rfl, Nat.zero_le _, ⟨Ab, cb, An, cn, B1, S1⟩, HMF, HB, B1.lt⟩
            case round =>
              obtain ⟨k, q, rfl, rfl, hk, ⟨Aq, cq, Dq, eq, BP, SP⟩, HF, HBq, hgr⟩ := hrel
              clear B1 S1 T1 HB HMF k0 k1 k2 k3 k4
              obtain ⟨wq, hwq⟩ : ∃ V : World, V = wr := ⟨_, rfl⟩
              subst hwq
              have i0 : (0 : Int) ≤ (k : Int) := by omega
              by_cases hlt : k < n
              · have i1 : (k : Int) < (n : Int) := by omega
                have hkl : k < l.length := by have := HLN.out; omega
                obtain ⟨a, ha⟩ : ∃ a, l[k]? = some a := ⟨_, List.getElem?_eq_getElem hkl⟩
                have HX : Hid (a.nm.size ≤ 100000) := Lib.hid (by have := HAL.out k a hlt ha; omega)
                have he : (l.map acC)[k]? = some (acC a) := by rw [List.getElem?_map, ha]; rfl
                obtain ⟨b1, o1, rfl, l1, q1⟩ := SlE.at_ hSA (by rw [List.length_map]; omega)
                have y0 : wq.cell? ⟨b1, o1 + k * 4, none⟩ = some (.int .i64 a.d) := (HBq.cell (p := ⟨b1, _, none⟩) l1).trans (q1 k _ he 0 _ rfl)
                have y1 : wq.cell? ⟨b1, o1 + k * 4 + 1, none⟩ = some (.int .i64 a.a) := (HBq.cell (p := ⟨b1, _, none⟩) l1).trans (q1 k _ he 1 _ rfl)
                have y2 : wq.cell? ⟨b1, o1 + k * 4 + 2, none⟩ = some (.int .i64 a.b) := (HBq.cell (p := ⟨b1, _, none⟩) l1).trans (q1 k _ he 2 _ rfl)
                have y3 : wq.cell? ⟨b1, o1 + k * 4 + 3, none⟩ = some (.string a.nm) := (HBq.cell (p := ⟨b1, _, none⟩) l1).trans (q1 k _ he 3 _ rfl)
                have l1P : b1 < wq.heap.size := Nat.lt_of_lt_of_le l1 HBq.size
                obtain ⟨M1, hM1⟩ : ∃ M, q.bs.length = M := ⟨_, rfl⟩
                obtain ⟨M2, hM2⟩ : ∃ M, q.ts.length = M := ⟨_, rfl⟩
                rw [hM1, hM2] at BP SP
                have HM1 := Lib.hid hM1
                have HM2 := Lib.hid hM2
                have HZ : Hid (SzF q) := Lib.hid HF.out.sz
                obtain ⟨T, hRT⟩ : ∃ T, resS q a = T := ⟨_, rfl⟩
                obtain ⟨N1, hN1⟩ : ∃ N, T.bs.length = N := ⟨_, rfl⟩
                obtain ⟨N2, hN2⟩ : ∃ N, T.ts.length = N := ⟨_, rfl⟩
                have HRT := Lib.hid hRT
                have HN1 := Lib.hid hN1
                have HN2 := Lib.hid hN2
                have SX := Lib.hid SP
                have TP := hT0.next HBq
                clear hRT hN1 hN2 hM1 hM2 ha he q1 hkl
                have k0 := BP.cell_ 0
                have k1 := BP.cell_ 1
                have k2 := BP.cell_ 2
                have k3 := BP.cell_ 3
                have k4 := BP.cell_ 4
                simp at k0 k1 k2 k3 k4
                go_upto_region 12 with fail
                have SQ := SP.next (below_dr wq)
                have TQ := TP.next (below_dr wq)
                have SQ2 := SQ.next ((Below.refl _ _).alloc (Nat.le_refl _) (.cells #[.int .i64 0, .int .i64 0, .int .i64 0, .slice none 0 0, .slice none 0 0] 25))
                have TQ2 := TQ.next ((Below.refl _ _).alloc (Nat.le_refl _) (.cells #[.int .i64 0, .int .i64 0, .int .i64 0, .slice none 0 0, .slice none 0 0] 25))
                have hAL : Below wq.heap.size wq (wq.alloc (.cells #[.int .i64 0, .int .i64 0, .int .i64 0, .slice none 0 0, .slice none 0 0] 25)).drew := drew_below ((Below.refl _ _).alloc (Nat.le_refl _) _)
                have SQ3 := SP.next hAL
                have TQ3 := TP.next hAL
                have HZ2 : Below wq.heap.size wq (wq.drew.alloc (.cells #[.int .i64 0, .int .i64 0, .int .i64 0, .slice none 0 0, .slice none 0 0] 25)) := (below_dr wq).alloc (Nat.le_refl _) _
                have BZ2 : Blk (wq.drew.alloc (.cells #[.int .i64 0, .int .i64 0, .int .i64 0, .slice none 0 0, .slice none 0 0] 25)) wq.heap.size 25 #[.int .i64 0, .int .i64 0, .int .i64 0, .slice none 0 0, .slice none 0 0] := Blk.new_ wq.drew 25 #[.int .i64 0, .int .i64 0, .int .i64 0, .slice none 0 0, .slice none 0 0]
                have BZ3 : Blk (wq.alloc (.cells #[.int .i64 0, .int .i64 0, .int .i64 0, .slice none 0 0, .slice none 0 0] 25)).drew wq.heap.size 25 #[.int .i64 0, .int .i64 0, .int .i64 0, .slice none 0 0, .slice none 0 0] := drew_blk (Blk.new_ wq 25 #[.int .i64 0, .int .i64 0, .int .i64 0, .slice none 0 0, .slice none 0 0])
                have QP : wq.cell? ⟨w.heap.size, 0, none⟩ = some (.int .i64 q.nb) ∧ wq.cell? ⟨w.heap.size, 1, none⟩ = some (.int .i64 q.nn) ∧ wq.cell? ⟨w.heap.size, 2, none⟩ = some (.int .i64 q.ns) ∧ wq.cell? ⟨w.heap.size, 3, none⟩ = some (.slice Aq M1 cq) ∧ wq.cell? ⟨w.heap.size, 4, none⟩ = some (.slice Dq M2 eq) ∧ wq.cell? ⟨b1, o1 + k * 4, none⟩ = some (.int .i64 a.d) ∧ wq.cell? ⟨b1, o1 + k * 4 + 1, none⟩ = some (.int .i64 a.a) ∧ wq.cell? ⟨b1, o1 + k * 4 + 2, none⟩ = some (.int .i64 a.b) ∧ wq.cell? ⟨b1, o1 + k * 4 + 3, none⟩ = some (.string a.nm) := ⟨k0, k1, k2, k3, k4, y0, y1, y2, y3⟩
                have QA := keepS_9 QP (below_dr wq) (by exact BP.lt) (by exact BP.lt) (by exact BP.lt) (by exact BP.lt) (by exact BP.lt) (by exact l1P) (by exact l1P) (by exact l1P) (by exact l1P)
                have QB := keepS_9 QA ((Below.refl wq.drew.heap.size wq.drew).alloc (Nat.le_refl _) (.cells #[.int .i64 0, .int .i64 0, .int .i64 0, .slice none 0 0, .slice none 0 0] 25)) (by exact BP.lt) (by exact BP.lt) (by exact BP.lt) (by exact BP.lt) (by exact BP.lt) (by exact l1P) (by exact l1P) (by exact l1P) (by exact l1P)
                have QC_ := keepS_9 QP hAL (by exact BP.lt) (by exact BP.lt) (by exact BP.lt) (by exact BP.lt) (by exact BP.lt) (by exact l1P) (by exact l1P) (by exact l1P) (by exact l1P)
                refine wp_region_noPanic ?_
                refine wp_region_held_drew (S := (fun w_ => w_.cell? ⟨w.heap.size, 0, none⟩ = some (.int .i64 q.nb) ∧ w_.cell? ⟨w.heap.size, 1, none⟩ = some (.int .i64 q.nn) ∧ w_.cell? ⟨w.heap.size, 2, none⟩ = some (.int .i64 q.ns) ∧ w_.cell? ⟨w.heap.size, 3, none⟩ = some (.slice Aq M1 cq) ∧ w_.cell? ⟨w.heap.size, 4, none⟩ = some (.slice Dq M2 eq) ∧ w_.cell? ⟨b1, o1 + k * 4, none⟩ = some (.int .i64 a.d) ∧ w_.cell? ⟨b1, o1 + k * 4 + 1, none⟩ = some (.int .i64 a.a) ∧ w_.cell? ⟨b1, o1 + k * 4 + 2, none⟩ = some (.int .i64 a.b) ∧ w_.cell? ⟨b1, o1 + k * 4 + 3, none⟩ = some (.string a.nm))) (by kernel_rfl) ?_ (fun hHeld => ?_)
                · (first | with_reducible exact QA | with_reducible exact QB | with_reducible exact QC_ | with_reducible exact QD | with_reducible exact QE | with_reducible exact QF | exact QG)
                refine tk 0 ?_; try simp only [Act.put, pz1, pz2, pz3]
                refine tk 1 ?_; try simp only [Act.put, pz1, pz2, pz3]
                refine tk 2 ?_; try simp only [Act.put, pz1, pz2, pz3]
                refine tk 3 ?_; try simp only [Act.put, pz1, pz2, pz3]
                refine tk 4 ?_; try simp only [Act.put, pz1, pz2, pz3]
                refine wpAnyH_ready (rs := [5, 9]) (by kernel_rfl) (by simp) ?_
                refine (AllReadyH.cons (o := ⟨some 51, .call { callee := .value (.func 11), args := #[.tmp 46, .tmp 50], argTypes := #[25, 27] }, 31, "law.go:94", #[⟨0, .data⟩, ⟨4, .data⟩], none⟩) rfl (fun K hK => ?_) (AllReadyH.cons (o := ⟨some 8, .alloc 25, 0, "law.go:94", #[], none⟩) rfl (fun K hK => ?_) AllReadyH.nil))
                · go_simp
                  (go_at_call 11; (first | (with_reducible refine (both_any q _ a _ SQ TQ HZ.out HX.out).mono ?_) | (with_reducible refine (both_any q _ a _ SQ2 TQ2 HZ.out HX.out).mono ?_) | (with_reducible refine (both_any q _ a _ SQ3 TQ3 HZ.out HX.out).mono ?_)); rintro e' w7 ⟨va, rfl, hA, b7⟩; rw [HRT.out] at hA; (obtain ⟨A6, c6, D6, e6, rfl, -⟩ := hA.parts); rw [HN1.out, HN2.out] at hA ⊢; first | ((have QD := keepS_9 QA b7 (by exact BP.lt) (by exact BP.lt) (by exact BP.lt) (by exact BP.lt) (by exact BP.lt) (by exact l1P) (by exact l1P) (by exact l1P) (by exact l1P)); (have QE := keepS_9 QD ((Below.refl w7.heap.size w7).alloc (Nat.le_refl _) (.cells #[.int .i64 0, .int .i64 0, .int .i64 0, .slice none 0 0, .slice none 0 0] 25)) (by exact Nat.lt_of_lt_of_le BP.lt b7.size) (by exact Nat.lt_of_lt_of_le BP.lt b7.size) (by exact Nat.lt_of_lt_of_le BP.lt b7.size) (by exact Nat.lt_of_lt_of_le BP.lt b7.size) (by exact Nat.lt_of_lt_of_le BP.lt b7.size) (by exact Nat.lt_of_lt_of_le l1P b7.size) (by exact Nat.lt_of_lt_of_le l1P b7.size) (by exact Nat.lt_of_lt_of_le l1P b7.size) (by exact Nat.lt_of_lt_of_le l1P b7.size)); (have QF := keepS_9 QD ((Below.refl w7.heap.size w7).alloc (Nat.le_refl _) (.cells #[.int .i64 T.nb, .int .i64 T.nn, .int .i64 T.ns, .slice A6 N1 c6, .slice D6 N2 e6] 25)) (by exact Nat.lt_of_lt_of_le BP.lt b7.size) (by exact Nat.lt_of_lt_of_le BP.lt b7.size) (by exact Nat.lt_of_lt_of_le BP.lt b7.size) (by exact Nat.lt_of_lt_of_le BP.lt b7.size) (by exact Nat.lt_of_lt_of_le BP.lt b7.size) (by exact Nat.lt_of_lt_of_le l1P b7.size) (by exact Nat.lt_of_lt_of_le l1P b7.size) (by exact Nat.lt_of_lt_of_le l1P b7.size) (by exact Nat.lt_of_lt_of_le l1P b7.size))) | ((have QD := keepS_9 QB b7 (by have := BP.lt; simp; omega) (by have := BP.lt; simp; omega) (by have := BP.lt; simp; omega) (by have := BP.lt; simp; omega) (by have := BP.lt; simp; omega) (by have := l1P; simp; omega) (by have := l1P; simp; omega) (by have := l1P; simp; omega) (by have := l1P; simp; omega)); (have B9 := BZ2.below b7 BZ2.lt); (have hb7 := (HZ2.trans (b7.mono HZ2.size))); (have r0 := B9.cell_ 0); (have t0 := B9.free 0); (have r1 := B9.cell_ 1); (have t1 := B9.free 1); (have r2 := B9.cell_ 2); (have t2 := B9.free 2); (have r3 := B9.cell_ 3); (have t3 := B9.free 3); (have r4 := B9.cell_ 4); (have t4 := B9.free 4); simp at r0 r1 r2 r3 r4; (have hbf := st5_below hb7 (Nat.le_refl wq.heap.size) 0 (.int .i64 T.nb) (.int .i64 T.nn) (.int .i64 T.ns) (.slice A6 N1 c6) (.slice D6 N2 e6) hb7.size); (have QG := keepS_9 QP hbf (by exact BP.lt) (by exact BP.lt) (by exact BP.lt) (by exact BP.lt) (by exact BP.lt) (by exact l1P) (by exact l1P) (by exact l1P) (by exact l1P))) | ((have QD := keepS_9 QC_ b7 (by have := BP.lt; simp; omega) (by have := BP.lt; simp; omega) (by have := BP.lt; simp; omega) (by have := BP.lt; simp; omega) (by have := BP.lt; simp; omega) (by have := l1P; simp; omega) (by have := l1P; simp; omega) (by have := l1P; simp; omega) (by have := l1P; simp; omega)); (have B9 := BZ3.below b7 BZ3.lt); (have hb7 := (hAL.trans (b7.mono hAL.size))); (have r0 := B9.cell_ 0); (have t0 := B9.free 0); (have r1 := B9.cell_ 1); (have t1 := B9.free 1); (have r2 := B9.cell_ 2); (have t2 := B9.free 2); (have r3 := B9.cell_ 3); (have t3 := B9.free 3); (have r4 := B9.cell_ 4); (have t4 := B9.free 4); simp at r0 r1 r2 r3 r4; (have hbf := st5_below hb7 (Nat.le_refl wq.heap.size) 0 (.int .i64 T.nb) (.int .i64 T.nn) (.int .i64 T.ns) (.slice A6 N1 c6) (.slice D6 N2 e6) hb7.size); (have QG := keepS_9 QP hbf (by exact BP.lt) (by exact BP.lt) (by exact BP.lt) (by exact BP.lt) (by exact BP.lt) (by exact l1P) (by exact l1P) (by exact l1P) (by exact l1P))))
                  go_wp2_with fail
                  refine hK.out _ _ ?_ (fun hNew => ?_)
                  · (first | with_reducible exact QA | with_reducible exact QB | with_reducible exact QC_ | with_reducible exact QD | with_reducible exact QE | with_reducible exact QF | exact QG)
                  clear hK K hHeld
                  have hHeld := hNew
                  clear hNew
                  try simp only [Act.put, pz1, pz2, pz3]
                  refine tk 6 ?_; try simp only [Act.put, pz1, pz2, pz3]
                  refine tk 7 ?_; try simp only [Act.put, pz1, pz2, pz3]
                  refine tk 8 ?_; try simp only [Act.put, pz1, pz2, pz3]
                  refine wpAnyH_ready (rs := [9]) (by kernel_rfl) (by simp) ?_
                  refine AllReadyH.cons (o := ⟨some 8, .alloc 25, 0, "law.go:94", #[], none⟩) rfl (fun K hK => ?_) AllReadyH.nil
                  go_simp
                  refine hK.out _ _ ?_ (fun hNew => ?_)
                  · (first | with_reducible exact QA | with_reducible exact QB | with_reducible exact QC_ | with_reducible exact QD | with_reducible exact QE | with_reducible exact QF | exact QG)
                  clear hK K hHeld
                  have hHeld := hNew
                  clear hNew
                  try simp only [Act.put, pz1, pz2, pz3]
                  refine wpAnyH_ready (rs := [10]) (by kernel_rfl) (by simp) ?_
                  refine AllReadyH.cons (o := ⟨none, .store 25 (.tmp 8) (.tmp 52), 0, "law.go:94", #[⟨9, .data⟩, ⟨7, .data⟩, ⟨5, .chain⟩, ⟨0, .phase⟩, ⟨1, .phase⟩, ⟨2, .phase⟩, ⟨3, .phase⟩, ⟨4, .phase⟩, ⟨5, .phase⟩, ⟨6, .phase⟩, ⟨7, .phase⟩, { on := 8, ground := Ground.textOnly Departure.lateStores }, ⟨9, .phase⟩], none⟩) rfl (fun K hK => ?_) AllReadyH.nil
                  go_simp
                  refine hK.out _ _ ?_ (fun hNew => ?_)
                  · (first | with_reducible exact QA | with_reducible exact QB | with_reducible exact QC_ | with_reducible exact QD | with_reducible exact QE | with_reducible exact QF | exact QG)
                  clear hK K hHeld
                  have hHeld := hNew
                  clear hNew
                  try simp only [Act.put, pz1, pz2, pz3]
                  refine tk 11 ?_; try simp only [Act.put, pz1, pz2, pz3]
                  refine wpAnyH_done (by kernel_rfl) ?_ _
                  refine NoPanic.normal ?_
                  go_upto_region 13 with fail
                  have B9 : Blk (w7.alloc (.cells #[.int .i64 T.nb, .int .i64 T.nn, .int .i64 T.ns, .slice A6 N1 c6, .slice D6 N2 e6] 25)) w7.heap.size 25 #[.int .i64 T.nb, .int .i64 T.nn, .int .i64 T.ns, .slice A6 N1 c6, .slice D6 N2 e6] := Blk.new_ w7 25 #[.int .i64 T.nb, .int .i64 T.nn, .int .i64 T.ns, .slice A6 N1 c6, .slice D6 N2 e6]
                  have hbf : Below wq.heap.size wq (w7.alloc (.cells #[.int .i64 T.nb, .int .i64 T.nn, .int .i64 T.ns, .slice A6 N1 c6, .slice D6 N2 e6] 25)) := (btr (below_dr wq) (below_dr wq).size b7).alloc (btr (below_dr wq) (below_dr wq).size b7).size _
                  have hA9 := (hA.below ((Below.refl w7.heap.size w7).alloc (Nat.le_refl _) (.cells #[.int .i64 T.nb, .int .i64 T.nn, .int .i64 T.ns, .slice A6 N1 c6, .slice D6 N2 e6] 25))).base_ (B' := wq.heap.size) (Nat.le_refl _)
                  obtain ⟨wf, hwf⟩ : ∃ V : World, V = w7.alloc (.cells #[.int .i64 T.nb, .int .i64 T.nn, .int .i64 T.ns, .slice A6 N1 c6, .slice D6 N2 e6] 25) := ⟨_, rfl⟩
                  obtain ⟨g9, hg9⟩ : ∃ V : Nat, V = w7.heap.size := ⟨_, rfl⟩
                  have hgw : wq.heap.size ≤ g9 := by rw [hg9]; exact (btr (below_dr wq) (below_dr wq).size b7).size
                  rw [← hwf, ← hg9] at B9
                  rw [← hwf] at hbf hA9
                  rw [← hwf, ← hg9]
                  clear hwf hg9 QP QA QB QC_ QD QE QF hHeld b7 hA SQ TQ SQ2 TQ2 SQ3 TQ3 hAL HZ2 BZ2 BZ3
                  have BW := BP.below hbf BP.lt
                  have HBf := btr HBq HBq.size hbf
                  have lgf := B9.lt
                  have hw9 : w.heap.size < wq.heap.size := BP.lt
                  clear k0 k1 k2 k3 k4 y0 y1 y2 y3 SP TP BP
                  have u0 := B9.cell_ 0
                  have u1 := B9.cell_ 1
                  have u2 := B9.cell_ 2
                  have u3 := B9.cell_ 3
                  have u4 := B9.cell_ 4
                  simp at u0 u1 u2 u3 u4
                  rcases res_cases q a with hz | ⟨hz1, hz2⟩
                  · have hnb : (T.nb == 0) = true := by rw [← HRT.out, hz]; rfl
                    have SR := SX.out.next hbf
                    clear hz B9 hA9
                    go_wp2_with fail
                    go_roundw
                    case rel => exact ⟨k + 1, q, rfl, by go_num, by omega, ⟨Aq, cq, Dq, eq, by rw [HM1.out, HM2.out]; exact BW, by rw [HM1.out, HM2.out]; exact SR⟩, HF, HBf, Nat.lt_of_lt_of_le hw9 hbf.size⟩
                    case measure => simp [intOf]; omega
                  · have hnx := act_next HF.out hz1
                    rw [← hz2, HRT.out] at hnx
                    have hn2 : N2 = M2 := by rw [← HN2.out, ← HM2.out]; exact hnx.nt
                    subst hn2
                    have HNX := Lib.hid hnx
                    have HMT : Hid (mayS T = true) := Lib.hid (mayS_conv hnx.may)
                    have hnb : (T.nb == 0) = false := by have := hnx.may.nb.1; simp; omega
                    have hlo : ¬ T.ns < q.ns := by have := hnx.lo; omega
                    have hwr : IntKind.i64.wrap (q.ns + 1) = q.ns + 1 := wrapS _ (by have := HF.out.ns; omega) (by have := HF.out.ns; omega)
                    have hhi : ¬ q.ns + 1 < T.ns := by have := hnx.hi; omega
                    have SA := hA9.toR
                    have TA := hT0.next HBf
                    have v4 := BW.cell_ 4
                    simp at v4
                    clear hz1 hz2 hnx
                    go_upto_region 16 with fail
                    go_upto_region 18 with (go_at_call 17; ((with_reducible refine (smay_any T _ _ SA TA true HMT.out).mono ?_); rintro e' w8 ⟨rfl, bx⟩; (have u0 := (bx.cell (p := ⟨g9, 0, none⟩) lgf).trans u0); (have u2 := (bx.cell (p := ⟨g9, 2, none⟩) lgf).trans u2); (have u4 := (bx.cell (p := ⟨g9, 4, none⟩) lgf).trans u4); (have v4 := (bx.cell (p := ⟨w.heap.size, 4, none⟩) BW.lt).trans v4)))
                    clear v4 u0 u1 u2 u3 u4
                    have BW := BW.below bx BW.lt
                    have B9 := B9.below bx B9.lt
                    have hA9 := hA9.below bx
                    have HBf := btr HBf HBf.size bx
                    have hsz9 := Nat.le_trans hbf.size bx.size
                    obtain ⟨W9, hW9⟩ : ∃ V : World, V = w8 := ⟨_, rfl⟩
                    subst hW9
                    clear bx SA TA
                    have u0 := B9.cell_ 0
                    have u1 := B9.cell_ 1
                    have u2 := B9.cell_ 2
                    have u3 := B9.cell_ 3
                    have u4 := B9.cell_ 4
                    simp at u0 u1 u2 u3 u4
                    have v0 := BW.cell_ 0
                    have fv0 := BW.free 0
                    have v1 := BW.cell_ 1
                    have fv1 := BW.free 1
                    have v2 := BW.cell_ 2
                    have fv2 := BW.free 2
                    have v3 := BW.cell_ 3
                    have fv3 := BW.free 3
                    have v4 := BW.cell_ 4
                    have fv4 := BW.free 4
                    simp at v0 v1 v2 v3 v4
                    have QD : W9.drew.cell? ⟨g9, 0, none⟩ = some (.int .i64 T.nb) ∧ W9.drew.cell? ⟨g9, 1, none⟩ = some (.int .i64 T.nn) ∧ W9.drew.cell? ⟨g9, 2, none⟩ = some (.int .i64 T.ns) ∧ W9.drew.cell? ⟨g9, 3, none⟩ = some (.slice A6 N1 c6) ∧ W9.drew.cell? ⟨g9, 4, none⟩ = some (.slice D6 N2 e6) := ⟨drew_cell u0, drew_cell u1, drew_cell u2, drew_cell u3, drew_cell u4⟩
                    have hgT := st5_grown W9 w.heap.size 0 (.int .i64 T.nb) (.int .i64 T.nn) (.int .i64 T.ns) (.slice A6 N1 c6) (.slice D6 N2 e6)
                    have QT : (World.drew (st5 W9 w.heap.size 0 (.int .i64 T.nb) (.int .i64 T.nn) (.int .i64 T.ns) (.slice A6 N1 c6) (.slice D6 N2 e6))).cell? ⟨g9, 0, none⟩ = some (.int .i64 T.nb) ∧ (World.drew (st5 W9 w.heap.size 0 (.int .i64 T.nb) (.int .i64 T.nn) (.int .i64 T.ns) (.slice A6 N1 c6) (.slice D6 N2 e6))).cell? ⟨g9, 1, none⟩ = some (.int .i64 T.nn) ∧ (World.drew (st5 W9 w.heap.size 0 (.int .i64 T.nb) (.int .i64 T.nn) (.int .i64 T.ns) (.slice A6 N1 c6) (.slice D6 N2 e6))).cell? ⟨g9, 2, none⟩ = some (.int .i64 T.ns) ∧ (World.drew (st5 W9 w.heap.size 0 (.int .i64 T.nb) (.int .i64 T.nn) (.int .i64 T.ns) (.slice A6 N1 c6) (.slice D6 N2 e6))).cell? ⟨g9, 3, none⟩ = some (.slice A6 N1 c6) ∧ (World.drew (st5 W9 w.heap.size 0 (.int .i64 T.nb) (.int .i64 T.nn) (.int .i64 T.ns) (.slice A6 N1 c6) (.slice D6 N2 e6))).cell? ⟨g9, 4, none⟩ = some (.slice D6 N2 e6) := by
                      have h := drew_blk (B9.grown hgT (by omega))
                      exact ⟨h.cell_ 0, h.cell_ 1, h.cell_ 2, h.cell_ 3, h.cell_ 4⟩
                    refine wp_region_noPanic ?_
                    refine wp_region_held_drew (S := (fun w_ => w_.cell? ⟨g9, 0, none⟩ = some (.int .i64 T.nb) ∧ w_.cell? ⟨g9, 1, none⟩ = some (.int .i64 T.nn) ∧ w_.cell? ⟨g9, 2, none⟩ = some (.int .i64 T.ns) ∧ w_.cell? ⟨g9, 3, none⟩ = some (.slice A6 N1 c6) ∧ w_.cell? ⟨g9, 4, none⟩ = some (.slice D6 N2 e6))) (by kernel_rfl) ?_ (fun hHeld => ?_)
                    · (first | with_reducible exact QD | exact QT)
                    refine tk 0 ?_; try simp only [Act.put, pz1, pz2, pz3]
                    refine tk 1 ?_; try simp only [Act.put, pz1, pz2, pz3]
                    refine tk 2 ?_; try simp only [Act.put, pz1, pz2, pz3]
                    refine wpAnyH_ready (rs := [3]) (by kernel_rfl) (by simp) ?_
                    refine AllReadyH.cons (o := ⟨none, .store 25 (.tmp 2) (.tmp 84), 0, "law.go:104", #[⟨0, .data⟩, ⟨0, .phase⟩, { on := 1, ground := Ground.textOnly Departure.lateStores }, { on := 2, ground := Ground.textOnly Departure.lateStores }], none⟩) rfl (fun K hK => ?_) AllReadyH.nil
                    go_simp
                    refine hK.out _ _ ?_ (fun hNew => ?_)
                    · (first | with_reducible exact QD | exact QT)
                    clear hK K hHeld
                    have hHeld := hNew
                    clear hNew
                    try simp only [Act.put, pz1, pz2, pz3]
                    refine tk 4 ?_; try simp only [Act.put, pz1, pz2, pz3]
                    refine wpAnyH_done (by kernel_rfl) ?_ _
                    refine NoPanic.normal ?_
                    have BE := drew_blk (BW.st5_ (.int .i64 T.nb) (.int .i64 T.nn) (.int .i64 T.ns) (.slice A6 N1 c6) (.slice D6 N2 e6))
                    have hAE := (hA9.far hgT hw9).below (below_dr _)
                    have HBE := btr (below_grown HBf hgT (Nat.le_refl _) HBf.size) (below_grown HBf hgT (Nat.le_refl _) HBf.size).size (below_dr _)
                    have hsE := hgT.size
                    go_wp2_with fail
                    go_roundw
                    case rel => exact ⟨k + 1, T, rfl, by go_num, by omega, ⟨A6, c6, D6, e6, by rw [HN1.out, HN2.out]; exact BE, by rw [HN1.out, HN2.out]; exact hAE.toR⟩, Lib.hid HNX.out.may, HBE, Nat.lt_of_lt_of_le hw9 (Nat.le_trans hsz9 hsE)⟩
                    case measure => simp [intOf]; omega
                · go_simp
                  refine hK.out _ _ ?_ (fun hNew => ?_)
                  · (first | with_reducible exact QA | with_reducible exact QB | with_reducible exact QC_ | with_reducible exact QD | with_reducible exact QE | with_reducible exact QF | exact QG)
                  clear hK K hHeld
                  have hHeld := hNew
                  clear hNew
                  try simp only [Act.put, pz1, pz2, pz3]
                  refine wpAnyH_ready (rs := [5]) (by kernel_rfl) (by simp) ?_
                  refine AllReadyH.cons (o := ⟨some 51, .call { callee := .value (.func 11), args := #[.tmp 46, .tmp 50], argTypes := #[25, 27] }, 31, "law.go:94", #[⟨0, .data⟩, ⟨4, .data⟩], none⟩) rfl (fun K hK => ?_) AllReadyH.nil
                  go_simp
                  (go_at_call 11; (first | (with_reducible refine (both_any q _ a _ SQ TQ HZ.out HX.out).mono ?_) | (with_reducible refine (both_any q _ a _ SQ2 TQ2 HZ.out HX.out).mono ?_) | (with_reducible refine (both_any q _ a _ SQ3 TQ3 HZ.out HX.out).mono ?_)); rintro e' w7 ⟨va, rfl, hA, b7⟩; rw [HRT.out] at hA; (obtain ⟨A6, c6, D6, e6, rfl, -⟩ := hA.parts); rw [HN1.out, HN2.out] at hA ⊢; first | ((have QD := keepS_9 QA b7 (by exact BP.lt) (by exact BP.lt) (by exact BP.lt) (by exact BP.lt) (by exact BP.lt) (by exact l1P) (by exact l1P) (by exact l1P) (by exact l1P)); (have QE := keepS_9 QD ((Below.refl w7.heap.size w7).alloc (Nat.le_refl _) (.cells #[.int .i64 0, .int .i64 0, .int .i64 0, .slice none 0 0, .slice none 0 0] 25)) (by exact Nat.lt_of_lt_of_le BP.lt b7.size) (by exact Nat.lt_of_lt_of_le BP.lt b7.size) (by exact Nat.lt_of_lt_of_le BP.lt b7.size) (by exact Nat.lt_of_lt_of_le BP.lt b7.size) (by exact Nat.lt_of_lt_of_le BP.lt b7.size) (by exact Nat.lt_of_lt_of_le l1P b7.size) (by exact Nat.lt_of_lt_of_le l1P b7.size) (by exact Nat.lt_of_lt_of_le l1P b7.size) (by exact Nat.lt_of_lt_of_le l1P b7.size)); (have QF := keepS_9 QD ((Below.refl w7.heap.size w7).alloc (Nat.le_refl _) (.cells #[.int .i64 T.nb, .int .i64 T.nn, .int .i64 T.ns, .slice A6 N1 c6, .slice D6 N2 e6] 25)) (by exact Nat.lt_of_lt_of_le BP.lt b7.size) (by exact Nat.lt_of_lt_of_le BP.lt b7.size) (by exact Nat.lt_of_lt_of_le BP.lt b7.size) (by exact Nat.lt_of_lt_of_le BP.lt b7.size) (by exact Nat.lt_of_lt_of_le BP.lt b7.size) (by exact Nat.lt_of_lt_of_le l1P b7.size) (by exact Nat.lt_of_lt_of_le l1P b7.size) (by exact Nat.lt_of_lt_of_le l1P b7.size) (by exact Nat.lt_of_lt_of_le l1P b7.size))) | ((have QD := keepS_9 QB b7 (by have := BP.lt; simp; omega) (by have := BP.lt; simp; omega) (by have := BP.lt; simp; omega) (by have := BP.lt; simp; omega) (by have := BP.lt; simp; omega) (by have := l1P; simp; omega) (by have := l1P; simp; omega) (by have := l1P; simp; omega) (by have := l1P; simp; omega)); (have B9 := BZ2.below b7 BZ2.lt); (have hb7 := (HZ2.trans (b7.mono HZ2.size))); (have r0 := B9.cell_ 0); (have t0 := B9.free 0); (have r1 := B9.cell_ 1); (have t1 := B9.free 1); (have r2 := B9.cell_ 2); (have t2 := B9.free 2); (have r3 := B9.cell_ 3); (have t3 := B9.free 3); (have r4 := B9.cell_ 4); (have t4 := B9.free 4); simp at r0 r1 r2 r3 r4; (have hbf := st5_below hb7 (Nat.le_refl wq.heap.size) 0 (.int .i64 T.nb) (.int .i64 T.nn) (.int .i64 T.ns) (.slice A6 N1 c6) (.slice D6 N2 e6) hb7.size); (have QG := keepS_9 QP hbf (by exact BP.lt) (by exact BP.lt) (by exact BP.lt) (by exact BP.lt) (by exact BP.lt) (by exact l1P) (by exact l1P) (by exact l1P) (by exact l1P))) | ((have QD := keepS_9 QC_ b7 (by have := BP.lt; simp; omega) (by have := BP.lt; simp; omega) (by have := BP.lt; simp; omega) (by have := BP.lt; simp; omega) (by have := BP.lt; simp; omega) (by have := l1P; simp; omega) (by have := l1P; simp; omega) (by have := l1P; simp; omega) (by have := l1P; simp; omega)); (have B9 := BZ3.below b7 BZ3.lt); (have hb7 := (hAL.trans (b7.mono hAL.size))); (have r0 := B9.cell_ 0); (have t0 := B9.free 0); (have r1 := B9.cell_ 1); (have t1 := B9.free 1); (have r2 := B9.cell_ 2); (have t2 := B9.free 2); (have r3 := B9.cell_ 3); (have t3 := B9.free 3); (have r4 := B9.cell_ 4); (have t4 := B9.free 4); simp at r0 r1 r2 r3 r4; (have hbf := st5_below hb7 (Nat.le_refl wq.heap.size) 0 (.int .i64 T.nb) (.int .i64 T.nn) (.int .i64 T.ns) (.slice A6 N1 c6) (.slice D6 N2 e6) hb7.size); (have QG := keepS_9 QP hbf (by exact BP.lt) (by exact BP.lt) (by exact BP.lt) (by exact BP.lt) (by exact BP.lt) (by exact l1P) (by exact l1P) (by exact l1P) (by exact l1P))))
                  go_wp2_with fail
                  refine hK.out _ _ ?_ (fun hNew => ?_)
                  · (first | with_reducible exact QA | with_reducible exact QB | with_reducible exact QC_ | with_reducible exact QD | with_reducible exact QE | with_reducible exact QF | exact QG)
                  clear hK K hHeld
                  have hHeld := hNew
                  clear hNew
                  try simp only [Act.put, pz1, pz2, pz3]
                  refine tk 6 ?_; try simp only [Act.put, pz1, pz2, pz3]
                  refine tk 7 ?_; try simp only [Act.put, pz1, pz2, pz3]
                  refine tk 8 ?_; try simp only [Act.put, pz1, pz2, pz3]
                  refine wpAnyH_ready (rs := [10]) (by kernel_rfl) (by simp) ?_
                  refine AllReadyH.cons (o := ⟨none, .store 25 (.tmp 8) (.tmp 52), 0, "law.go:94", #[⟨9, .data⟩, ⟨7, .data⟩, ⟨5, .chain⟩, ⟨0, .phase⟩, ⟨1, .phase⟩, ⟨2, .phase⟩, ⟨3, .phase⟩, ⟨4, .phase⟩, ⟨5, .phase⟩, ⟨6, .phase⟩, ⟨7, .phase⟩, { on := 8, ground := Ground.textOnly Departure.lateStores }, ⟨9, .phase⟩], none⟩) rfl (fun K hK => ?_) AllReadyH.nil
                  go_simp
                  refine hK.out _ _ ?_ (fun hNew => ?_)
                  · (first | with_reducible exact QA | with_reducible exact QB | with_reducible exact QC_ | with_reducible exact QD | with_reducible exact QE | with_reducible exact QF | exact QG)
                  clear hK K hHeld
                  have hHeld := hNew
                  clear hNew
                  try simp only [Act.put, pz1, pz2, pz3]
                  refine tk 11 ?_; try simp only [Act.put, pz1, pz2, pz3]
                  refine wpAnyH_done (by kernel_rfl) ?_ _
                  refine NoPanic.normal ?_
                  go_upto_region 13 with fail
                  have B9f := B9.st5_ (.int .i64 T.nb) (.int .i64 T.nn) (.int .i64 T.ns) (.slice A6 N1 c6) (.slice D6 N2 e6)
                  clear B9
                  have B9 := B9f
                  have hgE := st5_grown w7 wq.heap.size 0 (.int .i64 T.nb) (.int .i64 T.nn) (.int .i64 T.ns) (.slice A6 N1 c6) (.slice D6 N2 e6)
                  have hA9 := (hA.far hgE (by simp)).base_ (B' := wq.heap.size) (by simp)
                  clear hgE
                  change Code.wp _ _ _ _ (st5 w7 wq.heap.size 0 (.int .i64 T.nb) (.int .i64 T.nn) (.int .i64 T.ns) (.slice A6 N1 c6) (.slice D6 N2 e6))
                  obtain ⟨wf, hwf⟩ : ∃ V : World, V = st5 w7 wq.heap.size 0 (.int .i64 T.nb) (.int .i64 T.nn) (.int .i64 T.ns) (.slice A6 N1 c6) (.slice D6 N2 e6) := ⟨_, rfl⟩
                  rw [← hwf] at B9 hbf hA9 ⊢
                  obtain ⟨g9, hg9⟩ : ∃ V : Nat, V = wq.heap.size := ⟨_, rfl⟩
                  have hgw : wq.heap.size ≤ g9 := by rw [hg9]; exact Nat.le_refl _
                  rw [← hg9] at B9 ⊢
                  clear hwf hg9 B9f QP QA QB QC_ QD QG hHeld b7 hA SQ TQ SQ2 TQ2 SQ3 TQ3 hAL HZ2 BZ2 BZ3 hb7 r0 r1 r2 r3 r4 t0 t1 t2 t3 t4
                  have BW := BP.below hbf BP.lt
                  have HBf := btr HBq HBq.size hbf
                  have lgf := B9.lt
                  have hw9 : w.heap.size < wq.heap.size := BP.lt
                  clear k0 k1 k2 k3 k4 y0 y1 y2 y3 SP TP BP
                  have u0 := B9.cell_ 0
                  have u1 := B9.cell_ 1
                  have u2 := B9.cell_ 2
                  have u3 := B9.cell_ 3
                  have u4 := B9.cell_ 4
                  simp at u0 u1 u2 u3 u4
                  rcases res_cases q a with hz | ⟨hz1, hz2⟩
                  · have hnb : (T.nb == 0) = true := by rw [← HRT.out, hz]; rfl
                    have SR := SX.out.next hbf
                    clear hz B9 hA9
                    go_wp2_with fail
                    go_roundw
                    case rel => exact ⟨k + 1, q, rfl, by go_num, by omega, ⟨Aq, cq, Dq, eq, by rw [HM1.out, HM2.out]; exact BW, by rw [HM1.out, HM2.out]; exact SR⟩, HF, HBf, Nat.lt_of_lt_of_le hw9 hbf.size⟩
                    case measure => simp [intOf]; omega
                  · have hnx := act_next HF.out hz1
                    rw [← hz2, HRT.out] at hnx
                    have hn2 : N2 = M2 := by rw [← HN2.out, ← HM2.out]; exact hnx.nt
                    subst hn2
                    have HNX := Lib.hid hnx
                    have HMT : Hid (mayS T = true) := Lib.hid (mayS_conv hnx.may)
                    have hnb : (T.nb == 0) = false := by have := hnx.may.nb.1; simp; omega
                    have hlo : ¬ T.ns < q.ns := by have := hnx.lo; omega
                    have hwr : IntKind.i64.wrap (q.ns + 1) = q.ns + 1 := wrapS _ (by have := HF.out.ns; omega) (by have := HF.out.ns; omega)
                    have hhi : ¬ q.ns + 1 < T.ns := by have := hnx.hi; omega
                    have SA := hA9.toR
                    have TA := hT0.next HBf
                    have v4 := BW.cell_ 4
                    simp at v4
                    clear hz1 hz2 hnx
                    go_upto_region 16 with fail
                    go_upto_region 18 with (go_at_call 17; ((with_reducible refine (smay_any T _ _ SA TA true HMT.out).mono ?_); rintro e' w8 ⟨rfl, bx⟩; (have u0 := (bx.cell (p := ⟨g9, 0, none⟩) lgf).trans u0); (have u2 := (bx.cell (p := ⟨g9, 2, none⟩) lgf).trans u2); (have u4 := (bx.cell (p := ⟨g9, 4, none⟩) lgf).trans u4); (have v4 := (bx.cell (p := ⟨w.heap.size, 4, none⟩) BW.lt).trans v4)))
                    clear v4 u0 u1 u2 u3 u4
                    have BW := BW.below bx BW.lt
                    have B9 := B9.below bx B9.lt
                    have hA9 := hA9.below bx
                    have HBf := btr HBf HBf.size bx
                    have hsz9 := Nat.le_trans hbf.size bx.size
                    obtain ⟨W9, hW9⟩ : ∃ V : World, V = w8 := ⟨_, rfl⟩
                    subst hW9
                    clear bx SA TA
                    have u0 := B9.cell_ 0
                    have u1 := B9.cell_ 1
                    have u2 := B9.cell_ 2
                    have u3 := B9.cell_ 3
                    have u4 := B9.cell_ 4
                    simp at u0 u1 u2 u3 u4
                    have v0 := BW.cell_ 0
                    have fv0 := BW.free 0
                    have v1 := BW.cell_ 1
                    have fv1 := BW.free 1
                    have v2 := BW.cell_ 2
                    have fv2 := BW.free 2
                    have v3 := BW.cell_ 3
                    have fv3 := BW.free 3
                    have v4 := BW.cell_ 4
                    have fv4 := BW.free 4
                    simp at v0 v1 v2 v3 v4
                    have QD : W9.drew.cell? ⟨g9, 0, none⟩ = some (.int .i64 T.nb) ∧ W9.drew.cell? ⟨g9, 1, none⟩ = some (.int .i64 T.nn) ∧ W9.drew.cell? ⟨g9, 2, none⟩ = some (.int .i64 T.ns) ∧ W9.drew.cell? ⟨g9, 3, none⟩ = some (.slice A6 N1 c6) ∧ W9.drew.cell? ⟨g9, 4, none⟩ = some (.slice D6 N2 e6) := ⟨drew_cell u0, drew_cell u1, drew_cell u2, drew_cell u3, drew_cell u4⟩
                    have hgT := st5_grown W9 w.heap.size 0 (.int .i64 T.nb) (.int .i64 T.nn) (.int .i64 T.ns) (.slice A6 N1 c6) (.slice D6 N2 e6)
                    have QT : (World.drew (st5 W9 w.heap.size 0 (.int .i64 T.nb) (.int .i64 T.nn) (.int .i64 T.ns) (.slice A6 N1 c6) (.slice D6 N2 e6))).cell? ⟨g9, 0, none⟩ = some (.int .i64 T.nb) ∧ (World.drew (st5 W9 w.heap.size 0 (.int .i64 T.nb) (.int .i64 T.nn) (.int .i64 T.ns) (.slice A6 N1 c6) (.slice D6 N2 e6))).cell? ⟨g9, 1, none⟩ = some (.int .i64 T.nn) ∧ (World.drew (st5 W9 w.heap.size 0 (.int .i64 T.nb) (.int .i64 T.nn) (.int .i64 T.ns) (.slice A6 N1 c6) (.slice D6 N2 e6))).cell? ⟨g9, 2, none⟩ = some (.int .i64 T.ns) ∧ (World.drew (st5 W9 w.heap.size 0 (.int .i64 T.nb) (.int .i64 T.nn) (.int .i64 T.ns) (.slice A6 N1 c6) (.slice D6 N2 e6))).cell? ⟨g9, 3, none⟩ = some (.slice A6 N1 c6) ∧ (World.drew (st5 W9 w.heap.size 0 (.int .i64 T.nb) (.int .i64 T.nn) (.int .i64 T.ns) (.slice A6 N1 c6) (.slice D6 N2 e6))).cell? ⟨g9, 4, none⟩ = some (.slice D6 N2 e6) := by
                      have h := drew_blk (B9.grown hgT (by omega))
                      exact ⟨h.cell_ 0, h.cell_ 1, h.cell_ 2, h.cell_ 3, h.cell_ 4⟩
                    refine wp_region_noPanic ?_
                    refine wp_region_held_drew (S := (fun w_ => w_.cell? ⟨g9, 0, none⟩ = some (.int .i64 T.nb) ∧ w_.cell? ⟨g9, 1, none⟩ = some (.int .i64 T.nn) ∧ w_.cell? ⟨g9, 2, none⟩ = some (.int .i64 T.ns) ∧ w_.cell? ⟨g9, 3, none⟩ = some (.slice A6 N1 c6) ∧ w_.cell? ⟨g9, 4, none⟩ = some (.slice D6 N2 e6))) (by kernel_rfl) ?_ (fun hHeld => ?_)
                    · (first | with_reducible exact QD | exact QT)
                    refine tk 0 ?_; try simp only [Act.put, pz1, pz2, pz3]
                    refine tk 1 ?_; try simp only [Act.put, pz1, pz2, pz3]
                    refine tk 2 ?_; try simp only [Act.put, pz1, pz2, pz3]
                    refine wpAnyH_ready (rs := [3]) (by kernel_rfl) (by simp) ?_
                    refine AllReadyH.cons (o := ⟨none, .store 25 (.tmp 2) (.tmp 84), 0, "law.go:104", #[⟨0, .data⟩, ⟨0, .phase⟩, { on := 1, ground := Ground.textOnly Departure.lateStores }, { on := 2, ground := Ground.textOnly Departure.lateStores }], none⟩) rfl (fun K hK => ?_) AllReadyH.nil
                    go_simp
                    refine hK.out _ _ ?_ (fun hNew => ?_)
                    · (first | with_reducible exact QD | exact QT)
                    clear hK K hHeld
                    have hHeld := hNew
                    clear hNew
                    try simp only [Act.put, pz1, pz2, pz3]
                    refine tk 4 ?_; try simp only [Act.put, pz1, pz2, pz3]
                    refine wpAnyH_done (by kernel_rfl) ?_ _
                    refine NoPanic.normal ?_
                    have BE := drew_blk (BW.st5_ (.int .i64 T.nb) (.int .i64 T.nn) (.int .i64 T.ns) (.slice A6 N1 c6) (.slice D6 N2 e6))
                    have hAE := (hA9.far hgT hw9).below (below_dr _)
                    have HBE := btr (below_grown HBf hgT (Nat.le_refl _) HBf.size) (below_grown HBf hgT (Nat.le_refl _) HBf.size).size (below_dr _)
                    have hsE := hgT.size
                    go_wp2_with fail
                    go_roundw
                    case rel => exact ⟨k + 1, T, rfl, by go_num, by omega, ⟨A6, c6, D6, e6, by rw [HN1.out, HN2.out]; exact BE, by rw [HN1.out, HN2.out]; exact hAE.toR⟩, Lib.hid HNX.out.may, HBE, Nat.lt_of_lt_of_le hw9 (Nat.le_trans hsz9 hsE)⟩
                    case measure => simp [intOf]; omega
              · have T1 := hT0.next HBq
                have HB := HBq
                have i1 : ¬ (k : Int) < (n : Int) := by omega
                clear BP SP hlt
                go_wp2_with (go_at_call 9; ((with_reducible refine (awake_any _ T1).mono ?_); rintro e' wA ⟨rfl, bA⟩; have HB := btr HB HB.size bA))
                go_ret
                exact ⟨rfl, HB⟩
  · skip
    go_enter Tryd.func4, Tryd.ntmps4
    go_wp2_with (first | (go_at_call 8; ((with_reducible refine (greatShelf_any s _ _ S1 _ HG.out).mono ?_); rintro e' w2 ⟨rfl, bx⟩; have B1 := B1.below bx B1.lt; have S1 := S1.next bx; have T1 := T1.next bx; have HB := btr HB HB.size bx; (try clear k0 k1 k2 k3 k4); have k0 := B1.cell_ 0; have k1 := B1.cell_ 1; have k2 := B1.cell_ 2; have k3 := B1.cell_ 3; have k4 := B1.cell_ 4; simp at k0 k1 k2 k3 k4; clear bx)) | (go_at_call 9; ((with_reducible refine (awake_any _ T1).mono ?_); rintro e' wA ⟨rfl, bA⟩; have HB := btr HB HB.size bA)))
    go_ret
    exact ⟨rfl, HB⟩
end Go.Proofs.YtkaoechjekffmaaDoor
namespace Go.Proofs.YtkaoechjekffmaaDoor
open Go.ChangeShapes Go.WideShapes Go.ChangeAt Go.RowKit
theorem acc_eq : Rows.laid_unicode_utf8_acceptRanges = Lib.acceptData := by kernel_rfl
theorem first_eq : Rows.laid_unicode_utf8_first = Lib.firstData := Pinned.utf8First_eq
def laidTabs : List (String × DataW Unit) := [("unicode/utf8.acceptRanges", Lib.acceptData), ("unicode/utf8.first", Lib.firstData)]
theorem laid_eq : [("unicode/utf8.acceptRanges", Rows.laid_unicode_utf8_acceptRanges), ("unicode/utf8.first", Rows.laid_unicode_utf8_first)] = laidTabs := by rw [acc_eq, first_eq]; rfl
noncomputable def laidWorld (os : Os) : World :=
  let w0 := World.holding Tryd.prog os ⟨#[], #[], []⟩
  let put (h : Array Obj) (g : Nat) (cs : Array Value) : Array Obj := h.modify g fun
    | .cells _ t frozen => .cells cs t frozen
    | o => o
  let h1 := put w0.heap 0 (Lib.firstTab.map fun z => Value.int .u8 z).toArray
  let h2 := put h1 1 ((List.range 16).flatMap fun i => [Value.int .u8 (Lib.accLo i), Value.int .u8 (Lib.accHi i)]).toArray
  { w0 with heap := h2 }
theorem noHandle (w : World) : laidMetH Tryd.prog laidTabs w ↔ laidMet Tryd.prog laidTabs w := by
  have e : (laidTabs.filter fun x => x.2.handleName?.isSome) = [] := by kernel_rfl
  unfold laidMetH
  rw [e]
theorem laid_met (os : Os) (args : Array Value) : laidMetH Tryd.prog [("unicode/utf8.acceptRanges", Rows.laid_unicode_utf8_acceptRanges), ("unicode/utf8.first", Rows.laid_unicode_utf8_first)] ((laidWorld os).forCall (fun _ _ => 0) ⟨#[], args, []⟩).memory := by
  rw [laid_eq, noHandle]
  exact (LaidIn.of_run (l := laidTabs) [0, 1] 8 (by kernel_rfl) (by kernel_rfl) (by kernel_rfl) (by kernel_rfl)).met
theorem tabs_of {W : World} (h : laidMetH Tryd.prog [("unicode/utf8.acceptRanges", Rows.laid_unicode_utf8_acceptRanges), ("unicode/utf8.first", Rows.laid_unicode_utf8_first)] W) : Tabs W := by
  rw [laid_eq, noHandle] at h
  exact utf8Tabs_of_readsT (U8Types.of196 Tryd.laysValid) ⟨by kernel_rfl, by kernel_rfl, by kernel_rfl, by kernel_rfl, by kernel_rfl, by kernel_rfl, by kernel_rfl⟩ (Lib.laidMet.reads h (.tail _ (.head _))) (Lib.laidMet.reads h (.head _))
end Go.Proofs.YtkaoechjekffmaaDoor
