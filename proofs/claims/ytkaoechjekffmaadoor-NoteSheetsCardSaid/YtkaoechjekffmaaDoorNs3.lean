/- slices.BinarySearch and slices.Insert on tags; Tag. -/
import Derived.Test.YtkaoechjekffmaaDoorNs2
import Derived.Shelf.Spec.SearchS
import Derived.Shelf.Spec.SlicesInsert
import Derived.Shelf.Spec.SlicesInsertGrow
import Derived.Test.YtkaoechjekffmaaDoorNs1
import Derived.Test.YtkaoechjekffmaaDoorRows
import Derived.SevenTiedAt
import Derived.LaidHandle
import Derived.Lib.LaidIn
import Derived.Lib.LaidU8T
import Derived.PinnedBridge
import Derived.ChangeMaps5
set_option linter.unusedSimpArgs false
set_option linter.unusedVariables false
set_option maxRecDepth 100000
set_option maxHeartbeats 16000000
namespace Go.Proofs.YtkaoechjekffmaaDoor
open Go.ChangeShapes Go.WideShapes Go.ChangeAt Go.RowKit
attribute [local go_sem ↓] Go.wp_at_zero Go.wp_at_succ
theorem tgPos_spec : ∀ (l : List ByteArray) (x : ByteArray), (∀ (j : Nat) (y : ByteArray), j < tgPos l x → l[j]? = some y → lessS y x = true) ∧ (∀ y, l[tgPos l x]? = some y → lessS y x = false)
  | [], _ => ⟨fun j y _ h => by simp at h, fun y h => by simp at h⟩
  | z :: l, x => by
    have ih := tgPos_spec l x
    unfold tgPos
    by_cases hz : lessS z x = true
    · rw [if_pos hz]
      refine ⟨fun j y hj h => ?_, fun y h => ih.2 y (by simpa using h)⟩
      cases j with
      | zero => simp at h; rw [← h]; exact hz
      | succ j => exact ih.1 j y (by omega) (by simpa using h)
    · rw [if_neg hz]
      refine ⟨fun j y hj h => absurd hj (Nat.not_lt_zero _), fun y h => ?_⟩
      simp at h
      rw [← h]
      simpa using hz
theorem tgPos_hi {l : List ByteArray} (hp : l.Pairwise fun a b => lessS a b = true) (x : ByteArray) (j : Nat) (y : ByteArray) (hj : tgPos l x ≤ j) (h : l[j]? = some y) : lessS y x = false := by
  rcases Nat.eq_or_lt_of_le hj with e | hlt
  · exact (tgPos_spec l x).2 y (by rw [e]; exact h)
  · have hjl := (List.getElem?_eq_some_iff.1 h).1
    have hkl : tgPos l x < l.length := by omega
    have h1 := (tgPos_spec l x).2 _ (List.getElem?_eq_getElem hkl)
    cases h2 : lessS y x
    · rfl
    · have h3 := List.pairwise_iff_getElem.1 hp (tgPos l x) j hkl hjl hlt
      rw [(List.getElem?_eq_some_iff.1 h).2] at h3
      rw [lessS_trans h3 h2] at h1
      cases h1
theorem tg_there {l : List ByteArray} (hp : l.Pairwise fun a b => lessS a b = true) (x : ByteArray) : hasT l x = true ↔ l[tgPos l x]? = some x := by
  rw [hasT_iff]
  constructor
  · intro hx
    obtain ⟨j, hj, he⟩ := List.mem_iff_getElem.1 hx
    have hjx : l[j]? = some x := by rw [List.getElem?_eq_getElem hj, he]
    have h1 : tgPos l x ≤ j := by
      rcases Nat.lt_or_ge j (tgPos l x) with h | h
      · have := (tgPos_spec l x).1 j x h hjx
        rw [lessS_irr] at this
        cases this
      · exact h
    rcases Nat.eq_or_lt_of_le h1 with e | hlt
    · rw [e]
      exact hjx
    · have hkl : tgPos l x < l.length := by omega
      have h2 := (tgPos_spec l x).2 _ (List.getElem?_eq_getElem hkl)
      have h3 := List.pairwise_iff_getElem.1 hp (tgPos l x) j hkl hj hlt
      rw [he] at h3
      rw [h3] at h2
      cases h2
  · intro h
    exact List.mem_of_getElem? h
theorem bsStr (l : List ByteArray) (L : Nat) (A : Option Addr) (c : Nat) (x : ByteArray) (w : World) (hL : l.length = L) (hS : Sl w w.heap.size A (l.map strV)) (h4 : L ≤ 100000) (hp : l.Pairwise fun a b => lessS a b = true) :
    Calls Tryd.prog 45 #[.slice A L c, .string x] w fun e' w' => e' = .returned (.tuple #[.int .i64 (tgPos l x : Int), .bool (hasT l x)]) ∧ Below w.heap.size w w' := by
  by_cases h0 : L = 0
  · subst h0
    have : l = [] := List.length_eq_zero_iff.1 hL
    subst this
    refine (show Calls Tryd.prog 45 _ w _ from Any2.slices_BinarySearch_string_empty Tryd.laysSearch A c x w).mono ?_
    rintro e' w' ⟨rfl, rfl⟩
    exact ⟨rfl, Below.refl _ _⟩
  · obtain ⟨b, o, rfl, _, hq⟩ := hS.at_ (by rw [List.length_map]; omega)
    have hx : ∀ j (hj : j < l.length), (l[j]?).getD x = l[j] := fun j hj => by rw [List.getElem?_eq_getElem hj]; rfl
    have h := Any2.slices_BinarySearch_string Tryd.laysSearch b o L c (fun j => (l[j]?).getD x) x w (by omega) (fun j hj => by
      have hjl : j < l.length := by omega
      show w.cell? _ = some (.string ((l[j]?).getD x))
      rw [hx j hjl]
      exact hq j _ (by rw [List.getElem?_map, List.getElem?_eq_getElem hjl]; rfl))
    have hle := tgPos_le l x
    have hbs : Lib.bsGo (fun t => Op.bytesLess ((l[t]?).getD x).toList x.toList) L 0 L = tgPos l x := by
      refine Lib.bsGo_spec _ (tgPos l x) (fun t ht => ?_) (fun t ht => ?_) L 0 L (by omega) (Nat.zero_le _) (by omega)
      · have htl : t < l.length := by omega
        rw [hx t htl]
        exact (tgPos_spec l x).1 t _ ht (List.getElem?_eq_getElem htl)
      · rcases Nat.lt_or_ge t l.length with htl | htl
        · rw [hx t htl]
          exact tgPos_hi hp x t _ ht (List.getElem?_eq_getElem htl)
        · rw [List.getElem?_eq_none htl]
          exact lessS_irr x
    rw [hbs] at h
    have hb : decide (tgPos l x < L ∧ (l[tgPos l x]?).getD x = x) = hasT l x := by
      cases ht : hasT l x
      · rw [decide_eq_false_iff_not]
        rintro ⟨h1, h2⟩
        rw [hx _ (by omega)] at h2
        have : hasT l x = true := (tg_there hp x).2 (by rw [List.getElem?_eq_getElem (by omega), h2])
        rw [ht] at this
        cases this
      · rw [decide_eq_true_eq]
        have h1 := (tg_there hp x).1 ht
        exact ⟨by rw [← hL]; exact (List.getElem?_eq_some_iff.1 h1).1, by rw [h1]; rfl⟩
    rw [hb] at h
    refine (show Calls Tryd.prog 45 _ w _ from h).mono ?_
    rintro e' w' ⟨rfl, q, rfl⟩
    exact ⟨rfl, below_dn (Below.refl _ _) q⟩
theorem cells_set (g : Nat) (e : TypeId) (fr : Nat × Nat) : ∀ (vs : List Value) (o : Nat) (w : World) (cur : Array Value), w.heap[g]? = some (.cells cur e fr) → ∃ cur', (w.setCells g o vs).heap[g]? = some (.cells cur' e fr) ∧ cur'.size = cur.size ∧ (∀ j, j < o ∨ o + vs.length ≤ j → cur'[j]? = cur[j]?) ∧ (∀ j, j < vs.length → o + j < cur.size → cur'[o + j]? = vs[j]?) ∧ w.grownBy (w.setCells g o vs) (some g)
  | [], o, w, cur, h => ⟨cur, h, rfl, fun _ _ => rfl, fun j hj => absurd hj (Nat.not_lt_zero _), World.grownBy.refl w _⟩
  | u :: vs, o, w, cur, h => by
    have h1 : (w.setCell ⟨g, o, none⟩ u).heap[g]? = some (.cells (cur.setIfInBounds o u) e fr) := by
      simp only [World.setCell, Array.getElem?_modify, if_pos, h, Option.map_some]
      rfl
    obtain ⟨cur', q1, q2, q3, q4, q5⟩ := cells_set g e fr vs (o + 1) (w.setCell ⟨g, o, none⟩ u) _ h1
    refine ⟨cur', q1, by rw [q2, Array.size_setIfInBounds], fun j hj => ?_, fun j hj hjs => ?_, ?_⟩
    · rw [List.length_cons] at hj
      rw [q3 j (by omega), Array.getElem?_setIfInBounds, if_neg (by omega)]
    · rw [List.length_cons] at hj
      cases j with
      | zero =>
        rw [Nat.add_zero] at hjs ⊢
        rw [q3 o (by omega), Array.getElem?_setIfInBounds, if_pos rfl, if_pos hjs]
        rfl
      | succ j =>
        have := q4 j (by omega) (by rw [Array.size_setIfInBounds]; omega)
        rw [show o + (j + 1) = o + 1 + j by omega, this]
        rfl
    · exact ⟨q5.os.trans (set1_grown w g o u).os, q5.tape.trans (set1_grown w g o u).tape, q5.output.trans (set1_grown w g o u).output, Nat.le_trans (set1_grown w g o u).size q5.size, fun k hk hne => (q5.block k (Nat.lt_of_lt_of_le hk (set1_grown w g o u).size) hne).trans ((set1_grown w g o u).block k hk hne)⟩
theorem own_of_cur {w : World} {base g n cap : Nat} {e : TypeId} {cur : Array Value} {ys : List Value} (h : w.heap[g]? = some (.cells cur e (0, 0))) (hb : base ≤ g) (hn : n ≤ cap) (hm : cap ≤ maxLen) (hs : cur.size = cap) (hy : ys.length = n) (hc : ∀ j, j < n → cur[j]? = ys[j]?) : w.ownsRow base e 1 (.slice (some ⟨g, 0, none⟩) n cap) n ys := by
  refine ⟨by omega, Or.inr ⟨g, cap, cur, rfl, hb, h, hn, hm, by omega, ?_⟩⟩
  apply List.ext_getElem?
  intro j
  rw [List.getElem?_take, Nat.mul_one, Array.getElem?_toList]
  split
  · exact hc j (by assumption)
  · rw [List.getElem?_eq_none (by omega)]
theorem insAt {α : Type} (l : List α) (i : Nat) (x : α) (hi : i ≤ l.length) (j : Nat) : (l.take i ++ [x] ++ l.drop i)[j]? = if j < i then l[j]? else if j = i then some x else l[j - 1]? := by
  have h1 : (l.take i).length = i := by rw [List.length_take]; omega
  rw [List.append_assoc, List.getElem?_append, h1]
  split
  · rename_i h
    rw [List.getElem?_take_of_lt h]
  · rename_i h
    split
    · rename_i h2
      subst h2
      simp
    · rename_i h2
      obtain ⟨r, hr⟩ : ∃ r, j - i = r + 1 := ⟨j - i - 1, by omega⟩
      rw [hr]
      simp only [List.cons_append, List.nil_append, List.getElem?_cons_succ, List.getElem?_drop]
      congr 1
      omega
theorem insStr (w : World) (base : Nat) (A : Option Addr) (L c i vb : Nat) (l : List ByteArray) (x : ByteArray) (h : w.ownsRow base 9 1 (.slice A L c) L (l.map strV)) (hi : i ≤ L) (h4 : L ≤ 100000) (hv : Blk w vb 9 #[.string x]) (hne : (Value.slice A L c).ownBlock ≠ some vb) (hbs : base ≤ w.heap.size) :
    Calls Tryd.prog 48 #[.slice A L c, .int .i64 (i : Int), .slice (some ⟨vb, 0, none⟩) 1 1] w fun e' w' => ∃ v', e' = .returned v' ∧ w'.ownsRow base 9 1 v' (L + 1) ((l.take i ++ [x] ++ l.drop i).map strV) ∧ w.grownBy w' (Value.slice A L c).ownBlock := by
  have hl : l.length = L := by have := h.1; simpa using this
  have hcl : (l.map strV).length = L := by rw [List.length_map]; exact hl
  have hyl : ((l.take i ++ [x] ++ l.drop i).map strV).length = L + 1 := by
    simp
    omega
  have hys : ∀ j, ((l.take i ++ [x] ++ l.drop i).map strV)[j]? = if j < i then (l.map strV)[j]? else if j = i then some (.string x) else (l.map strV)[j - 1]? := fun j => by
    rw [List.getElem?_map, insAt l i x (by omega) j]
    split
    · rw [List.getElem?_map]
    · split
      · rfl
      · rw [List.getElem?_map]
  have hvs : ∀ (j : Nat) (v : Value), [Value.string x][j]? = some v → w.cell? ⟨vb, 0 + j, none⟩ = some v := fun j v hj => by
    cases j with
    | zero =>
      have := hv.cell_ 0
      simp at this hj
      rw [Nat.add_zero, ← hj]
      exact this
    | succ j => simp at hj
  have h1v : ∀ v ∈ [Value.string x], v.oneCell' = true := fun v hm => by
    simp at hm
    subst hm
    rfl
  have h1c : ∀ v ∈ l.map strV, v.oneCell' = true := fun v hm => by
    obtain ⟨t, _, rfl⟩ := List.mem_map.1 hm
    rfl
  have hnew : ∀ (cur : Array Value) (fr : Nat × Nat), w.grownBy (w.alloc (.cells cur 9 fr)) (Value.slice A L c).ownBlock := fun cur fr =>
    ⟨rfl, rfl, rfl, by simp, fun k hk _ => (by first | exact heap_alloc_old w _ hk | exact heap_alloc_old w _ k hk)⟩
  have hend : L < c + 1 → L ≤ c → c < L + 1 → i = L → (A = none → L = 0) → (∀ a, A = some a → ∀ (j : Nat) (v : Value), (l.map strV)[j]? = some v → w.cell? (a.add j) = some v) → Calls Tryd.prog 48 #[.slice A L c, .int .i64 (i : Int), .slice (some ⟨vb, 0, none⟩) 1 1] w fun e' w' => ∃ v', e' = .returned v' ∧ w'.ownsRow base 9 1 v' (L + 1) ((l.take i ++ [x] ++ l.drop i).map strV) ∧ w.grownBy w' (Value.slice A L c).ownBlock := by
    intro _ hLc hcr hiL hnil hca
    subst hiL
    have hC := Any2.slices_Insert_string_end_grow Tryd.laysInsert A i c vb 0 1 1 (l.map strV) [.string x] w (by decide) hLc hcr (by omega) hcl rfl hnil hca hvs h1v
    refine (show Calls Tryd.prog 48 _ w _ from hC).mono ?_
    rintro e' w' ⟨rfl, rfl⟩
    have hge := grownCap_ge w (i + 1) c 9
    have hle := grownCap_le_maxLen w (i + 1) c 9 (by unfold maxLen; omega)
    refine ⟨_, rfl, own_of_cur (heap_alloc_new w.drew _) hbs hge hle ?_ hyl (fun j hj => ?_), ?_⟩
    · have hz := size_zeroCells (Value.string ⟨#[]⟩).cells (grownCap w (i + 1) c 9 - (i + 1))
      have hz1 : (Value.string ⟨#[]⟩).cells.size = 1 := rfl
      rw [hz1] at hz
      rw [Array.size_append]
      show ((l.map strV) ++ [Value.string x]).toArray.size + (Builtin.zeroCells (Value.string ⟨#[]⟩).cells (grownCap w (i + 1) c 9 - (i + 1))).size = grownCap w (i + 1) c 9
      rw [hz]
      simp
      omega
    · rw [hys j, Array.getElem?_append_left (by simp; omega)]
      simp only [List.getElem?_toArray]
      by_cases hj1 : j < i
      · rw [if_pos hj1, List.getElem?_append_left (by omega)]
      · obtain rfl : j = i := by omega
        rw [if_neg hj1, if_pos rfl, List.getElem?_append_right (by omega), hcl]
        simp
    · refine ⟨rfl, rfl, rfl, Nat.le_of_lt (by show w.drew.heap.size < (w.drew.alloc _).heap.size; simp), fun k hk _ => ?_⟩
      first | exact heap_alloc_old w.drew _ hk | exact heap_alloc_old w.drew _ k hk
  rcases h.2 with ⟨hA, hL0⟩ | ⟨g, cap, cur, hA, hb, hg, hnc, hm, hs, ht⟩
  · cases hA
    exact hend (by omega) (by omega) (by omega) (by omega) (fun _ => rfl) (fun a ha => by cases ha)
  · cases hA
    have hs1 : cur.size = c := by omega
    have hcur : ∀ j, j < L → cur[j]? = (l.map strV)[j]? := fun j hj => by
      rw [← ht, List.getElem?_take, if_pos (by omega), Array.getElem?_toList]
    have hgl : g < w.heap.size := by
      rcases Nat.lt_or_ge g w.heap.size with hx | hx
      · exact hx
      · rw [Array.getElem?_eq_none hx] at hg
        cases hg
    have hgv : vb ≠ g := fun e => hne (by rw [e]; rfl)
    have hcs : ∀ (j : Nat) (v : Value), (l.map strV)[j]? = some v → w.cell? ⟨g, 0 + j, none⟩ = some v := fun j v hj => by
      have hjl : j < L := by have := (List.getElem?_eq_some_iff.1 hj).1; omega
      rw [Nat.zero_add, h.cellAt j (by omega)]
      exact hj
    have hcell : ∀ j, w.cell? ⟨g, j, none⟩ = cur[j]? := fun j => by
      simp [World.cell?, hg]
    by_cases hroom : L + 1 ≤ c
    · have hsp : ∀ j, j < L + 1 → (w.cell? ⟨g, 0 + j, none⟩).isSome = true := fun j hj => by
        rw [Nat.zero_add, hcell, Array.getElem?_eq_getElem (by omega)]
        rfl
      by_cases hil : i < L
      · have hC := Any2.slices_Insert_string_shift Tryd.laysInsert g 0 L c i vb 0 1 1 (l.map strV) [.string x] w hil (by decide) hroom (by unfold maxLen at hm; omega) hgv hcl rfl hcs hsp (fun j _ => by rw [Nat.zero_add]; exact h.frozenAt j) hvs h1c h1v 9 9 1 c (by simp only [World.shape?]; rw [show w.heap[vb]? = _ from hv]; rfl) (by simp only [World.shape?]; rw [hg, ← hs1]) (by omega) (hv.free 0) (hv.free 1)
        refine (show Calls Tryd.prog 48 _ w _ from hC).mono ?_
        rintro e' w' ⟨rfl, rfl⟩
        obtain ⟨cur1, p1, p2, p3, p4, p5⟩ := cells_set g 9 (0, 0) ((l.map strV).drop i) (0 + (i + 1)) w.drew cur hg
        obtain ⟨cur2, r1, r2, r3, r4, r5⟩ := cells_set g 9 (0, 0) [.string x] (0 + i) _ cur1 p1
        have hdl : ((l.map strV).drop i).length = L - i := by rw [List.length_drop, hcl]
        refine ⟨_, rfl, own_of_cur r1 hb hroom hm (by omega) hyl (fun j hj => ?_), ⟨r5.os.trans p5.os, r5.tape.trans p5.tape, r5.output.trans p5.output, Nat.le_trans p5.size r5.size, fun k hk hne2 => (r5.block k (Nat.lt_of_lt_of_le hk p5.size) hne2).trans (p5.block k hk hne2)⟩⟩
        rw [hys j]
        by_cases hj1 : j < i
        · rw [if_pos hj1, r3 j (by left; omega), p3 j (by left; omega), hcur j (by omega)]
        · rw [if_neg hj1]
          by_cases hj2 : j = i
          · subst hj2
            rw [if_pos rfl]
            have := r4 0 (by simp) (by omega)
            rw [Nat.add_zero, Nat.zero_add] at this
            rw [this]
            rfl
          · rw [if_neg hj2, r3 j (by right; simp; omega)]
            have := p4 (j - (i + 1)) (by omega) (by omega)
            rw [show 0 + (i + 1) + (j - (i + 1)) = j by omega, List.getElem?_drop, show i + (j - (i + 1)) = j - 1 by omega] at this
            exact this
      · obtain rfl : i = L := by omega
        have hC := Any2.slices_Insert_string_end_room Tryd.laysInsert g 0 i c vb 0 1 1 [.string x] w (by decide) hroom (by unfold maxLen at hm; omega) rfl (fun j hj => hsp (i + j) (by omega) |> fun q => by rw [show 0 + i + j = 0 + (i + j) by omega]; exact q) (fun j _ => h.frozenAt _) hvs h1v
        refine (show Calls Tryd.prog 48 _ w _ from hC).mono ?_
        rintro e' w' ⟨rfl, rfl⟩
        obtain ⟨cur2, r1, r2, r3, r4, r5⟩ := cells_set g 9 (0, 0) [.string x] (0 + i) w cur hg
        refine ⟨_, rfl, own_of_cur r1 hb hroom hm (by omega) hyl (fun j hj => ?_), r5⟩
        rw [hys j]
        by_cases hj1 : j < i
        · rw [if_pos hj1, r3 j (by left; omega), hcur j (by omega)]
        · obtain rfl : j = i := by omega
          rw [if_neg hj1, if_pos rfl]
          have := r4 0 (by simp) (by omega)
          rw [Nat.add_zero, Nat.zero_add] at this
          rw [this]
          rfl
    · by_cases hil : i < L
      · have hC := Any2.slices_Insert_string_grow Tryd.laysInsert g 0 L c i vb 0 1 1 (l.map strV) [.string x] w hil (by decide) hnc (by omega) (by omega) hcl rfl hcs hvs h1c h1v
        refine (show Calls Tryd.prog 48 _ w _ from hC).mono ?_
        rintro e' w' ⟨rfl, rfl⟩
        have hge := grownCap_ge w (L + 1) c 9
        have hle := grownCap_le_maxLen w (L + 1) c 9 (by unfold maxLen; omega)
        change ∃ v', _ = Ending.returned v' ∧ World.ownsRow (((w.alloc (.cells (((l.map strV).take i).toArray ++ Builtin.zeroCells (Value.string ⟨#[]⟩).cells (L + 1 - i) ++ Builtin.zeroCells (Value.string ⟨#[]⟩).cells (grownCap w (L + 1) c 9 - (L + 1))) 9)).drew.setCells w.heap.size i [.string x]).drew.setCells w.heap.size (i + 1) ((l.map strV).drop i)) _ _ _ _ _ _ ∧ w.grownBy (((w.alloc (.cells (((l.map strV).take i).toArray ++ Builtin.zeroCells (Value.string ⟨#[]⟩).cells (L + 1 - i) ++ Builtin.zeroCells (Value.string ⟨#[]⟩).cells (grownCap w (L + 1) c 9 - (L + 1))) 9)).drew.setCells w.heap.size i [.string x]).drew.setCells w.heap.size (i + 1) ((l.map strV).drop i)) _
        have hz1 : (Value.string ⟨#[]⟩).cells.size = 1 := rfl
        obtain ⟨cur0, hc0⟩ : ∃ a, a = ((l.map strV).take i).toArray ++ Builtin.zeroCells (Value.string ⟨#[]⟩).cells (L + 1 - i) ++ Builtin.zeroCells (Value.string ⟨#[]⟩).cells (grownCap w (L + 1) c 9 - (L + 1)) := ⟨_, rfl⟩
        have hs0 : cur0.size = grownCap w (L + 1) c 9 := by
          rw [hc0, Array.size_append, Array.size_append, size_zeroCells, size_zeroCells, hz1]
          simp
          omega
        have hg0 : ∀ j, j < i → cur0[j]? = (l.map strV)[j]? := fun j hj => by
          rw [hc0, Array.getElem?_append_left (by rw [Array.size_append]; simp; omega), Array.getElem?_append_left (by simp; omega)]
          rw [List.getElem?_toArray, List.getElem?_take_of_lt hj]
        rw [← hc0]
        have p0 : (w.alloc (.cells cur0 9)).heap[w.heap.size]? = some (.cells cur0 9 (0, 0)) := heap_alloc_new w _
        obtain ⟨cur1, p1, p2, p3, p4, p5⟩ := cells_set w.heap.size 9 (0, 0) [.string x] i (w.alloc (.cells cur0 9)).drew cur0 p0
        obtain ⟨cur2, r1, r2, r3, r4, r5⟩ := cells_set w.heap.size 9 (0, 0) ((l.map strV).drop i) (i + 1) ((w.alloc (.cells cur0 9)).drew.setCells w.heap.size i [.string x]).drew cur1 p1
        have hdl : ((l.map strV).drop i).length = L - i := by rw [List.length_drop, hcl]
        have hn1 := hnew cur0 (0, 0)
        refine ⟨_, rfl, own_of_cur r1 hbs hge hle (show cur2.size = grownCap w (L + 1) c 9 by omega) hyl (fun j hj => ?_), ⟨r5.os.trans (p5.os.trans hn1.os), r5.tape.trans (p5.tape.trans hn1.tape), r5.output.trans (p5.output.trans hn1.output), Nat.le_trans hn1.size (Nat.le_trans p5.size r5.size), fun k hk hne2 => (r5.block k (Nat.lt_of_lt_of_le hk (Nat.le_trans hn1.size p5.size)) (fun e => by cases e; omega)).trans ((p5.block k (Nat.lt_of_lt_of_le hk hn1.size) (fun e => by cases e; omega)).trans (hn1.block k hk hne2))⟩⟩
        rw [hys j]
        by_cases hj1 : j < i
        · rw [if_pos hj1, r3 j (by left; omega), p3 j (by left; omega), hg0 j hj1]
        · rw [if_neg hj1]
          by_cases hj2 : j = i
          · subst hj2
            rw [if_pos rfl, r3 j (by left; omega)]
            have := p4 0 (by simp) (by omega)
            rw [Nat.add_zero] at this
            rw [this]
            rfl
          · rw [if_neg hj2]
            have := r4 (j - (i + 1)) (by omega) (by omega)
            rw [show i + 1 + (j - (i + 1)) = j by omega, List.getElem?_drop, show i + (j - (i + 1)) = j - 1 by omega] at this
            exact this
      · exact hend (by omega) (by omega) (by omega) (by omega) (fun e => by cases e) (fun a ha j v hj => by
          cases ha
          have := hcs j v hj
          rw [Nat.zero_add] at this
          rw [Addr.add_lit, Nat.zero_add]
          exact this)
theorem ntag_yes (s : Sf) (v : Value) (y : Int) (x : ByteArray) (w : World) (hS : ShR w w.heap.size v s) (hT : Tabs w) (hc : tagC s y x = 0) :
    Calls Tryd.prog 18 #[v, .int .i64 y, .string x] w fun e' w' => ∃ v', e' = .returned (.tuple #[v', .int .i64 0]) ∧ ShW w' w.heap.size v' (tagS s y x) ∧ Below w.heap.size w w' := by
  have hS0 := hS
  obtain ⟨Ab, cb, An, cn, rfl, hB, hN, hcb, hmb, hcn, hmn⟩ := hS.ex
  clear hS
  obtain ⟨HB, B1, B2, S1⟩ := pre2 hS0
  have T1 := hT.next HB
  have hf : findC s y = 0 := by
    unfold tagC at hc
    by_cases h : findC s y = 0
    · exact h
    · have h2 : (findC s y == 0) = false := by simpa using h
      rw [h2] at hc
      exact absurd hc h
  obtain ⟨k, n, h⟩ := fdF_of hf
  obtain ⟨hN9, hH9, hL9⟩ : mayN x = true ∧ hasT n.tg x = false ∧ n.tg.length < 4 := by
    unfold tagC at hc
    rw [hf, h.of_] at hc
    cases h1 : mayN x
    · rw [h1] at hc
      cases hc
    · cases h2 : hasT n.tg x
      · rw [h1, h2] at hc
        refine ⟨rfl, rfl, ?_⟩
        rcases Nat.lt_or_ge n.tg.length 4 with h3 | h3
        · exact h3
        · rw [decide_eq_true h3] at hc
          cases hc
      · rw [h1, h2] at hc
        cases hc
  have HNN := Lib.hid h.nt
  have hMF := h.may
  have HLB : Hid (s.bs.length ≤ 100000) := Lib.hid (by have := hMF.bl; omega)
  have HLN : Hid (s.ts.length ≤ 100000) := Lib.hid (by have := hMF.tl; omega)
  have HLR := Lib.hid hMF.small
  have HKL : Hid (k < s.ts.length) := Lib.hid (List.getElem?_eq_some_iff.1 h.nt).1
  have HF := Lib.hid h
  obtain ⟨es, hel, hse, hnt⟩ := hN.ex
  have hkl : k < s.ts.length := (List.getElem?_eq_some_iff.1 h.nt).1
  obtain ⟨e0, he⟩ : ∃ e, es[k]? = some e := ⟨_, List.getElem?_eq_getElem (by omega)⟩
  obtain ⟨At, ct, As, cs, rfl, hAt, -⟩ := (hnt k n e0 h.nt he).ex
  obtain ⟨b1, o1, rfl, l1, q1⟩ := hse.at_ (by omega)
  have y3 := q1 k _ he 3 _ rfl
  have i0 : (0 : Int) ≤ (k : Int) := by omega
  have i1 : (k : Int) < (s.ts.length : Int) := by omega
  have i2 : ¬ (k : Int) < 0 := by omega
  have HL4 : Hid (n.tg.length ≤ 100000) := Lib.hid (h.may.small n (List.mem_of_getElem? h.nt)).1
  have hmt := tg_iff.1 (mayNt_iff.1 (h.may.ts n (List.mem_of_getElem? h.nt)).2.2).2.2.2
  have HSRT := Lib.hid hmt.2.2
  have HRS : Hid (tagS s y x = { s with ts := s.ts.set k { n with tg := tgIns n.tg x } }) := Lib.hid (by unfold tagS; rw [h.of_, h.put])
  obtain ⟨L, hL⟩ : ∃ L, n.tg.length = L := ⟨_, rfl⟩
  obtain ⟨T, hTe⟩ : ∃ T, s.ts.length = T := ⟨_, rfl⟩
  have HLL := Lib.hid hL
  have HTT := Lib.hid hTe
  rw [hL] at y3
  rw [hTe] at i1 HB B1 B2 S1 T1 ⊢
  rw [hL] at HL4
  obtain ⟨P, hP⟩ : ∃ P, tgPos n.tg x = P := ⟨_, rfl⟩
  have HP := Lib.hid hP
  rw [hL] at hL9
  have HI9 : Hid (n.tg.take P ++ [x] ++ n.tg.drop P = tgIns n.tg x) := Lib.hid (by unfold tgIns; rw [hP])
  have hPL : P ≤ L := by rw [← hP, ← hL]; exact tgPos_le _ _
  have HH := Lib.hid hH9
  have HN : Hid (nameB x.data.toList = true) := Lib.hid hN9
  have hL8 := HL4.out
  have g5 : ¬ (4 : Int) ≤ (L : Int) := by omega
  clear hP hH9 hN9 hmt hc h hL hTe hkl he q1 hse hel hnt hN hB hS0 hT hcb hmb hcn hmn hf hMF
  go_enter Tryd.func18, Tryd.ntmps18
  go_upto_region 12 with (first | (go_at_call 44; go_loud (((with_reducible refine (nfind_yes s _ y _ S1 T1 k n HF.out).mono ?_); rintro e' w3 ⟨rfl, bx⟩; (try clear k0 k1 k2 k3 k4 r0 r1 r2 r3 r4 t0 t1 t2 t3 t4); obtain ⟨S1, T1, B1, B2, HB, k0, k1, k2, k3, k4, r0, r1, r2, r3, r4, t0, t1, t2, t3, t4⟩ := keepT S1 T1 B1 B2 HB bx; clear bx; have z3 := (HB.cell (p := ⟨b1, o1 + k * 5 + 3, none⟩) l1).trans y3; have SA := (hAt.below HB).mono_ HB.size))) | (go_at_call 45; go_loud (((with_reducible refine (bsStr n.tg L At ct x _ HLL.out SA HL4.out HSRT.out).mono ?_); rintro e' w4 ⟨rfl, bx⟩; rw [HP.out, HH.out]; clear SA; (try clear k0 k1 k2 k3 k4 r0 r1 r2 r3 r4 t0 t1 t2 t3 t4); obtain ⟨S1, T1, B1, B2, HB, k0, k1, k2, k3, k4, r0, r1, r2, r3, r4, t0, t1, t2, t3, t4⟩ := keepT S1 T1 B1 B2 HB bx; clear bx))) | (go_at_call 46; go_loud (((with_reducible refine (nmay_any x _ _ T1 HN.out).mono ?_); rintro e' w5 ⟨rfl, bx⟩; (try clear k0 k1 k2 k3 k4 r0 r1 r2 r3 r4 t0 t1 t2 t3 t4); obtain ⟨S1, T1, B1, B2, HB, k0, k1, k2, k3, k4, r0, r1, r2, r3, r4, t0, t1, t2, t3, t4⟩ := keepT S1 T1 B1 B2 HB bx; clear bx))))
  have hW5 : w.heap.size + 2 ≤ w5.heap.size := by have := B2.lt; omega
  go_upto_region 13 with (go_at_call 47; go_loud (((with_reducible refine (clone_ap s _ _ S1 HLB.out HLN.out HLR.out).mono ?_); rintro e' w9 ⟨v6, rfl, hQ, b6⟩; obtain ⟨Ab6, cb6, An6, cn6, rfl, hBk, hNt, q1, q2, q3, q4⟩ := ShA.parts hQ; have B1 := B1.below b6 B1.lt; have B2 := B2.below b6 B2.lt; have HB := btr HB HB.size b6; have hz6 := b6.size; (try clear k0 k1 k2 k3 k4 r0 r1 r2 r3 r4 t0 t1 t2 t3 t4); have k0 := B1.cell_ 0; have t0 := B1.free 0; have k1 := B1.cell_ 1; have t1 := B1.free 1; have k2 := B1.cell_ 2; have t2 := B1.free 2; have k3 := B1.cell_ 3; have t3 := B1.free 3; have k4 := B1.cell_ 4; have t4 := B1.free 4; simp at k0 k1 k2 k3 k4; clear b6 hQ S1 T1)))
  have B1u := B1.st5_ (.int .i64 s.nb) (.int .i64 s.nn) (.int .i64 s.ns) (.slice Ab6 s.bs.length cb6) (.slice An6 s.ts.length cn6)
  have hg6 := st5_grown w9 w.heap.size 0 (.int .i64 s.nb) (.int .i64 s.nn) (.int .i64 s.ns) (.slice Ab6 s.bs.length cb6) (.slice An6 s.ts.length cn6)
  have B2u := B2.grown hg6 (by omega)
  have hBk2 := hBk.far hg6 (by omega)
  have hNt2 := hNt.far hg6 (by omega)
  have hb2 := below_grown HB hg6 (Nat.le_refl _) HB.size
  have HSZ : Hid (w5.heap.size ≤ (st5 w9 w.heap.size 0 (.int .i64 s.nb) (.int .i64 s.nn) (.int .i64 s.ns) (.slice Ab6 s.bs.length cb6) (.slice An6 s.ts.length cn6)).heap.size) := Lib.hid (by have := hz6; have := hg6.size; omega)
  clear hg6
  obtain ⟨Wd, hWd⟩ : ∃ V : World, V = (st5 w9 w.heap.size 0 (.int .i64 s.nb) (.int .i64 s.nn) (.int .i64 s.ns) (.slice Ab6 s.bs.length cb6) (.slice An6 s.ts.length cn6)) := ⟨_, rfl⟩
  change Code.wp _ _ _ _ (st5 w9 w.heap.size 0 (.int .i64 s.nb) (.int .i64 s.nn) (.int .i64 s.ns) (.slice Ab6 s.bs.length cb6) (.slice An6 s.ts.length cn6))
  rw [← hWd] at B1u B2u hBk2 hNt2 hb2 HSZ ⊢
  clear hWd y3 z3 hAt B1 B2 HB hBk hNt k0 k1 k2 k3 k4 t0 t1 t2 t3 t4 hz6
  have HW5 := Lib.hid hW5
  obtain ⟨es, hel, hon, hnt, hap⟩ := hNt2
  have hkT := (List.getElem?_eq_some_iff.1 HNN.out).1
  obtain ⟨e0, he⟩ : ∃ e, es[k]? = some e := ⟨_, List.getElem?_eq_getElem (by omega)⟩
  obtain ⟨vt, vs, rfl, q1, q2⟩ := hnt k n e0 HNN.out he
  obtain ⟨At9, ct9, rfl, ht1, ht2⟩ := own_shape q1
  obtain ⟨As9, cs9, rfl, hs1, hs2⟩ := own_shape q2
  obtain ⟨gn, hgn, hgn2⟩ : ∃ gn, An6 = some ⟨gn, 0, none⟩ ∧ w5.heap.size ≤ gn := by
    rcases hon.2 with ⟨h, h0⟩ | ⟨g, c, cu, h, hb, _⟩
    · omega
    · injection h with h1 h2 h3
      exact ⟨g, h1, hb⟩
  subst hgn
  have h5 := es_five hel hnt
  have hga : gn ≠ Wd.heap.size := by
    have := (hon.lt gn rfl).2
    omega
  have HE := Lib.hid he
  have HEL := Lib.hid hel
  have HON := Lib.hid hon
  rw [HLL.out] at he q1
  rw [HTT.out] at hon hel
  have k0 := B1u.cell_ 0
  have k1 := B1u.cell_ 1
  have k2 := B1u.cell_ 2
  have k3 := B1u.cell_ 3
  have k4 := B1u.cell_ 4
  simp at k0 k1 k2 k3 k4
  rw [HTT.out] at k4
  have x4 := own_cellE hon h5 he (j := 3) rfl
  have kd : Wd.drew.cell? ⟨w.heap.size, 4, none⟩ = some (.slice (some ⟨gn, 0, none⟩) T cn6) := drew_cell k4
  have ka : (Wd.alloc (.cells #[.string x] 9)).drew.cell? ⟨w.heap.size, 4, none⟩ = some (.slice (some ⟨gn, 0, none⟩) T cn6) := by
    rw [← HTT.out]
    exact drew_cell ((B1u.alloc_ _).cell_ 4)
  have xd : Wd.drew.cell? ⟨gn, k * 5 + 3, none⟩ = some (.slice At9 L ct9) := drew_cell x4
  have xa : (Wd.alloc (.cells #[.string x] 9)).drew.cell? ⟨gn, k * 5 + 3, none⟩ = some (.slice At9 L ct9) := own_cellE (drew_own (hon.alloc _)) h5 he (j := 3) rfl
  have hqb : ∀ g, (Value.slice At9 L ct9).ownBlock = some g → w5.heap.size ≤ g := fun g hg => (q1.lt g hg).1
  have hqn : (Value.slice At9 L ct9).ownBlock ≠ some Wd.heap.size := fun e => by
    have := (q1.lt _ e).2
    omega
  have hzA : w5.heap.size ≤ (Wd.alloc (.cells #[.string x] 9)).drew.heap.size := by
    have := HSZ.out
    show w5.heap.size ≤ (Wd.alloc (.cells #[.string x] 9)).heap.size
    simp
    omega
  clear k0 k1 k2 k3 k4 x4
  refine wp_region_noPanic ?_
  refine wp_region_held_drew (S := (fun w_ => w_.cell? ⟨w.heap.size, 4, none⟩ = some (.slice (some ⟨gn, 0, none⟩) T cn6))) (by kernel_rfl) ?_ (fun hHeld => ?_)
  · (first | with_reducible exact kd | with_reducible exact ka | with_reducible exact k4' | with_reducible exact kb)
  refine tk 0 ⟨some 50, .fieldAddr 25 (.tmp 3) 4, 0, "note.go:54", #[], none⟩ ?_; try simp only [Act.put, pz1, pz2, pz3]
  refine tk 1 ⟨some 51, .load 23 (.tmp 50), 23, "note.go:54", #[⟨0, .data⟩], none⟩ ?_; try simp only [Act.put, pz1, pz2, pz3]
  refine tk 2 ⟨some 52, .move (.tmp 8), 3, "note.go:54", #[], none⟩ ?_; try simp only [Act.put, pz1, pz2, pz3]
  refine tk 3 ⟨some 53, .fieldAddr 25 (.tmp 3) 4, 0, "note.go:54", #[], none⟩ ?_; try simp only [Act.put, pz1, pz2, pz3]
  refine tk 4 ⟨some 54, .load 23 (.tmp 53), 23, "note.go:54", #[⟨3, .data⟩], none⟩ ?_; try simp only [Act.put, pz1, pz2, pz3]
  refine tk 5 ⟨some 55, .move (.tmp 8), 3, "note.go:54", #[], none⟩ ?_; try simp only [Act.put, pz1, pz2, pz3]
  refine tk 6 ⟨some 56, .indexAddr 23 (.tmp 54) (.tmp 55), 0, "note.go:54", #[⟨4, .data⟩, ⟨5, .data⟩], none⟩ ?_; try simp only [Act.put, pz1, pz2, pz3]
  refine tk 7 ⟨some 57, .fieldAddr 49 (.tmp 56) 3, 0, "note.go:54", #[⟨6, .data⟩], none⟩ ?_; try simp only [Act.put, pz1, pz2, pz3]
  refine tk 9 ⟨some 59, .move (.tmp 11), 3, "note.go:54", #[], none⟩ ?_; try simp only [Act.put, pz1, pz2, pz3]
  refine tk 10 ⟨some 60, .move (.tmp 2), 9, "note.go:54", #[], none⟩ ?_; try simp only [Act.put, pz1, pz2, pz3]
  refine wpAnyH_ready (rs := [8, 11]) (by kernel_rfl) (by simp) ?_
  refine (AllReadyH.cons (o := ⟨some 58, .load 46 (.tmp 57), 46, "note.go:54", #[⟨7, .data⟩], none⟩) rfl (fun K hK => ?_) (AllReadyH.cons (o := ⟨some 61, .buildSlice 46 1 #[(0, .tmp 60)], 46, "note.go:54", #[⟨10, .data⟩], none⟩) rfl (fun K hK => ?_) AllReadyH.nil))
  · go_simp
    refine hK.out _ _ ?_ (fun hNew => ?_)
    · (first | with_reducible exact kd | with_reducible exact ka | with_reducible exact k4' | with_reducible exact kb)
    clear hK K hHeld
    have hHeld := hNew
    clear hNew
    try simp only [Act.put, pz1, pz2, pz3]
    refine wpAnyH_ready (rs := [11]) (by kernel_rfl) (by simp) ?_
    refine AllReadyH.cons (o := ⟨some 61, .buildSlice 46 1 #[(0, .tmp 60)], 46, "note.go:54", #[⟨10, .data⟩], none⟩) rfl (fun K hK => ?_) AllReadyH.nil
    go_simp
    refine hK.out _ _ ?_ (fun hNew => ?_)
    · (first | with_reducible exact kd | with_reducible exact ka | with_reducible exact k4' | with_reducible exact kb)
    clear hK K hHeld
    have hHeld := hNew
    clear hNew
    try simp only [Act.put, pz1, pz2, pz3]
    refine wpAnyH_ready (rs := [12]) (by kernel_rfl) (by simp) ?_
    refine AllReadyH.cons (o := ⟨some 62, .call { callee := .value (.func 48), args := #[.tmp 58, .tmp 59, .tmp 61], argTypes := #[46, 3, 46] }, 46, "note.go:54", #[⟨8, .data⟩, ⟨9, .data⟩, ⟨11, .data⟩], none⟩) rfl (fun K hK => ?_) AllReadyH.nil
    go_simp
    (go_at_call 48; go_loud (((with_reducible refine (insStr _ w5.heap.size At9 L ct9 P Wd.heap.size n.tg x (drew_own (q1.alloc (.cells #[.string x] 9))) hPL hL8 (drew_blk (Blk.new_ Wd 9 #[.string x])) hqn hzA).mono ?_); rintro e' w7 ⟨v9, rfl, ho', hg'⟩; have hof : ∀ j, j < w5.heap.size → (Value.slice At9 L ct9).ownBlock ≠ some j := fun j hj h => (by have := hqb j h; omega); rw [HI9.out] at ho'; have B1a := (drew_blk (B1u.alloc_ (.cells #[.string x] 9))).grownR hg' (hof _ (by have := HW5.out; omega)); have B2a := (drew_blk (B2u.alloc_ (.cells #[.string x] 9))).grownR hg' (hof _ (by have := HW5.out; omega)); have HBa := (drew_below (hb2.alloc hb2.size _)).trans (below_app (B := w.heap.size) (by have := HW5.out; omega) hzA (drew_own (q1.alloc (.cells #[.string x] 9))) hg'); have hon7 := (drew_own (hon.alloc (.cells #[.string x] 9))).kept hg' (own_apart (drew_own (hon.alloc (.cells #[.string x] 9))) (drew_own (q1.alloc (.cells #[.string x] 9))) (by decide)); have k4' := B1a.cell_ 4; simp at k4'; rw [HTT.out] at k4'; obtain ⟨A7, c7, rfl, q21, q22⟩ := own_shape ho'; have x7 := own_cellE hon7 h5 he (j := 3) rfl; have f7 := World.ownsRow.frozenAt hon7 (k * 5 + 3); have kb : (w7.setCell ⟨gn, k * 5 + 3, none⟩ (.slice A7 (L + 1) c7)).cell? ⟨w.heap.size, 4, none⟩ = some (.slice (some ⟨gn, 0, none⟩) T cn6) := (by have := (B1a.grown (set1_grown w7 gn (k * 5 + 3) (.slice A7 (L + 1) c7)) (by have := HW5.out; omega)).cell_ 4; simp at this; rw [HTT.out] at this; exact this))))
    go_wp2_with fail
    refine hK.out _ _ ?_ (fun hNew => ?_)
    · (first | with_reducible exact kd | with_reducible exact ka | with_reducible exact k4' | with_reducible exact kb)
    clear hK K hHeld
    have hHeld := hNew
    clear hNew
    try simp only [Act.put, pz1, pz2, pz3]
    refine tk 13 ⟨some 63, .indexAddr 23 (.tmp 51) (.tmp 52), 0, "note.go:54", #[⟨1, .data⟩, ⟨2, .data⟩, ⟨0, .phase⟩, ⟨1, .phase⟩, ⟨2, .phase⟩, ⟨3, .phase⟩, ⟨4, .phase⟩, ⟨5, .phase⟩, ⟨6, .phase⟩, ⟨7, .phase⟩, ⟨8, .phase⟩, ⟨9, .phase⟩, ⟨10, .phase⟩, ⟨11, .phase⟩, ⟨12, .phase⟩], none⟩ ?_; try simp only [Act.put, pz1, pz2, pz3]
    refine tk 14 ⟨some 64, .fieldAddr 49 (.tmp 63) 3, 0, "note.go:54", #[⟨13, .data⟩, ⟨0, .phase⟩, ⟨1, .phase⟩, ⟨2, .phase⟩, ⟨3, .phase⟩, ⟨4, .phase⟩, ⟨5, .phase⟩, ⟨6, .phase⟩, ⟨7, .phase⟩, ⟨8, .phase⟩, ⟨9, .phase⟩, ⟨10, .phase⟩, ⟨11, .phase⟩, ⟨12, .phase⟩], none⟩ ?_; try simp only [Act.put, pz1, pz2, pz3]
    refine wpAnyH_ready (rs := [15]) (by kernel_rfl) (by simp) ?_
    refine AllReadyH.cons (o := ⟨none, .store 46 (.tmp 64) (.tmp 62), 0, "note.go:54", #[⟨14, .data⟩, ⟨12, .data⟩, ⟨12, .chain⟩, ⟨0, .phase⟩, ⟨1, .phase⟩, ⟨2, .phase⟩, ⟨3, .phase⟩, ⟨4, .phase⟩, ⟨5, .phase⟩, ⟨6, .phase⟩, ⟨7, .phase⟩, ⟨8, .phase⟩, ⟨9, .phase⟩, ⟨10, .phase⟩, ⟨11, .phase⟩, ⟨12, .phase⟩], none⟩) rfl (fun K hK => ?_) AllReadyH.nil
    go_simp
    refine hK.out _ _ ?_ (fun hNew => ?_)
    · (first | with_reducible exact kd | with_reducible exact ka | with_reducible exact k4' | with_reducible exact kb)
    clear hK K hHeld
    have hHeld := hNew
    clear hNew
    try simp only [Act.put, pz1, pz2, pz3]
    refine wpAnyH_done (by kernel_rfl) ?_ _
    refine NoPanic.normal ?_
    have hb0 : Below Wd.heap.size Wd (Wd.alloc (.cells #[.string x] 9)).drew := drew_below ((Below.refl _ Wd).alloc (Nat.le_refl _) _)
    have hl9 : (tgIns n.tg x).length = L + 1 := by rw [tgIns_len, HLL.out]
    obtain ⟨hNw, hgw⟩ := nt_tags (xs := tgIns n.tg x) HEL.out (drew_own (HON.out.alloc (.cells #[.string x] 9))) (fun k n e a b => (hnt k n e a b).below hb0) hap HNN.out HE.out (by rw [HLL.out]; exact hg') (by rw [hl9]; exact ho')
    have B1w := B1a.grown hgw (by have := HW5.out; omega)
    have B2w := B2a.grown hgw (by have := HW5.out; omega)
    have hB7 : BksW w7 w5.heap.size (.slice Ab6 s.bs.length cb6) s.bs := World.ownsRow.kept (own_belowW hBk2 hb0) hg' (own_apart (own_belowW hBk2 hb0) (drew_own (q1.alloc (.cells #[.string x] 9))) (by decide))
    have hBw := BksW.apartN hB7 hon7 hgw
    have hbw := below_grown HBa hgw (by have := HW5.out; omega) HBa.size
    obtain ⟨Wx, hWx⟩ : ∃ V : World, V = w7.setCell ⟨gn, k * 5 + 3, none⟩ (.slice A7 (L + 1) c7) := ⟨_, rfl⟩
    rw [← hWx] at hNw B1w B2w hBw hbw ⊢
    clear hWx hgw hB7 hb0 hl9 B1a B2a HBa ho' hg' hon7 k4' x7 f7 kb hof
    have k0 := B1w.cell_ 0
    have r0 := B2w.cell_ 0
    have t0 := B2w.free 0
    have k1 := B1w.cell_ 1
    have r1 := B2w.cell_ 1
    have t1 := B2w.free 1
    have k2 := B1w.cell_ 2
    have r2 := B2w.cell_ 2
    have t2 := B2w.free 2
    have k3 := B1w.cell_ 3
    have r3 := B2w.cell_ 3
    have t3 := B2w.free 3
    have k4 := B1w.cell_ 4
    have r4 := B2w.cell_ 4
    have t4 := B2w.free 4
    simp at k0 k1 k2 k3 k4 r0 r1 r2 r3 r4
    go_wp2_with fail
    have B2e := B2w.st5_ (.int .i64 s.nb) (.int .i64 s.nn) (.int .i64 s.ns) (.slice Ab6 s.bs.length cb6) (.slice (some ⟨gn, 0, none⟩) s.ts.length cn6)
    have hgE := st5_grown Wx (w.heap.size + 1) 0 (.int .i64 s.nb) (.int .i64 s.nn) (.int .i64 s.ns) (.slice Ab6 s.bs.length cb6) (.slice (some ⟨gn, 0, none⟩) s.ts.length cn6)
    have hBe := hBw.far hgE (by have := HW5.out; omega)
    have hNe := hNw.far hgE (by have := HW5.out; omega)
    have hbe := below_grown hbw hgE (by omega) hbw.size
    change bodyPost _ _ _ _ _ (st5 Wx (w.heap.size + 1) 0 (.int .i64 s.nb) (.int .i64 s.nn) (.int .i64 s.ns) (.slice Ab6 s.bs.length cb6) (.slice (some ⟨gn, 0, none⟩) s.ts.length cn6))
    clear hgE
    generalize st5 Wx (w.heap.size + 1) 0 (.int .i64 s.nb) (.int .i64 s.nn) (.int .i64 s.ns) (.slice Ab6 s.bs.length cb6) (.slice (some ⟨gn, 0, none⟩) s.ts.length cn6) = WF at B2e hBe hNe hbe ⊢
    apply bodyPost_ret (v := .tuple #[.agg #[.int .i64 s.nb, .int .i64 s.nn, .int .i64 s.ns, .slice Ab6 s.bs.length cb6, .slice (some ⟨gn, 0, none⟩) s.ts.length cn6], .int .i64 0])
    · exact results_cell1 Tryd.results18 _ WF (w.heap.size + 1) 25 _ (0, 0) _ rfl B2e Tryd.underlying25 rfl (by kernel_rfl)
    · rfl
    · refine ⟨_, rfl, ?_, hbe⟩
      rw [HRS.out]
      exact ShW.base_ (ShW.make (s := { s with ts := s.ts.set k { n with tg := tgIns n.tg x } }) (w := WF) (base := w5.heap.size) (vb := .slice Ab6 s.bs.length cb6) (vn := .slice (some ⟨gn, 0, none⟩) s.ts.length cn6) hBe hNe) (by have := HW5.out; omega)
  · go_simp
    refine hK.out _ _ ?_ (fun hNew => ?_)
    · (first | with_reducible exact kd | with_reducible exact ka | with_reducible exact k4' | with_reducible exact kb)
    clear hK K hHeld
    have hHeld := hNew
    clear hNew
    try simp only [Act.put, pz1, pz2, pz3]
    refine wpAnyH_ready (rs := [8]) (by kernel_rfl) (by simp) ?_
    refine AllReadyH.cons (o := ⟨some 58, .load 46 (.tmp 57), 46, "note.go:54", #[⟨7, .data⟩], none⟩) rfl (fun K hK => ?_) AllReadyH.nil
    go_simp
    refine hK.out _ _ ?_ (fun hNew => ?_)
    · (first | with_reducible exact kd | with_reducible exact ka | with_reducible exact k4' | with_reducible exact kb)
    clear hK K hHeld
    have hHeld := hNew
    clear hNew
    try simp only [Act.put, pz1, pz2, pz3]
    refine wpAnyH_ready (rs := [12]) (by kernel_rfl) (by simp) ?_
    refine AllReadyH.cons (o := ⟨some 62, .call { callee := .value (.func 48), args := #[.tmp 58, .tmp 59, .tmp 61], argTypes := #[46, 3, 46] }, 46, "note.go:54", #[⟨8, .data⟩, ⟨9, .data⟩, ⟨11, .data⟩], none⟩) rfl (fun K hK => ?_) AllReadyH.nil
    go_simp
    (go_at_call 48; go_loud (((with_reducible refine (insStr _ w5.heap.size At9 L ct9 P Wd.heap.size n.tg x (drew_own (q1.alloc (.cells #[.string x] 9))) hPL hL8 (drew_blk (Blk.new_ Wd 9 #[.string x])) hqn hzA).mono ?_); rintro e' w7 ⟨v9, rfl, ho', hg'⟩; have hof : ∀ j, j < w5.heap.size → (Value.slice At9 L ct9).ownBlock ≠ some j := fun j hj h => (by have := hqb j h; omega); rw [HI9.out] at ho'; have B1a := (drew_blk (B1u.alloc_ (.cells #[.string x] 9))).grownR hg' (hof _ (by have := HW5.out; omega)); have B2a := (drew_blk (B2u.alloc_ (.cells #[.string x] 9))).grownR hg' (hof _ (by have := HW5.out; omega)); have HBa := (drew_below (hb2.alloc hb2.size _)).trans (below_app (B := w.heap.size) (by have := HW5.out; omega) hzA (drew_own (q1.alloc (.cells #[.string x] 9))) hg'); have hon7 := (drew_own (hon.alloc (.cells #[.string x] 9))).kept hg' (own_apart (drew_own (hon.alloc (.cells #[.string x] 9))) (drew_own (q1.alloc (.cells #[.string x] 9))) (by decide)); have k4' := B1a.cell_ 4; simp at k4'; rw [HTT.out] at k4'; obtain ⟨A7, c7, rfl, q21, q22⟩ := own_shape ho'; have x7 := own_cellE hon7 h5 he (j := 3) rfl; have f7 := World.ownsRow.frozenAt hon7 (k * 5 + 3); have kb : (w7.setCell ⟨gn, k * 5 + 3, none⟩ (.slice A7 (L + 1) c7)).cell? ⟨w.heap.size, 4, none⟩ = some (.slice (some ⟨gn, 0, none⟩) T cn6) := (by have := (B1a.grown (set1_grown w7 gn (k * 5 + 3) (.slice A7 (L + 1) c7)) (by have := HW5.out; omega)).cell_ 4; simp at this; rw [HTT.out] at this; exact this))))
    go_wp2_with fail
    refine hK.out _ _ ?_ (fun hNew => ?_)
    · (first | with_reducible exact kd | with_reducible exact ka | with_reducible exact k4' | with_reducible exact kb)
    clear hK K hHeld
    have hHeld := hNew
    clear hNew
    try simp only [Act.put, pz1, pz2, pz3]
    refine tk 13 ⟨some 63, .indexAddr 23 (.tmp 51) (.tmp 52), 0, "note.go:54", #[⟨1, .data⟩, ⟨2, .data⟩, ⟨0, .phase⟩, ⟨1, .phase⟩, ⟨2, .phase⟩, ⟨3, .phase⟩, ⟨4, .phase⟩, ⟨5, .phase⟩, ⟨6, .phase⟩, ⟨7, .phase⟩, ⟨8, .phase⟩, ⟨9, .phase⟩, ⟨10, .phase⟩, ⟨11, .phase⟩, ⟨12, .phase⟩], none⟩ ?_; try simp only [Act.put, pz1, pz2, pz3]
    refine tk 14 ⟨some 64, .fieldAddr 49 (.tmp 63) 3, 0, "note.go:54", #[⟨13, .data⟩, ⟨0, .phase⟩, ⟨1, .phase⟩, ⟨2, .phase⟩, ⟨3, .phase⟩, ⟨4, .phase⟩, ⟨5, .phase⟩, ⟨6, .phase⟩, ⟨7, .phase⟩, ⟨8, .phase⟩, ⟨9, .phase⟩, ⟨10, .phase⟩, ⟨11, .phase⟩, ⟨12, .phase⟩], none⟩ ?_; try simp only [Act.put, pz1, pz2, pz3]
    refine wpAnyH_ready (rs := [15]) (by kernel_rfl) (by simp) ?_
    refine AllReadyH.cons (o := ⟨none, .store 46 (.tmp 64) (.tmp 62), 0, "note.go:54", #[⟨14, .data⟩, ⟨12, .data⟩, ⟨12, .chain⟩, ⟨0, .phase⟩, ⟨1, .phase⟩, ⟨2, .phase⟩, ⟨3, .phase⟩, ⟨4, .phase⟩, ⟨5, .phase⟩, ⟨6, .phase⟩, ⟨7, .phase⟩, ⟨8, .phase⟩, ⟨9, .phase⟩, ⟨10, .phase⟩, ⟨11, .phase⟩, ⟨12, .phase⟩], none⟩) rfl (fun K hK => ?_) AllReadyH.nil
    go_simp
    refine hK.out _ _ ?_ (fun hNew => ?_)
    · (first | with_reducible exact kd | with_reducible exact ka | with_reducible exact k4' | with_reducible exact kb)
    clear hK K hHeld
    have hHeld := hNew
    clear hNew
    try simp only [Act.put, pz1, pz2, pz3]
    refine wpAnyH_done (by kernel_rfl) ?_ _
    refine NoPanic.normal ?_
    have hb0 : Below Wd.heap.size Wd (Wd.alloc (.cells #[.string x] 9)).drew := drew_below ((Below.refl _ Wd).alloc (Nat.le_refl _) _)
    have hl9 : (tgIns n.tg x).length = L + 1 := by rw [tgIns_len, HLL.out]
    obtain ⟨hNw, hgw⟩ := nt_tags (xs := tgIns n.tg x) HEL.out (drew_own (HON.out.alloc (.cells #[.string x] 9))) (fun k n e a b => (hnt k n e a b).below hb0) hap HNN.out HE.out (by rw [HLL.out]; exact hg') (by rw [hl9]; exact ho')
    have B1w := B1a.grown hgw (by have := HW5.out; omega)
    have B2w := B2a.grown hgw (by have := HW5.out; omega)
    have hB7 : BksW w7 w5.heap.size (.slice Ab6 s.bs.length cb6) s.bs := World.ownsRow.kept (own_belowW hBk2 hb0) hg' (own_apart (own_belowW hBk2 hb0) (drew_own (q1.alloc (.cells #[.string x] 9))) (by decide))
    have hBw := BksW.apartN hB7 hon7 hgw
    have hbw := below_grown HBa hgw (by have := HW5.out; omega) HBa.size
    obtain ⟨Wx, hWx⟩ : ∃ V : World, V = w7.setCell ⟨gn, k * 5 + 3, none⟩ (.slice A7 (L + 1) c7) := ⟨_, rfl⟩
    rw [← hWx] at hNw B1w B2w hBw hbw ⊢
    clear hWx hgw hB7 hb0 hl9 B1a B2a HBa ho' hg' hon7 k4' x7 f7 kb hof
    have k0 := B1w.cell_ 0
    have r0 := B2w.cell_ 0
    have t0 := B2w.free 0
    have k1 := B1w.cell_ 1
    have r1 := B2w.cell_ 1
    have t1 := B2w.free 1
    have k2 := B1w.cell_ 2
    have r2 := B2w.cell_ 2
    have t2 := B2w.free 2
    have k3 := B1w.cell_ 3
    have r3 := B2w.cell_ 3
    have t3 := B2w.free 3
    have k4 := B1w.cell_ 4
    have r4 := B2w.cell_ 4
    have t4 := B2w.free 4
    simp at k0 k1 k2 k3 k4 r0 r1 r2 r3 r4
    go_wp2_with fail
    have B2e := B2w.st5_ (.int .i64 s.nb) (.int .i64 s.nn) (.int .i64 s.ns) (.slice Ab6 s.bs.length cb6) (.slice (some ⟨gn, 0, none⟩) s.ts.length cn6)
    have hgE := st5_grown Wx (w.heap.size + 1) 0 (.int .i64 s.nb) (.int .i64 s.nn) (.int .i64 s.ns) (.slice Ab6 s.bs.length cb6) (.slice (some ⟨gn, 0, none⟩) s.ts.length cn6)
    have hBe := hBw.far hgE (by have := HW5.out; omega)
    have hNe := hNw.far hgE (by have := HW5.out; omega)
    have hbe := below_grown hbw hgE (by omega) hbw.size
    change bodyPost _ _ _ _ _ (st5 Wx (w.heap.size + 1) 0 (.int .i64 s.nb) (.int .i64 s.nn) (.int .i64 s.ns) (.slice Ab6 s.bs.length cb6) (.slice (some ⟨gn, 0, none⟩) s.ts.length cn6))
    clear hgE
    generalize st5 Wx (w.heap.size + 1) 0 (.int .i64 s.nb) (.int .i64 s.nn) (.int .i64 s.ns) (.slice Ab6 s.bs.length cb6) (.slice (some ⟨gn, 0, none⟩) s.ts.length cn6) = WF at B2e hBe hNe hbe ⊢
    apply bodyPost_ret (v := .tuple #[.agg #[.int .i64 s.nb, .int .i64 s.nn, .int .i64 s.ns, .slice Ab6 s.bs.length cb6, .slice (some ⟨gn, 0, none⟩) s.ts.length cn6], .int .i64 0])
    · exact results_cell1 Tryd.results18 _ WF (w.heap.size + 1) 25 _ (0, 0) _ rfl B2e Tryd.underlying25 rfl (by kernel_rfl)
    · rfl
    · refine ⟨_, rfl, ?_, hbe⟩
      rw [HRS.out]
      exact ShW.base_ (ShW.make (s := { s with ts := s.ts.set k { n with tg := tgIns n.tg x } }) (w := WF) (base := w5.heap.size) (vb := .slice Ab6 s.bs.length cb6) (vn := .slice (some ⟨gn, 0, none⟩) s.ts.length cn6) hBe hNe) (by have := HW5.out; omega)
end Go.Proofs.YtkaoechjekffmaaDoor
namespace Go.Proofs.YtkaoechjekffmaaDoor
open Go.ChangeShapes Go.WideShapes Go.ChangeAt Go.RowKit
attribute [local go_sem ↓] Go.wp_at_zero Go.wp_at_succ
theorem ShW.out {w : World} {base : Nat} {v : Value} {s : Sf} (h : ShW w base v s) : ∃ (A1 : Option Addr) (c1 : Nat) (A2 : Option Addr) (c2 : Nat), v = .agg #[.int .i64 s.nb, .int .i64 s.nn, .int .i64 s.ns, .slice A1 s.bs.length c1, .slice A2 s.ts.length c2] ∧ ShR w w.heap.size (.agg #[.int .i64 s.nb, .int .i64 s.nn, .int .i64 s.ns, .slice A1 s.bs.length c1, .slice A2 s.ts.length c2]) s := by
  have h2 := h.toR
  obtain ⟨A1, c1, A2, c2, rfl, -⟩ := h.parts
  exact ⟨A1, c1, A2, c2, rfl, h2⟩
theorem shtC_cases {s : Sf} {y : Int} {i : Nat} (h : shtC s y (i : Int) = 0) : ∃ k n, FdF s y k n ∧ ntOf s y = n ∧ i < n.sh.length := by
  have hf : findC s y = 0 := by
    unfold shtC at h
    by_cases h1 : findC s y = 0
    · exact h1
    · have h2 : (findC s y == 0) = false := by simpa using h1
      rw [h2] at h
      exact absurd h h1
  obtain ⟨k, n, hF⟩ := fdF_of hf
  refine ⟨k, n, hF, hF.of_, ?_⟩
  unfold shtC at h
  rw [hf, hF.of_] at h
  rcases Nat.lt_or_ge i n.sh.length with h1 | h1
  · exact h1
  · have h2 : decide ((n.sh.length : Int) ≤ (i : Int)) = true := decide_eq_true (by omega)
    rw [h2, Bool.or_true] at h
    cases h
theorem nrem_of (s : Sf) (v : Value) (y : Int) (i : Nat) (x : Int) (w : World) (hS : ShR w w.heap.size v s) (hT : Tabs w) (hc : shtC s y (i : Int) = 0) (hx : (ntOf s y).sh[i]? = some x) : Calls Tryd.prog 22 #[v, .int .i64 y, .int .i64 (i : Int)] w fun e' w' => ∃ v', e' = .returned (.tuple #[v', .int .i64 x, .int .i64 0]) ∧ ShW w' w.heap.size v' (remS s y (i : Int)) ∧ Below w.heap.size w w' := by
  obtain ⟨k, n, hF, hn, hi⟩ := shtC_cases hc
  rw [hn] at hx
  exact nrem_yes s v y w hS hT k n hF i x hx
theorem nsheet_go (s : Sf) (v : Value) (y : Int) (i : Nat) (x : Int) (w : World) (hS : ShR w w.heap.size v s) (hT : Tabs w) (hc : shtC s y (i : Int) = 0) (hx : (ntOf s y).sh[i]? = some x) : Calls Tryd.prog 12 #[v, .int .i64 y, .int .i64 (i : Int)] w fun e' w' => e' = .returned (.tuple #[.int .i64 x, .int .i64 0]) ∧ Below w.heap.size w w' := by
  obtain ⟨k, n, hF, hn, hi⟩ := shtC_cases hc
  rw [hn] at hx
  exact nsheet_yes s v y w hS hT k n hF i x hx
theorem napp_go (s : Sf) (v : Value) (y : Int) (w : World) (hS : ShR w w.heap.size v s) (hT : Tabs w) (hc : appC s y = 0) (q : Sf) (hq : appS s y = q) :
    Calls Tryd.prog 21 #[v, .int .i64 y] w fun e' w' => ∃ A1 c1 A2 c2, e' = .returned (.tuple #[.agg #[.int .i64 q.nb, .int .i64 q.nn, .int .i64 q.ns, .slice A1 q.bs.length c1, .slice A2 q.ts.length c2], .int .i64 s.ns, .int .i64 0]) ∧ ShR w' w'.heap.size (.agg #[.int .i64 q.nb, .int .i64 q.nn, .int .i64 q.ns, .slice A1 q.bs.length c1, .slice A2 q.ts.length c2]) q ∧ Below w.heap.size w w' := by
  subst hq
  refine (napp_yes s v y w hS hT hc).mono ?_
  rintro e' w' ⟨v', rfl, h1, h2⟩
  obtain ⟨A1, c1, A2, c2, rfl, h3⟩ := h1.out
  exact ⟨A1, c1, A2, c2, rfl, h3, h2⟩
theorem nrem_go (s : Sf) (v : Value) (y : Int) (i : Nat) (x : Int) (w : World) (hS : ShR w w.heap.size v s) (hT : Tabs w) (hc : shtC s y (i : Int) = 0) (hx : (ntOf s y).sh[i]? = some x) (q : Sf) (hq : remS s y (i : Int) = q) :
    Calls Tryd.prog 22 #[v, .int .i64 y, .int .i64 (i : Int)] w fun e' w' => ∃ A1 c1 A2 c2, e' = .returned (.tuple #[.agg #[.int .i64 q.nb, .int .i64 q.nn, .int .i64 q.ns, .slice A1 q.bs.length c1, .slice A2 q.ts.length c2], .int .i64 x, .int .i64 0]) ∧ ShR w' w'.heap.size (.agg #[.int .i64 q.nb, .int .i64 q.nn, .int .i64 q.ns, .slice A1 q.bs.length c1, .slice A2 q.ts.length c2]) q ∧ Below w.heap.size w w' := by
  subst hq
  refine (nrem_of s v y i x w hS hT hc hx).mono ?_
  rintro e' w' ⟨v', rfl, h1, h2⟩
  obtain ⟨A1, c1, A2, c2, rfl, h3⟩ := h1.out
  exact ⟨A1, c1, A2, c2, rfl, h3, h2⟩
theorem ntag_go (s : Sf) (v : Value) (y : Int) (x : ByteArray) (w : World) (hS : ShR w w.heap.size v s) (hT : Tabs w) (hc : tagC s y x = 0) (q : Sf) (hq : tagS s y x = q) :
    Calls Tryd.prog 18 #[v, .int .i64 y, .string x] w fun e' w' => ∃ A1 c1 A2 c2, e' = .returned (.tuple #[.agg #[.int .i64 q.nb, .int .i64 q.nn, .int .i64 q.ns, .slice A1 q.bs.length c1, .slice A2 q.ts.length c2], .int .i64 0]) ∧ ShR w' w'.heap.size (.agg #[.int .i64 q.nb, .int .i64 q.nn, .int .i64 q.ns, .slice A1 q.bs.length c1, .slice A2 q.ts.length c2]) q ∧ Below w.heap.size w w' := by
  subst hq
  refine (ntag_yes s v y x w hS hT hc).mono ?_
  rintro e' w' ⟨v', rfl, h1, h2⟩
  obtain ⟨A1, c1, A2, c2, rfl, h3⟩ := h1.out
  exact ⟨A1, c1, A2, c2, rfl, h3, h2⟩
def sN : ByteArray := ⟨#[110]⟩
def sBb : ByteArray := ⟨#[98]⟩
def sX : ByteArray := ⟨#[120]⟩
def sfO : Sf := ⟨2, 2, 1, [⟨1, sBb⟩], [⟨1, 1, sN, [], []⟩]⟩
def ntO : Nt := ⟨1, 1, sN, [], []⟩
theorem one_any (w : World) :
    Calls Tryd.prog 26 #[] w fun e' w' => ∃ A1 c1 A2 c2, e' = .returned (.agg #[.int .i64 sfO.nb, .int .i64 sfO.nn, .int .i64 sfO.ns, .slice A1 sfO.bs.length c1, .slice A2 sfO.ts.length c2]) ∧ ShR w' w'.heap.size (.agg #[.int .i64 sfO.nb, .int .i64 sfO.nn, .int .i64 sfO.ns, .slice A1 sfO.bs.length c1, .slice A2 sfO.ts.length c2]) sfO ∧ Below w.heap.size w w' := by
  have B0 : Blk (((w.alloc (.cells #[.int .i64 2, .int .i64 2, .int .i64 1, .slice (some ⟨w.heap.size + 1, 0, none⟩) 1 1, .slice (some ⟨w.heap.size + 2, 0, none⟩) 1 1] 25)).alloc (.cells #[.int .i64 1, .string ⟨#[98]⟩] 61)).alloc (.cells #[.int .i64 1, .int .i64 1, .string ⟨#[110]⟩, .slice none 0 0, .slice none 0 0] 49)) w.heap.size 25 #[.int .i64 2, .int .i64 2, .int .i64 1, .slice (some ⟨w.heap.size + 1, 0, none⟩) 1 1, .slice (some ⟨w.heap.size + 2, 0, none⟩) 1 1] := ((Blk.new_ w 25 #[.int .i64 2, .int .i64 2, .int .i64 1, .slice (some ⟨w.heap.size + 1, 0, none⟩) 1 1, .slice (some ⟨w.heap.size + 2, 0, none⟩) 1 1]).alloc_ _).alloc_ _
  have hb0 : Below w.heap.size w (((w.alloc (.cells #[.int .i64 2, .int .i64 2, .int .i64 1, .slice (some ⟨w.heap.size + 1, 0, none⟩) 1 1, .slice (some ⟨w.heap.size + 2, 0, none⟩) 1 1] 25)).alloc (.cells #[.int .i64 1, .string ⟨#[98]⟩] 61)).alloc (.cells #[.int .i64 1, .int .i64 1, .string ⟨#[110]⟩, .slice none 0 0, .slice none 0 0] 49)) := (((Below.refl w.heap.size w).alloc (Nat.le_refl _) _).alloc (by first | (simp; done) | (simp; omega)) _).alloc (by first | (simp; done) | (simp; omega)) _
  have hs1 : (w.alloc (.cells #[.int .i64 2, .int .i64 2, .int .i64 1, .slice (some ⟨w.heap.size + 1, 0, none⟩) 1 1, .slice (some ⟨w.heap.size + 2, 0, none⟩) 1 1] 25)).heap.size = w.heap.size + 1 := by simp
  have hs2 : ((w.alloc (.cells #[.int .i64 2, .int .i64 2, .int .i64 1, .slice (some ⟨w.heap.size + 1, 0, none⟩) 1 1, .slice (some ⟨w.heap.size + 2, 0, none⟩) 1 1] 25)).alloc (.cells #[.int .i64 1, .string ⟨#[98]⟩] 61)).heap.size = w.heap.size + 2 := by simp
  have hBk : BksW (((w.alloc (.cells #[.int .i64 2, .int .i64 2, .int .i64 1, .slice (some ⟨w.heap.size + 1, 0, none⟩) 1 1, .slice (some ⟨w.heap.size + 2, 0, none⟩) 1 1] 25)).alloc (.cells #[.int .i64 1, .string ⟨#[98]⟩] 61)).alloc (.cells #[.int .i64 1, .int .i64 1, .string ⟨#[110]⟩, .slice none 0 0, .slice none 0 0] 49)) (w.heap.size + 1) (.slice (some ⟨w.heap.size + 1, 0, none⟩) 1 1) sfO.bs := by
    have h := (World.ownsRow_lit (base := w.heap.size + 1) (e := 61) (size := 2) (w.alloc (.cells #[.int .i64 2, .int .i64 2, .int .i64 1, .slice (some ⟨w.heap.size + 1, 0, none⟩) 1 1, .slice (some ⟨w.heap.size + 2, 0, none⟩) 1 1] 25)) #[.int .i64 1, .string ⟨#[98]⟩] 1 (by rw [hs1]; omega) (by unfold maxLen; omega) rfl).alloc (.cells #[.int .i64 1, .int .i64 1, .string ⟨#[110]⟩, .slice none 0 0, .slice none 0 0] 49)
    rw [hs1] at h
    exact h
  have hNt : NtsW (((w.alloc (.cells #[.int .i64 2, .int .i64 2, .int .i64 1, .slice (some ⟨w.heap.size + 1, 0, none⟩) 1 1, .slice (some ⟨w.heap.size + 2, 0, none⟩) 1 1] 25)).alloc (.cells #[.int .i64 1, .string ⟨#[98]⟩] 61)).alloc (.cells #[.int .i64 1, .int .i64 1, .string ⟨#[110]⟩, .slice none 0 0, .slice none 0 0] 49)) (w.heap.size + 1) (.slice (some ⟨w.heap.size + 2, 0, none⟩) 1 1) sfO.ts := by
    have h := World.ownsRow_lit (base := w.heap.size + 1) (e := 49) (size := 5) ((w.alloc (.cells #[.int .i64 2, .int .i64 2, .int .i64 1, .slice (some ⟨w.heap.size + 1, 0, none⟩) 1 1, .slice (some ⟨w.heap.size + 2, 0, none⟩) 1 1] 25)).alloc (.cells #[.int .i64 1, .string ⟨#[98]⟩] 61)) #[.int .i64 1, .int .i64 1, .string ⟨#[110]⟩, .slice none 0 0, .slice none 0 0] 1 (by rw [hs2]; omega) (by unfold maxLen; omega) rfl
    rw [hs2] at h
    refine ⟨[ntC ntO (.slice none 0 0) (.slice none 0 0)], rfl, h, fun k n e a b => ?_⟩
    cases k with
    | zero =>
      cases a
      cases b
      exact ⟨_, _, rfl, World.ownsRow_nil _ _ _ _, World.ownsRow_nil _ _ _ _⟩
    | succ k => simp [sfO] at a
  go_enter Tryd.func26, Tryd.ntmps26
  go_wp2_with fail
  have hW := ShW.make (s := sfO) hBk hNt
  change bodyPost _ _ _ _ _ (((w.alloc (.cells #[.int .i64 2, .int .i64 2, .int .i64 1, .slice (some ⟨w.heap.size + 1, 0, none⟩) 1 1, .slice (some ⟨w.heap.size + 2, 0, none⟩) 1 1] 25)).alloc (.cells #[.int .i64 1, .string ⟨#[98]⟩] 61)).alloc (.cells #[.int .i64 1, .int .i64 1, .string ⟨#[110]⟩, .slice none 0 0, .slice none 0 0] 49))
  generalize (((w.alloc (.cells #[.int .i64 2, .int .i64 2, .int .i64 1, .slice (some ⟨w.heap.size + 1, 0, none⟩) 1 1, .slice (some ⟨w.heap.size + 2, 0, none⟩) 1 1] 25)).alloc (.cells #[.int .i64 1, .string ⟨#[98]⟩] 61)).alloc (.cells #[.int .i64 1, .int .i64 1, .string ⟨#[110]⟩, .slice none 0 0, .slice none 0 0] 49)) = WF at B0 hW hb0 ⊢
  apply bodyPost_ret (v := .agg #[.int .i64 2, .int .i64 2, .int .i64 1, .slice (some ⟨w.heap.size + 1, 0, none⟩) 1 1, .slice (some ⟨w.heap.size + 2, 0, none⟩) 1 1])
  · exact results_cell_row Tryd.results26 _ WF w.heap.size 25 _ (0, 0) _ rfl B0 Tryd.underlying25 rfl (by kernel_rfl)
  · rfl
  · exact ⟨_, _, _, _, rfl, hW.toR, hb0⟩
def sq1 : Sf := ⟨2, 2, 2, [⟨1, sBb⟩], [⟨1, 1, sN, [], [1]⟩]⟩
def sq2 : Sf := ⟨2, 2, 3, [⟨1, sBb⟩], [⟨1, 1, sN, [], [1, 2]⟩]⟩
def sq3 : Sf := ⟨2, 2, 3, [⟨1, sBb⟩], [⟨1, 1, sN, [], [2]⟩]⟩
def sqT : Sf := ⟨2, 2, 1, [⟨1, sBb⟩], [⟨1, 1, sN, [sX], []⟩]⟩
theorem aw1 (v : Value) (w : World) (hS : ShR w w.heap.size v sfO) (hT : Tabs w) :
    Calls Tryd.prog 21 #[v, .int .i64 1] w fun e' w' => ∃ A1 c1 A2 c2, e' = .returned (.tuple #[.agg #[.int .i64 2, .int .i64 2, .int .i64 2, .slice A1 1 c1, .slice A2 1 c2], .int .i64 1, .int .i64 0]) ∧ ShR w' w'.heap.size (.agg #[.int .i64 2, .int .i64 2, .int .i64 2, .slice A1 1 c1, .slice A2 1 c2]) sq1 ∧ Below w.heap.size w w' := napp_go sfO v 1 w hS hT (by decide +kernel) sq1 (by kernel_rfl)
theorem aw2 (v : Value) (w : World) (hS : ShR w w.heap.size v sq1) (hT : Tabs w) :
    Calls Tryd.prog 21 #[v, .int .i64 1] w fun e' w' => ∃ A1 c1 A2 c2, e' = .returned (.tuple #[.agg #[.int .i64 2, .int .i64 2, .int .i64 3, .slice A1 1 c1, .slice A2 1 c2], .int .i64 2, .int .i64 0]) ∧ ShR w' w'.heap.size (.agg #[.int .i64 2, .int .i64 2, .int .i64 3, .slice A1 1 c1, .slice A2 1 c2]) sq2 ∧ Below w.heap.size w w' := napp_go sq1 v 1 w hS hT (by decide +kernel) sq2 (by kernel_rfl)
theorem aw3 (v : Value) (w : World) (hS : ShR w w.heap.size v sq2) (hT : Tabs w) :
    Calls Tryd.prog 22 #[v, .int .i64 1, .int .i64 0] w fun e' w' => ∃ A1 c1 A2 c2, e' = .returned (.tuple #[.agg #[.int .i64 2, .int .i64 2, .int .i64 3, .slice A1 1 c1, .slice A2 1 c2], .int .i64 1, .int .i64 0]) ∧ ShR w' w'.heap.size (.agg #[.int .i64 2, .int .i64 2, .int .i64 3, .slice A1 1 c1, .slice A2 1 c2]) sq3 ∧ Below w.heap.size w w' := nrem_go sq2 v 1 0 1 w hS hT (by decide +kernel) (by decide +kernel) sq3 (by kernel_rfl)
theorem aw4 (v : Value) (w : World) (hS : ShR w w.heap.size v sq3) (hT : Tabs w) :
    Calls Tryd.prog 12 #[v, .int .i64 1, .int .i64 0] w fun e' w' => e' = .returned (.tuple #[.int .i64 2, .int .i64 0]) ∧ Below w.heap.size w w' := nsheet_go sq3 v 1 0 2 w hS hT (by decide +kernel) (by decide +kernel)
theorem aw5 (v : Value) (w : World) (hS : ShR w w.heap.size v sfO) (hT : Tabs w) :
    Calls Tryd.prog 18 #[v, .int .i64 1, .string ⟨#[120]⟩] w fun e' w' => ∃ A1 c1 A2 c2, e' = .returned (.tuple #[.agg #[.int .i64 2, .int .i64 2, .int .i64 1, .slice A1 1 c1, .slice A2 1 c2], .int .i64 0]) ∧ ShR w' w'.heap.size (.agg #[.int .i64 2, .int .i64 2, .int .i64 1, .slice A1 1 c1, .slice A2 1 c2]) sqT ∧ Below w.heap.size w w' := ntag_go sfO v 1 sX w hS hT (by decide +kernel) sqT (by kernel_rfl)
theorem one_lit (w : World) :
    Calls Tryd.prog 26 #[] w fun e' w' => ∃ A1 c1 A2 c2, e' = .returned (.agg #[.int .i64 2, .int .i64 2, .int .i64 1, .slice A1 1 c1, .slice A2 1 c2]) ∧ ShR w' w'.heap.size (.agg #[.int .i64 2, .int .i64 2, .int .i64 1, .slice A1 1 c1, .slice A2 1 c2]) sfO ∧ Below w.heap.size w w' := one_any w
theorem tag_row {w : World} {a b c : Int} {A B : Option Addr} {ca cb : Nat} (h : ShR w w.heap.size (.agg #[.int .i64 a, .int .i64 b, .int .i64 c, .slice A 1 ca, .slice B 1 cb]) sqT) : ∃ b1 o1 At ct, B = some ⟨b1, o1, none⟩ ∧ b1 < w.heap.size ∧ w.cell? ⟨b1, o1 + 3, none⟩ = some (.slice At 1 ct) ∧ Sl w w.heap.size At ([sX].map strV) := by
  obtain ⟨Ab, cb', An, cn, he, hB, hN, _⟩ := h.ex
  obtain ⟨es, hel, hse, hnt⟩ := hN.ex
  have hel1 : es.length = 1 := hel
  obtain ⟨e0, he0⟩ : ∃ e, es[0]? = some e := ⟨_, List.getElem?_eq_getElem (by omega)⟩
  obtain ⟨At, ct, As, cs, rfl, hAt, -⟩ := (hnt 0 ⟨1, 1, sN, [sX], []⟩ e0 rfl he0).ex
  obtain ⟨b1, o1, rfl, l1, q1⟩ := hse.at_ (by omega)
  have hAn : B = some ⟨b1, o1, none⟩ := by
    injection he with he
    have h4 := congrArg (fun x : Array Value => x[4]?) he
    simp at h4
    exact h4.1
  have y3 := q1 0 _ he0 3 _ rfl
  rw [Nat.zero_mul, Nat.add_zero] at y3
  exact ⟨b1, o1, At, ct, hAn, l1, y3, hAt⟩
theorem aw6 (A B : Option Addr) (c d : Nat) (w : World) (h1 : Sl w w.heap.size A ([sX].map strV)) (h2 : Sl w w.heap.size B ([sX].map strV)) : Calls Tryd.prog 27 #[.slice A 1 c, .slice B 1 d] w fun e' w' => e' = .returned (.bool true) ∧ Below w.heap.size w w' := sameTexts_yes [sX] A B c d w (by decide) h1 h2
theorem sl_one (w : World) (x : ByteArray) : Sl (w.alloc (.cells #[.string x] 9)) (w.alloc (.cells #[.string x] 9)).heap.size (some ⟨w.heap.size, 0, none⟩) ([x].map strV) := by
  refine Or.inr ⟨w.heap.size, 0, rfl, by simp, fun j u hj => ?_⟩
  cases j with
  | zero =>
    rw [Joins.cell_of_block (heap_alloc_new w _)]
    simp at hj
    rw [← hj]
    rfl
  | succ j => simp at hj
theorem aw7 (A : Option Addr) (c b : Nat) (w : World) (hb : b = w.heap.size) (h1 : Sl w w.heap.size A ([sX].map strV)) : Calls Tryd.prog 27 #[.slice A 1 c, .slice (some ⟨b, 0, none⟩) 1 1] (w.alloc (.cells #[.string ⟨#[120]⟩] 9)) fun e' w' => e' = .returned (.bool true) ∧ Below (w.alloc (.cells #[.string ⟨#[120]⟩] 9)).heap.size (w.alloc (.cells #[.string ⟨#[120]⟩] 9)) w' := by
  subst hb
  exact aw6 _ _ _ _ _ (h1.next ((Below.refl _ _).alloc (Nat.le_refl _) _)) (sl_one w sX)
theorem awake_any (w : World) (hT : Tabs w) :
    Calls Tryd.prog 9 #[] w fun e' w' => e' = .returned (.bool true) ∧ Below w.heap.size w w' := by
  have HB : Below w.heap.size w w := Below.refl _ _
  have T1 := hT
  clear hT
  go_enter Tryd.func9, Tryd.ntmps9
  go_wp2_with (first | (go_at_call 26; go_loud (((with_reducible refine (one_lit _).mono ?_); rintro e' w1 ⟨A1, c1, A2, c2, rfl, S0, bx⟩; have T1 := T1.next bx; have HB := btr HB HB.size bx; clear bx))) | (go_at_call 21; go_loud (((with_reducible refine (aw1 _ _ S0 T1).mono ?_); rintro e' w2 ⟨A3, c3, A4, c4, rfl, hN, bx⟩; have AL : Below w2.heap.size w2 (w2.alloc (.cells #[.int .i64 2, .int .i64 2, .int .i64 2, .slice A3 1 c3, .slice A4 1 c4] 25)) := (Below.refl _ _).alloc (Nat.le_refl _) _; have BX : Blk (w2.alloc (.cells #[.int .i64 2, .int .i64 2, .int .i64 2, .slice A3 1 c3, .slice A4 1 c4] 25)) w2.heap.size 25 #[.int .i64 2, .int .i64 2, .int .i64 2, .slice A3 1 c3, .slice A4 1 c4] := Blk.new_ w2 25 #[.int .i64 2, .int .i64 2, .int .i64 2, .slice A3 1 c3, .slice A4 1 c4]; have T1 := (T1.next bx).next AL; have HB := btr (btr HB HB.size bx) (btr HB HB.size bx).size AL; have S1 := hN.next AL; (try clear k0 k1 k2 k3 k4); have k0 := BX.cell_ 0; have k1 := BX.cell_ 1; have k2 := BX.cell_ 2; have k3 := BX.cell_ 3; have k4 := BX.cell_ 4; simp at k0 k1 k2 k3 k4; clear bx AL hN))) | (go_at_call 21; go_loud (((with_reducible refine (aw2 _ _ S1 T1).mono ?_); rintro e' w3 ⟨A5, c5, A6, c6, rfl, hN, bx⟩; have AL : Below w3.heap.size w3 (w3.alloc (.cells #[.int .i64 2, .int .i64 2, .int .i64 3, .slice A5 1 c5, .slice A6 1 c6] 25)) := (Below.refl _ _).alloc (Nat.le_refl _) _; have BX : Blk (w3.alloc (.cells #[.int .i64 2, .int .i64 2, .int .i64 3, .slice A5 1 c5, .slice A6 1 c6] 25)) w3.heap.size 25 #[.int .i64 2, .int .i64 2, .int .i64 3, .slice A5 1 c5, .slice A6 1 c6] := Blk.new_ w3 25 #[.int .i64 2, .int .i64 2, .int .i64 3, .slice A5 1 c5, .slice A6 1 c6]; have T1 := (T1.next bx).next AL; have HB := btr (btr HB HB.size bx) (btr HB HB.size bx).size AL; have S1 := hN.next AL; (try clear k0 k1 k2 k3 k4); have k0 := BX.cell_ 0; have k1 := BX.cell_ 1; have k2 := BX.cell_ 2; have k3 := BX.cell_ 3; have k4 := BX.cell_ 4; simp at k0 k1 k2 k3 k4; clear bx AL hN))) | (go_at_call 22; go_loud (((with_reducible refine (aw3 _ _ S1 T1).mono ?_); rintro e' w4 ⟨A7, c7, A8, c8, rfl, hN, bx⟩; have AL : Below w4.heap.size w4 (w4.alloc (.cells #[.int .i64 2, .int .i64 2, .int .i64 3, .slice A7 1 c7, .slice A8 1 c8] 25)) := (Below.refl _ _).alloc (Nat.le_refl _) _; have BX : Blk (w4.alloc (.cells #[.int .i64 2, .int .i64 2, .int .i64 3, .slice A7 1 c7, .slice A8 1 c8] 25)) w4.heap.size 25 #[.int .i64 2, .int .i64 2, .int .i64 3, .slice A7 1 c7, .slice A8 1 c8] := Blk.new_ w4 25 #[.int .i64 2, .int .i64 2, .int .i64 3, .slice A7 1 c7, .slice A8 1 c8]; have T1 := (T1.next bx).next AL; have HB := btr (btr HB HB.size bx) (btr HB HB.size bx).size AL; have S1 := hN.next AL; (try clear k0 k1 k2 k3 k4); have k0 := BX.cell_ 0; have k1 := BX.cell_ 1; have k2 := BX.cell_ 2; have k3 := BX.cell_ 3; have k4 := BX.cell_ 4; simp at k0 k1 k2 k3 k4; clear bx AL hN))) | (go_at_call 12; go_loud (((with_reducible refine (aw4 _ _ S1 T1).mono ?_); rintro e' w5 ⟨rfl, bx⟩; have T1 := T1.next bx; have HB := btr HB HB.size bx; clear bx S1; clear k0 k1 k2 k3 k4))) | (go_at_call 18; go_loud (((with_reducible refine (aw5 _ _ S0 T1).mono ?_); rintro e' w6 ⟨A9, c9, A10, c10, rfl, hN, bx⟩; have AL : Below w6.heap.size w6 (w6.alloc (.cells #[.int .i64 2, .int .i64 2, .int .i64 1, .slice A9 1 c9, .slice A10 1 c10] 25)) := (Below.refl _ _).alloc (Nat.le_refl _) _; have BX : Blk (w6.alloc (.cells #[.int .i64 2, .int .i64 2, .int .i64 1, .slice A9 1 c9, .slice A10 1 c10] 25)) w6.heap.size 25 #[.int .i64 2, .int .i64 2, .int .i64 1, .slice A9 1 c9, .slice A10 1 c10] := Blk.new_ w6 25 #[.int .i64 2, .int .i64 2, .int .i64 1, .slice A9 1 c9, .slice A10 1 c10]; have T1 := (T1.next bx).next AL; have HB := btr (btr HB HB.size bx) (btr HB HB.size bx).size AL; have S1 := hN.next AL; (try clear k0 k1 k2 k3 k4); have k0 := BX.cell_ 0; have k1 := BX.cell_ 1; have k2 := BX.cell_ 2; have k3 := BX.cell_ 3; have k4 := BX.cell_ 4; simp at k0 k1 k2 k3 k4; clear bx AL hN; obtain ⟨b1, o1, At, ct, rfl, SB, y3, TG⟩ := tag_row S1))) | (go_at_call 27; go_loud (((with_reducible refine (aw7 _ ct _ _ (by simp) TG).mono ?_); rintro e' w7 ⟨rfl, bx⟩; have HB := btr (HB.alloc HB.size _) (HB.alloc HB.size _).size bx))))
  go_ret
  exact ⟨rfl, HB⟩
end Go.Proofs.YtkaoechjekffmaaDoor
namespace Go.Proofs.YtkaoechjekffmaaDoor
open Go.ChangeShapes Go.WideShapes Go.ChangeAt Go.RowKit
attribute [local go_sem ↓] Go.wp_at_zero Go.wp_at_succ
theorem nrem_back (s q : Sf) (v : Value) (y : Int) (i : Nat) (x : Int) (w : World) (hS : ShR w w.heap.size v q) (hT : Tabs w) (hc : shtC q y (i : Int) = 0) (hx : (ntOf q y).sh[i]? = some x) (hb : { remS q y (i : Int) with ns := s.ns } = s) : Calls Tryd.prog 22 #[v, .int .i64 y, .int .i64 (i : Int)] w fun e' w' => ∃ z A1 c1 A2 c2, e' = .returned (.tuple #[.agg #[.int .i64 s.nb, .int .i64 s.nn, .int .i64 z, .slice A1 s.bs.length c1, .slice A2 s.ts.length c2], .int .i64 x, .int .i64 0]) ∧ ShR w' w'.heap.size (.agg #[.int .i64 s.nb, .int .i64 s.nn, .int .i64 s.ns, .slice A1 s.bs.length c1, .slice A2 s.ts.length c2]) s ∧ Below w.heap.size w w' := by
  refine (nrem_of q v y i x w hS hT hc hx).mono ?_
  rintro e' w' ⟨v', rfl, h1, h2⟩
  obtain ⟨A1, c1, A2, c2, rfl, h3, h4, g1, g2, g3, g4⟩ := h1.toR.ex
  generalize remS q y (i : Int) = r at *
  obtain ⟨z1, z2, z3, z4, z5⟩ := r
  have a1 : z1 = s.nb := congrArg Sf.nb hb
  have a2 : z2 = s.nn := congrArg Sf.nn hb
  have a3 : z4 = s.bs := congrArg Sf.bs hb
  have a4 : z5 = s.ts := congrArg Sf.ts hb
  subst a1 a2 a3 a4
  exact ⟨z3, A1, c1, A2, c2, rfl, ⟨A1, c1, A2, c2, rfl, h3, h4, g1, g2, g3, g4⟩, h2⟩
theorem sheets_walk (s : Sf) (v : Value) (y : Int) (w : World) (hS : ShR w w.heap.size v s) (hy : i64in y) (hT : Tabs w) :
    Calls Tryd.prog 6 #[v, .int .i64 y] w fun e' w' => e' = .returned (.bool true) ∧ Below w.heap.size w w' := by
  have hS0 := hS
  obtain ⟨Ab, cb, An, cn, rfl, hB, hN, hcb, hmb, hcn, hmn⟩ := hS.ex
  clear hS
  have HB : Below w.heap.size w (w.alloc (.cells #[.int .i64 s.nb, .int .i64 s.nn, .int .i64 s.ns, .slice Ab s.bs.length cb, .slice An s.ts.length cn] 25)) := ((Below.refl w.heap.size w).alloc (by first | (simp; done) | (simp; omega)) _)
  have B1 : Blk (w.alloc (.cells #[.int .i64 s.nb, .int .i64 s.nn, .int .i64 s.ns, .slice Ab s.bs.length cb, .slice An s.ts.length cn] 25)) w.heap.size 25 #[.int .i64 s.nb, .int .i64 s.nn, .int .i64 s.ns, .slice Ab s.bs.length cb, .slice An s.ts.length cn] := Blk.new_ w 25 #[.int .i64 s.nb, .int .i64 s.nn, .int .i64 s.ns, .slice Ab s.bs.length cb, .slice An s.ts.length cn]
  have S1 : ShR (w.alloc (.cells #[.int .i64 s.nb, .int .i64 s.nn, .int .i64 s.ns, .slice Ab s.bs.length cb, .slice An s.ts.length cn] 25)) ((w.alloc (.cells #[.int .i64 s.nb, .int .i64 s.nn, .int .i64 s.ns, .slice Ab s.bs.length cb, .slice An s.ts.length cn] 25))).heap.size (.agg #[.int .i64 s.nb, .int .i64 s.nn, .int .i64 s.ns, .slice Ab s.bs.length cb, .slice An s.ts.length cn]) s := hS0.next HB
  have T1 := hT.next HB
  obtain ⟨G, hG⟩ : ∃ G, greatS s = G := ⟨_, rfl⟩
  obtain ⟨M, hM⟩ : ∃ M, mayS s = M := ⟨_, rfl⟩
  have HG := Lib.hid hG
  have HM := Lib.hid hM
  clear hG hM hS0 hT hB hN hcb hmb hcn hmn
  cases G
  · cases M
    · skip
      go_enter Tryd.func6, Tryd.ntmps6
      go_wp2_with (first | (go_at_call 8; go_loud (((with_reducible refine (greatShelf_any s _ _ S1 _ HG.out).mono ?_); rintro e' w2 ⟨rfl, bx⟩; have T1 := T1.next bx; have HB := btr HB HB.size bx; have B1 := B1.below bx B1.lt; have S1 := S1.next bx; (try clear ks0 ks1 ks2 ks3 ks4); have ks0 := B1.cell_ 0; have ks1 := B1.cell_ 1; have ks2 := B1.cell_ 2; have ks3 := B1.cell_ 3; have ks4 := B1.cell_ 4; simp at ks0 ks1 ks2 ks3 ks4; clear bx))) | (go_at_call 17; go_loud (((with_reducible refine (smay_any s _ _ S1 T1 _ HM.out).mono ?_); rintro e' w3 ⟨rfl, bx⟩; have T1 := T1.next bx; have HB := btr HB HB.size bx; have B1 := B1.below bx B1.lt; have S1 := S1.next bx; (try clear ks0 ks1 ks2 ks3 ks4); have ks0 := B1.cell_ 0; have ks1 := B1.cell_ 1; have ks2 := B1.cell_ 2; have ks3 := B1.cell_ 3; have ks4 := B1.cell_ 4; simp at ks0 ks1 ks2 ks3 ks4; clear bx))) | (go_at_call 9; go_loud (((with_reducible refine (awake_any _ T1).mono ?_); rintro e' wA ⟨rfl, bx⟩; have HB := btr HB HB.size bx))))
      go_ret
      exact ⟨rfl, HB⟩
    · by_cases hap : appC s y = 0
      · obtain ⟨kn, n, hF⟩ := shtF_of hap
        obtain ⟨qa, hqa⟩ : ∃ q, appS s y = q := ⟨_, rfl⟩
        obtain ⟨L, hL⟩ : ∃ L, n.sh.length = L := ⟨_, rfl⟩
        have HC := Lib.hid hap
        have HQA := Lib.hid hqa
        have HMF := Lib.hid hF.fd.may
        have HNA := Lib.hid hF.fd.at_
        have HNN := Lib.hid hF.fd.nt
        have HLL := Lib.hid hL
        have hF2 : FdF qa y kn { n with sh := n.sh ++ [s.ns] } := by rw [← hqa]; exact hF.fd2
        have HRC : Hid (shtC qa y (L : Int) = 0) := Lib.hid (by rw [← hqa, ← hL]; exact hF.rem)
        have HBK : Hid ({ remS qa y (L : Int) with ns := s.ns } = s) := Lib.hid (by rw [← hqa, ← hL]; exact hF.back)
        have HXL : Hid ((ntOf qa y).sh[L]? = some s.ns) := Lib.hid (by rw [hF2.of_, ← hL]; simp)
        have HXJ : Hid (∀ (j : Nat) (x : Int), n.sh[j]? = some x → (ntOf qa y).sh[j]? = some x ∧ shtC qa y (j : Int) = 0) := Lib.hid (fun j x hx => by
          have hj := (List.getElem?_eq_some_iff.1 hx).1
          refine ⟨by rw [hF2.of_]; show (n.sh ++ [s.ns])[j]? = some x; rw [List.getElem?_append_left hj]; exact hx, ?_⟩
          exact (sht_at hF2).2 ⟨by omega, by show (j : Int) < ((n.sh ++ [s.ns]).length : Int); rw [List.length_append]; simp; omega⟩)
        have HRE : Hid (shtC qa y ((L : Int) + 1) = 2) := Lib.hid (by
          unfold shtC
          rw [findC_of hF2, hF2.of_]
          show (cond (decide ((L : Int) + 1 < 0) || decide (((n.sh ++ [s.ns]).length : Int) ≤ (L : Int) + 1)) 2 0 : Int) = 2
          rw [List.length_append, hL, decide_eq_true (p := (((L + [s.ns].length : Nat) : Int) ≤ (L : Int) + 1)) (by simp), Bool.or_true]
          rfl)
        have hL8 : L < 8 := by
          have := (appC_cases hap).2.1
          rw [hF.fd.of_] at this
          omega
        have hwr : IntKind.i64.wrap ((L : Int) + 1) = (L : Int) + 1 := wrapS _ (by omega) (by omega)
        have j0 : (0 : Int) ≤ (L : Int) := by omega
        clear hap hF hF2 hqa hL
        go_enter Tryd.func6, Tryd.ntmps6
        go_wp2_with (first | (go_at_call 8; go_loud (((with_reducible refine (greatShelf_any s _ _ S1 _ HG.out).mono ?_); rintro e' w2 ⟨rfl, bx⟩; have T1 := T1.next bx; have HB := btr HB HB.size bx; have B1 := B1.below bx B1.lt; have S1 := S1.next bx; (try clear ks0 ks1 ks2 ks3 ks4); have ks0 := B1.cell_ 0; have ks1 := B1.cell_ 1; have ks2 := B1.cell_ 2; have ks3 := B1.cell_ 3; have ks4 := B1.cell_ 4; simp at ks0 ks1 ks2 ks3 ks4; clear bx))) | (go_at_call 17; go_loud (((with_reducible refine (smay_any s _ _ S1 T1 _ HM.out).mono ?_); rintro e' w3 ⟨rfl, bx⟩; have T1 := T1.next bx; have HB := btr HB HB.size bx; have B1 := B1.below bx B1.lt; have S1 := S1.next bx; (try clear ks0 ks1 ks2 ks3 ks4); have ks0 := B1.cell_ 0; have ks1 := B1.cell_ 1; have ks2 := B1.cell_ 2; have ks3 := B1.cell_ 3; have ks4 := B1.cell_ 4; simp at ks0 ks1 ks2 ks3 ks4; clear bx))) | (go_at_call 19; go_loud (((with_reducible refine (find_yes s _ y _ S1 T1 HM.out kn n HNA.out HNN.out).mono ?_); rintro e' w10 ⟨v1, v2, rfl, p1, p2, bq⟩; obtain ⟨A11, c11, rfl, -, -⟩ := own_shape p1; obtain ⟨A12, c12, rfl, -, -⟩ := own_shape p2; rw [HLL.out] at p2 ⊢; clear p1; have AL : Below w10.heap.size w10 (w10.alloc (.cells #[.int .i64 n.id, .int .i64 n.bk, .string n.nm, .slice A11 n.tg.length c11, .slice A12 L c12] 49)) := (Below.refl _ _).alloc (Nat.le_refl _) _; have Bx : Blk (w10.alloc (.cells #[.int .i64 n.id, .int .i64 n.bk, .string n.nm, .slice A11 n.tg.length c11, .slice A12 L c12] 49)) w10.heap.size 49 #[.int .i64 n.id, .int .i64 n.bk, .string n.nm, .slice A11 n.tg.length c11, .slice A12 L c12] := Blk.new_ w10 49 #[.int .i64 n.id, .int .i64 n.bk, .string n.nm, .slice A11 n.tg.length c11, .slice A12 L c12]; have bx := btr bq bq.size AL; have P2 := (Sl.of_own p2).next AL; clear p2; have T1 := T1.next bx; have HB := btr HB HB.size bx; have B1 := B1.below bx B1.lt; have S1 := S1.next bx; (try clear ks0 ks1 ks2 ks3 ks4); have ks0 := B1.cell_ 0; have ks1 := B1.cell_ 1; have ks2 := B1.cell_ 2; have ks3 := B1.cell_ 3; have ks4 := B1.cell_ 4; have kx0 := Bx.cell_ 0; have kx1 := Bx.cell_ 1; have kx2 := Bx.cell_ 2; have kx3 := Bx.cell_ 3; have kx4 := Bx.cell_ 4; simp at ks0 ks1 ks2 ks3 ks4 kx0 kx1 kx2 kx3 kx4; clear bx bq AL))) | (go_at_call 21; go_loud (((with_reducible refine (napp_go s _ y _ S1 T1 HC.out qa HQA.out).mono ?_); rintro e' w11 ⟨A3, c3, A4, c4, rfl, hN, bq⟩; have AL : Below w11.heap.size w11 (w11.alloc (.cells #[.int .i64 qa.nb, .int .i64 qa.nn, .int .i64 qa.ns, .slice A3 qa.bs.length c3, .slice A4 qa.ts.length c4] 25)) := (Below.refl _ _).alloc (Nat.le_refl _) _; have Ba : Blk (w11.alloc (.cells #[.int .i64 qa.nb, .int .i64 qa.nn, .int .i64 qa.ns, .slice A3 qa.bs.length c3, .slice A4 qa.ts.length c4] 25)) w11.heap.size 25 #[.int .i64 qa.nb, .int .i64 qa.nn, .int .i64 qa.ns, .slice A3 qa.bs.length c3, .slice A4 qa.ts.length c4] := Blk.new_ w11 25 #[.int .i64 qa.nb, .int .i64 qa.nn, .int .i64 qa.ns, .slice A3 qa.bs.length c3, .slice A4 qa.ts.length c4]; have Sa := hN.next AL; have bx := btr bq bq.size AL; have T1 := T1.next bx; have HB := btr HB HB.size bx; have B1 := B1.below bx B1.lt; have S1 := S1.next bx; have Bx := Bx.below bx Bx.lt; (try clear ks0 ks1 ks2 ks3 ks4 kx0 kx1 kx2 kx3 kx4); have ks0 := B1.cell_ 0; have ks1 := B1.cell_ 1; have ks2 := B1.cell_ 2; have ks3 := B1.cell_ 3; have ks4 := B1.cell_ 4; have kx0 := Bx.cell_ 0; have kx1 := Bx.cell_ 1; have kx2 := Bx.cell_ 2; have kx3 := Bx.cell_ 3; have kx4 := Bx.cell_ 4; have ka0 := Ba.cell_ 0; have ka1 := Ba.cell_ 1; have ka2 := Ba.cell_ 2; have ka3 := Ba.cell_ 3; have ka4 := Ba.cell_ 4; simp at ks0 ks1 ks2 ks3 ks4 kx0 kx1 kx2 kx3 kx4 ka0 ka1 ka2 ka3 ka4; have P2 := P2.next bx; clear bx bq AL hN))))
        clear ks0 ks1 ks2 ks3 ks4 kx0 kx1 kx2 kx3 kx4 ka0 ka1 ka2 ka3 ka4
        obtain ⟨W, hW⟩ : ∃ V : World, V = w11.alloc (.cells #[.int .i64 qa.nb, .int .i64 qa.nn, .int .i64 qa.ns, .slice A3 qa.bs.length c3, .slice A4 qa.ts.length c4] 25) := ⟨_, rfl⟩
        rw [← hW] at B1 Bx Ba S1 Sa T1 HB P2 ⊢
        clear hW
        go_loopw [10] (fun i wr => ∃ j : Nat, j ≤ L ∧ i = .int .i64 (j : Int) ∧ Below W.heap.size W wr) (fun i _ => L - (intOf i).toNat)
        case atStart => exact ⟨0, Nat.zero_le _, rfl, Below.refl _ _⟩
        case round =>
          obtain ⟨j, hj, rfl, HBr⟩ := hrel
          have bz := HBr
          have T1 := T1.next bz; have HB := btr HB HB.size bz; have B1 := B1.below bz B1.lt; have S1 := S1.next bz; have Bx := Bx.below bz Bx.lt; have Ba := Ba.below bz Ba.lt; have Sa := Sa.next bz; (try clear ks0 ks1 ks2 ks3 ks4 kx0 kx1 kx2 kx3 kx4 ka0 ka1 ka2 ka3 ka4); have ks0 := B1.cell_ 0; have ks1 := B1.cell_ 1; have ks2 := B1.cell_ 2; have ks3 := B1.cell_ 3; have ks4 := B1.cell_ 4; have kx0 := Bx.cell_ 0; have kx1 := Bx.cell_ 1; have kx2 := Bx.cell_ 2; have kx3 := Bx.cell_ 3; have kx4 := Bx.cell_ 4; have ka0 := Ba.cell_ 0; have ka1 := Ba.cell_ 1; have ka2 := Ba.cell_ 2; have ka3 := Ba.cell_ 3; have ka4 := Ba.cell_ 4; simp at ks0 ks1 ks2 ks3 ks4 kx0 kx1 kx2 kx3 kx4 ka0 ka1 ka2 ka3 ka4
          clear bz
          by_cases hlt : j < L
          · obtain ⟨x, hx⟩ : ∃ x, n.sh[j]? = some x := ⟨_, List.getElem?_eq_getElem (by rw [HLL.out]; exact hlt)⟩
            have HX := Lib.hid (HXJ.out j x hx).1
            have HSC := Lib.hid (HXJ.out j x hx).2
            have Z1 := T1
            have Z2 := HB
            have Z3 := B1
            have Z4 := S1
            obtain ⟨b2, o2, rfl, l2, q2⟩ := P2.at_ (by rw [List.length_map, HLL.out]; omega)
            have x5 := (HBr.cell (p := ⟨b2, o2 + j, none⟩) l2).trans (q2 j _ (by rw [List.getElem?_map, hx]; rfl))
            have hb2 : b2 < wr.heap.size := by have := HBr.size; omega
            have T1 := Z1
            have HB := Z2
            have B1 := Z3
            have S1 := Z4
            clear Z1 Z2 Z3 Z4
            have i0 : (0 : Int) ≤ (j : Int) := by omega
            have i1 : (j : Int) < (L : Int) := by omega
            clear hx q2 P2
            go_wp2_with (first | (go_at_call 12; go_loud (((with_reducible refine (nsheet_go qa _ y j x _ Sa T1 HSC.out HX.out).mono ?_); rintro e' w12 ⟨rfl, bx⟩; have T1 := T1.next bx; have HB := btr HB HB.size bx; have B1 := B1.below bx B1.lt; have S1 := S1.next bx; have Bx := Bx.below bx Bx.lt; have Ba := Ba.below bx Ba.lt; have Sa := Sa.next bx; (try clear ks0 ks1 ks2 ks3 ks4 kx0 kx1 kx2 kx3 kx4 ka0 ka1 ka2 ka3 ka4); have ks0 := B1.cell_ 0; have ks1 := B1.cell_ 1; have ks2 := B1.cell_ 2; have ks3 := B1.cell_ 3; have ks4 := B1.cell_ 4; have kx0 := Bx.cell_ 0; have kx1 := Bx.cell_ 1; have kx2 := Bx.cell_ 2; have kx3 := Bx.cell_ 3; have kx4 := Bx.cell_ 4; have ka0 := Ba.cell_ 0; have ka1 := Ba.cell_ 1; have ka2 := Ba.cell_ 2; have ka3 := Ba.cell_ 3; have ka4 := Ba.cell_ 4; simp at ks0 ks1 ks2 ks3 ks4 kx0 kx1 kx2 kx3 kx4 ka0 ka1 ka2 ka3 ka4; have x6 := (bx.cell (p := ⟨b2, o2 + j, none⟩) hb2).trans x5; have HBr := btr HBr HBr.size bx; clear bx))))
            go_roundw
            case rel => exact ⟨j + 1, by omega, by go_num, HBr⟩
            case measure => simp [intOf]; omega
          · have hjL : L = j := by omega
            subst hjL
            clear hlt HXJ
            have HLB : Hid (s.bs.length ≤ 100000) := Lib.hid (by have := HMF.out.bl; omega)
            have HLN : Hid (s.ts.length ≤ 100000) := Lib.hid (by have := HMF.out.tl; omega)
            go_upto_region 15 with (first | (go_at_call 12; go_loud (((with_reducible refine (nsheet_go qa _ y L s.ns _ Sa T1 HRC.out HXL.out).mono ?_); rintro e' w12 ⟨rfl, bx⟩; have T1 := T1.next bx; have HB := btr HB HB.size bx; have B1 := B1.below bx B1.lt; have S1 := S1.next bx; have Bx := Bx.below bx Bx.lt; have Ba := Ba.below bx Ba.lt; have Sa := Sa.next bx; (try clear ks0 ks1 ks2 ks3 ks4 kx0 kx1 kx2 kx3 kx4 ka0 ka1 ka2 ka3 ka4); have ks0 := B1.cell_ 0; have ks1 := B1.cell_ 1; have ks2 := B1.cell_ 2; have ks3 := B1.cell_ 3; have ks4 := B1.cell_ 4; have kx0 := Bx.cell_ 0; have kx1 := Bx.cell_ 1; have kx2 := Bx.cell_ 2; have kx3 := Bx.cell_ 3; have kx4 := Bx.cell_ 4; have ka0 := Ba.cell_ 0; have ka1 := Ba.cell_ 1; have ka2 := Ba.cell_ 2; have ka3 := Ba.cell_ 3; have ka4 := Ba.cell_ 4; simp at ks0 ks1 ks2 ks3 ks4 kx0 kx1 kx2 kx3 kx4 ka0 ka1 ka2 ka3 ka4; clear bx))) | (go_at_call 22; go_loud (((with_reducible refine (nrem_back s qa _ y L s.ns _ Sa T1 HRC.out HXL.out HBK.out).mono ?_); rintro e' w13 ⟨z, A5, c5, A6, c6, rfl, hN, bq⟩; have T1 := T1.next bq; have HB := btr HB HB.size bq; have B1 := B1.below bq B1.lt; have S1 := S1.next bq; have Bx := Bx.below bq Bx.lt; have Ba := Ba.below bq Ba.lt; have Sa := Sa.next bq; (try clear ks0 ks1 ks2 ks3 ks4 kx0 kx1 kx2 kx3 kx4 ka0 ka1 ka2 ka3 ka4); have ks0 := B1.cell_ 0; have ks1 := B1.cell_ 1; have ks2 := B1.cell_ 2; have ks3 := B1.cell_ 3; have ks4 := B1.cell_ 4; have kx0 := Bx.cell_ 0; have kx1 := Bx.cell_ 1; have kx2 := Bx.cell_ 2; have kx3 := Bx.cell_ 3; have kx4 := Bx.cell_ 4; have ka0 := Ba.cell_ 0; have ka1 := Ba.cell_ 1; have ka2 := Ba.cell_ 2; have ka3 := Ba.cell_ 3; have ka4 := Ba.cell_ 4; simp at ks0 ks1 ks2 ks3 ks4 kx0 kx1 kx2 kx3 kx4 ka0 ka1 ka2 ka3 ka4; clear bq))))
            have AL : Below w13.heap.size w13 (w13.alloc (.cells #[.int .i64 s.nb, .int .i64 s.nn, .int .i64 z, .slice A5 s.bs.length c5, .slice A6 s.ts.length c6] 25)) := (Below.refl _ _).alloc (Nat.le_refl _) _
            have Bb : Blk (w13.alloc (.cells #[.int .i64 s.nb, .int .i64 s.nn, .int .i64 z, .slice A5 s.bs.length c5, .slice A6 s.ts.length c6] 25)) w13.heap.size 25 #[.int .i64 s.nb, .int .i64 s.nn, .int .i64 z, .slice A5 s.bs.length c5, .slice A6 s.ts.length c6] := Blk.new_ w13 25 #[.int .i64 s.nb, .int .i64 s.nn, .int .i64 z, .slice A5 s.bs.length c5, .slice A6 s.ts.length c6]
            clear ks0 ks1 ks2 ks3 ks4 kx0 kx1 kx2 kx3 kx4 ka0 ka1 ka2 ka3 ka4
            obtain ⟨Wb, hWb⟩ : ∃ V : World, V = w13.alloc (.cells #[.int .i64 s.nb, .int .i64 s.nn, .int .i64 z, .slice A5 s.bs.length c5, .slice A6 s.ts.length c6] 25) := ⟨_, rfl⟩
            rw [← hWb] at AL Bb ⊢
            clear hWb
            have ks2 := (B1.below AL B1.lt).cell_ 2
            simp at ks2
            have tb2 := Bb.free 2
            have kb2 := Bb.cell_ 2
            simp at kb2
            go_upto_region 16 with fail
            have hg := set1_grown Wb w13.heap.size 2 (.int .i64 s.ns)
            have AL2 := below_grown AL hg (Nat.le_refl _) AL.size
            have Bb := Bb.set_ 2 (.int .i64 s.ns)
            simp at Bb
            clear ks2 tb2 kb2 hg AL
            obtain ⟨Wc, hWc⟩ : ∃ V : World, V = Wb.setCell ⟨w13.heap.size, 2, none⟩ (.int .i64 s.ns) := ⟨_, rfl⟩
            rw [← hWc] at AL2 Bb ⊢
            clear hWc
            have Sb := hN.next AL2
            have T1 := T1.next AL2; have HB := btr HB HB.size AL2; have B1 := B1.below AL2 B1.lt; have S1 := S1.next AL2; have Bx := Bx.below AL2 Bx.lt; have Ba := Ba.below AL2 Ba.lt; have Sa := Sa.next AL2; (try clear ks0 ks1 ks2 ks3 ks4 kx0 kx1 kx2 kx3 kx4 ka0 ka1 ka2 ka3 ka4); have ks0 := B1.cell_ 0; have ks1 := B1.cell_ 1; have ks2 := B1.cell_ 2; have ks3 := B1.cell_ 3; have ks4 := B1.cell_ 4; have kx0 := Bx.cell_ 0; have kx1 := Bx.cell_ 1; have kx2 := Bx.cell_ 2; have kx3 := Bx.cell_ 3; have kx4 := Bx.cell_ 4; have ka0 := Ba.cell_ 0; have ka1 := Ba.cell_ 1; have ka2 := Ba.cell_ 2; have ka3 := Ba.cell_ 3; have ka4 := Ba.cell_ 4; have kb0 := Bb.cell_ 0; have kb1 := Bb.cell_ 1; have kb2 := Bb.cell_ 2; have kb3 := Bb.cell_ 3; have kb4 := Bb.cell_ 4; simp at ks0 ks1 ks2 ks3 ks4 kx0 kx1 kx2 kx3 kx4 ka0 ka1 ka2 ka3 ka4 kb0 kb1 kb2 kb3 kb4
            clear AL2 hN
            go_wp2_with (first | (go_at_call 12; go_loud (((with_reducible refine (nsheet_no qa _ y ((L : Int) + 1) _ Sa T1 2 HRE.out (by decide)).mono ?_); rintro e' w14 ⟨rfl, bx⟩; have T1 := T1.next bx; have HB := btr HB HB.size bx; have B1 := B1.below bx B1.lt; have S1 := S1.next bx; have Bx := Bx.below bx Bx.lt; have Ba := Ba.below bx Ba.lt; have Sa := Sa.next bx; have Bb := Bb.below bx Bb.lt; have Sb := Sb.next bx; (try clear ks0 ks1 ks2 ks3 ks4 kx0 kx1 kx2 kx3 kx4 ka0 ka1 ka2 ka3 ka4 kb0 kb1 kb2 kb3 kb4); have ks0 := B1.cell_ 0; have ks1 := B1.cell_ 1; have ks2 := B1.cell_ 2; have ks3 := B1.cell_ 3; have ks4 := B1.cell_ 4; have kx0 := Bx.cell_ 0; have kx1 := Bx.cell_ 1; have kx2 := Bx.cell_ 2; have kx3 := Bx.cell_ 3; have kx4 := Bx.cell_ 4; have ka0 := Ba.cell_ 0; have ka1 := Ba.cell_ 1; have ka2 := Ba.cell_ 2; have ka3 := Ba.cell_ 3; have ka4 := Ba.cell_ 4; have kb0 := Bb.cell_ 0; have kb1 := Bb.cell_ 1; have kb2 := Bb.cell_ 2; have kb3 := Bb.cell_ 3; have kb4 := Bb.cell_ 4; simp at ks0 ks1 ks2 ks3 ks4 kx0 kx1 kx2 kx3 kx4 ka0 ka1 ka2 ka3 ka4 kb0 kb1 kb2 kb3 kb4; clear bx))) | (go_at_call 16; go_loud (((with_reducible refine (sameShelf_yes s _ _ _ Sb S1 HLB.out HLN.out HMF.out.small).mono ?_); rintro e' w15 ⟨rfl, bx⟩; have T1 := T1.next bx; have HB := btr HB HB.size bx; have B1 := B1.below bx B1.lt; have S1 := S1.next bx; have Bx := Bx.below bx Bx.lt; have Ba := Ba.below bx Ba.lt; have Sa := Sa.next bx; have Bb := Bb.below bx Bb.lt; have Sb := Sb.next bx; (try clear ks0 ks1 ks2 ks3 ks4 kx0 kx1 kx2 kx3 kx4 ka0 ka1 ka2 ka3 ka4 kb0 kb1 kb2 kb3 kb4); have ks0 := B1.cell_ 0; have ks1 := B1.cell_ 1; have ks2 := B1.cell_ 2; have ks3 := B1.cell_ 3; have ks4 := B1.cell_ 4; have kx0 := Bx.cell_ 0; have kx1 := Bx.cell_ 1; have kx2 := Bx.cell_ 2; have kx3 := Bx.cell_ 3; have kx4 := Bx.cell_ 4; have ka0 := Ba.cell_ 0; have ka1 := Ba.cell_ 1; have ka2 := Ba.cell_ 2; have ka3 := Ba.cell_ 3; have ka4 := Ba.cell_ 4; have kb0 := Bb.cell_ 0; have kb1 := Bb.cell_ 1; have kb2 := Bb.cell_ 2; have kb3 := Bb.cell_ 3; have kb4 := Bb.cell_ 4; simp at ks0 ks1 ks2 ks3 ks4 kx0 kx1 kx2 kx3 kx4 ka0 ka1 ka2 ka3 ka4 kb0 kb1 kb2 kb3 kb4; clear bx))) | (go_at_call 9; go_loud (((with_reducible refine (awake_any _ T1).mono ?_); rintro e' wA ⟨rfl, bx⟩; have HB := btr HB HB.size bx))))
            go_ret
            exact ⟨rfl, HB⟩
      · obtain ⟨er, her⟩ : ∃ c, appC s y = c := ⟨_, rfl⟩
        have hce : er ≠ 0 := by rw [← her]; exact hap
        have HC := Lib.hid her
        by_cases hna : noteAt s y < 0
        · have h4 : er = 4 := by
            rw [← her]
            unfold appC findC
            rw [HM.out, decide_eq_true hna]
            rfl
          subst h4
          have HNA := Lib.hid hna
          clear hap her hna
          go_enter Tryd.func6, Tryd.ntmps6
          go_wp2_with (first | (go_at_call 8; go_loud (((with_reducible refine (greatShelf_any s _ _ S1 _ HG.out).mono ?_); rintro e' w2 ⟨rfl, bx⟩; have T1 := T1.next bx; have HB := btr HB HB.size bx; have B1 := B1.below bx B1.lt; have S1 := S1.next bx; (try clear ks0 ks1 ks2 ks3 ks4); have ks0 := B1.cell_ 0; have ks1 := B1.cell_ 1; have ks2 := B1.cell_ 2; have ks3 := B1.cell_ 3; have ks4 := B1.cell_ 4; simp at ks0 ks1 ks2 ks3 ks4; clear bx))) | (go_at_call 17; go_loud (((with_reducible refine (smay_any s _ _ S1 T1 _ HM.out).mono ?_); rintro e' w3 ⟨rfl, bx⟩; have T1 := T1.next bx; have HB := btr HB HB.size bx; have B1 := B1.below bx B1.lt; have S1 := S1.next bx; (try clear ks0 ks1 ks2 ks3 ks4); have ks0 := B1.cell_ 0; have ks1 := B1.cell_ 1; have ks2 := B1.cell_ 2; have ks3 := B1.cell_ 3; have ks4 := B1.cell_ 4; simp at ks0 ks1 ks2 ks3 ks4; clear bx))) | (go_at_call 19; go_loud (((with_reducible refine (find_no s _ y _ S1 T1 _ HM.out (Or.inr HNA.out)).mono ?_); rintro e' w10 ⟨rfl, bq⟩; have AL : Below w10.heap.size w10 (w10.alloc (.cells #[.int .i64 0, .int .i64 0, .string ⟨#[]⟩, .slice none 0 0, .slice none 0 0] 49)) := (Below.refl _ _).alloc (Nat.le_refl _) _; have Bx : Blk (w10.alloc (.cells #[.int .i64 0, .int .i64 0, .string ⟨#[]⟩, .slice none 0 0, .slice none 0 0] 49)) w10.heap.size 49 #[.int .i64 0, .int .i64 0, .string ⟨#[]⟩, .slice none 0 0, .slice none 0 0] := Blk.new_ w10 49 #[.int .i64 0, .int .i64 0, .string ⟨#[]⟩, .slice none 0 0, .slice none 0 0]; have bx := btr bq bq.size AL; have T1 := T1.next bx; have HB := btr HB HB.size bx; have B1 := B1.below bx B1.lt; have S1 := S1.next bx; (try clear ks0 ks1 ks2 ks3 ks4); have ks0 := B1.cell_ 0; have ks1 := B1.cell_ 1; have ks2 := B1.cell_ 2; have ks3 := B1.cell_ 3; have ks4 := B1.cell_ 4; have kx0 := Bx.cell_ 0; have kx1 := Bx.cell_ 1; have kx2 := Bx.cell_ 2; have kx3 := Bx.cell_ 3; have kx4 := Bx.cell_ 4; simp at ks0 ks1 ks2 ks3 ks4 kx0 kx1 kx2 kx3 kx4; clear bx bq AL))) | (go_at_call 21; go_loud (((with_reducible refine (napp_no s _ y _ S1 T1 4 HC.out (by decide)).mono ?_); rintro e' w11 ⟨rfl, bq⟩; have AL : Below w11.heap.size w11 (w11.alloc (.cells #[.int .i64 0, .int .i64 0, .int .i64 0, .slice none 0 0, .slice none 0 0] 25)) := (Below.refl _ _).alloc (Nat.le_refl _) _; have Ba : Blk (w11.alloc (.cells #[.int .i64 0, .int .i64 0, .int .i64 0, .slice none 0 0, .slice none 0 0] 25)) w11.heap.size 25 #[.int .i64 0, .int .i64 0, .int .i64 0, .slice none 0 0, .slice none 0 0] := Blk.new_ w11 25 #[.int .i64 0, .int .i64 0, .int .i64 0, .slice none 0 0, .slice none 0 0]; have bx := btr bq bq.size AL; have T1 := T1.next bx; have HB := btr HB HB.size bx; have B1 := B1.below bx B1.lt; have S1 := S1.next bx; have Bx := Bx.below bx Bx.lt; (try clear ks0 ks1 ks2 ks3 ks4 kx0 kx1 kx2 kx3 kx4); have ks0 := B1.cell_ 0; have ks1 := B1.cell_ 1; have ks2 := B1.cell_ 2; have ks3 := B1.cell_ 3; have ks4 := B1.cell_ 4; have kx0 := Bx.cell_ 0; have kx1 := Bx.cell_ 1; have kx2 := Bx.cell_ 2; have kx3 := Bx.cell_ 3; have kx4 := Bx.cell_ 4; have ka0 := Ba.cell_ 0; have ka1 := Ba.cell_ 1; have ka2 := Ba.cell_ 2; have ka3 := Ba.cell_ 3; have ka4 := Ba.cell_ 4; simp at ks0 ks1 ks2 ks3 ks4 kx0 kx1 kx2 kx3 kx4 ka0 ka1 ka2 ka3 ka4; clear bx bq AL))) | (go_at_call 9; go_loud (((with_reducible refine (awake_any _ T1).mono ?_); rintro e' wA ⟨rfl, bx⟩; have HB := btr HB HB.size bx))))
          go_ret
          exact ⟨rfl, HB⟩
        · obtain ⟨kn, n, hkn, hnn, hnid⟩ := noteAt_get (Int.not_lt.1 hna)
          have h3 : er = 3 := by
            have hf : findC s y = 0 := by
              unfold findC
              rw [HM.out, decide_eq_false hna]
              rfl
            rw [← her] at hce ⊢
            unfold appC at hce ⊢
            rw [hf] at hce ⊢
            cases hb : (decide (8 ≤ (ntOf s y).sh.length) || decide (4096 ≤ s.ns))
            · rw [hb] at hce
              exact absurd rfl hce
            · rfl
          subst h3
          have HNA := Lib.hid hkn
          have HNN := Lib.hid hnn
          obtain ⟨L, hL⟩ : ∃ L, n.sh.length = L := ⟨_, rfl⟩
          have HLL := Lib.hid hL
          clear hap her hna hkn hnn hnid hL
          go_enter Tryd.func6, Tryd.ntmps6
          go_wp2_with (first | (go_at_call 8; go_loud (((with_reducible refine (greatShelf_any s _ _ S1 _ HG.out).mono ?_); rintro e' w2 ⟨rfl, bx⟩; have T1 := T1.next bx; have HB := btr HB HB.size bx; have B1 := B1.below bx B1.lt; have S1 := S1.next bx; (try clear ks0 ks1 ks2 ks3 ks4); have ks0 := B1.cell_ 0; have ks1 := B1.cell_ 1; have ks2 := B1.cell_ 2; have ks3 := B1.cell_ 3; have ks4 := B1.cell_ 4; simp at ks0 ks1 ks2 ks3 ks4; clear bx))) | (go_at_call 17; go_loud (((with_reducible refine (smay_any s _ _ S1 T1 _ HM.out).mono ?_); rintro e' w3 ⟨rfl, bx⟩; have T1 := T1.next bx; have HB := btr HB HB.size bx; have B1 := B1.below bx B1.lt; have S1 := S1.next bx; (try clear ks0 ks1 ks2 ks3 ks4); have ks0 := B1.cell_ 0; have ks1 := B1.cell_ 1; have ks2 := B1.cell_ 2; have ks3 := B1.cell_ 3; have ks4 := B1.cell_ 4; simp at ks0 ks1 ks2 ks3 ks4; clear bx))) | (go_at_call 19; go_loud (((with_reducible refine (find_yes s _ y _ S1 T1 HM.out kn n HNA.out HNN.out).mono ?_); rintro e' w10 ⟨v1, v2, rfl, p1, p2, bq⟩; obtain ⟨A11, c11, rfl, -, -⟩ := own_shape p1; obtain ⟨A12, c12, rfl, -, -⟩ := own_shape p2; rw [HLL.out] at p2 ⊢; clear p1; have AL : Below w10.heap.size w10 (w10.alloc (.cells #[.int .i64 n.id, .int .i64 n.bk, .string n.nm, .slice A11 n.tg.length c11, .slice A12 L c12] 49)) := (Below.refl _ _).alloc (Nat.le_refl _) _; have Bx : Blk (w10.alloc (.cells #[.int .i64 n.id, .int .i64 n.bk, .string n.nm, .slice A11 n.tg.length c11, .slice A12 L c12] 49)) w10.heap.size 49 #[.int .i64 n.id, .int .i64 n.bk, .string n.nm, .slice A11 n.tg.length c11, .slice A12 L c12] := Blk.new_ w10 49 #[.int .i64 n.id, .int .i64 n.bk, .string n.nm, .slice A11 n.tg.length c11, .slice A12 L c12]; have bx := btr bq bq.size AL; have P2 := (Sl.of_own p2).next AL; clear p2; have T1 := T1.next bx; have HB := btr HB HB.size bx; have B1 := B1.below bx B1.lt; have S1 := S1.next bx; (try clear ks0 ks1 ks2 ks3 ks4); have ks0 := B1.cell_ 0; have ks1 := B1.cell_ 1; have ks2 := B1.cell_ 2; have ks3 := B1.cell_ 3; have ks4 := B1.cell_ 4; have kx0 := Bx.cell_ 0; have kx1 := Bx.cell_ 1; have kx2 := Bx.cell_ 2; have kx3 := Bx.cell_ 3; have kx4 := Bx.cell_ 4; simp at ks0 ks1 ks2 ks3 ks4 kx0 kx1 kx2 kx3 kx4; clear bx bq AL))) | (go_at_call 21; go_loud (((with_reducible refine (napp_no s _ y _ S1 T1 3 HC.out (by decide)).mono ?_); rintro e' w11 ⟨rfl, bq⟩; have AL : Below w11.heap.size w11 (w11.alloc (.cells #[.int .i64 0, .int .i64 0, .int .i64 0, .slice none 0 0, .slice none 0 0] 25)) := (Below.refl _ _).alloc (Nat.le_refl _) _; have Ba : Blk (w11.alloc (.cells #[.int .i64 0, .int .i64 0, .int .i64 0, .slice none 0 0, .slice none 0 0] 25)) w11.heap.size 25 #[.int .i64 0, .int .i64 0, .int .i64 0, .slice none 0 0, .slice none 0 0] := Blk.new_ w11 25 #[.int .i64 0, .int .i64 0, .int .i64 0, .slice none 0 0, .slice none 0 0]; have bx := btr bq bq.size AL; have T1 := T1.next bx; have HB := btr HB HB.size bx; have B1 := B1.below bx B1.lt; have S1 := S1.next bx; have Bx := Bx.below bx Bx.lt; (try clear ks0 ks1 ks2 ks3 ks4 kx0 kx1 kx2 kx3 kx4); have ks0 := B1.cell_ 0; have ks1 := B1.cell_ 1; have ks2 := B1.cell_ 2; have ks3 := B1.cell_ 3; have ks4 := B1.cell_ 4; have kx0 := Bx.cell_ 0; have kx1 := Bx.cell_ 1; have kx2 := Bx.cell_ 2; have kx3 := Bx.cell_ 3; have kx4 := Bx.cell_ 4; have ka0 := Ba.cell_ 0; have ka1 := Ba.cell_ 1; have ka2 := Ba.cell_ 2; have ka3 := Ba.cell_ 3; have ka4 := Ba.cell_ 4; simp at ks0 ks1 ks2 ks3 ks4 kx0 kx1 kx2 kx3 kx4 ka0 ka1 ka2 ka3 ka4; clear bx bq AL))) | (go_at_call 9; go_loud (((with_reducible refine (awake_any _ T1).mono ?_); rintro e' wA ⟨rfl, bx⟩; have HB := btr HB HB.size bx))))
          go_ret
          exact ⟨rfl, HB⟩
  · skip
    go_enter Tryd.func6, Tryd.ntmps6
    go_wp2_with (first | (go_at_call 8; go_loud (((with_reducible refine (greatShelf_any s _ _ S1 _ HG.out).mono ?_); rintro e' w2 ⟨rfl, bx⟩; have T1 := T1.next bx; have HB := btr HB HB.size bx; have B1 := B1.below bx B1.lt; have S1 := S1.next bx; (try clear ks0 ks1 ks2 ks3 ks4); have ks0 := B1.cell_ 0; have ks1 := B1.cell_ 1; have ks2 := B1.cell_ 2; have ks3 := B1.cell_ 3; have ks4 := B1.cell_ 4; simp at ks0 ks1 ks2 ks3 ks4; clear bx))) | (go_at_call 17; go_loud (((with_reducible refine (smay_any s _ _ S1 T1 _ HM.out).mono ?_); rintro e' w3 ⟨rfl, bx⟩; have T1 := T1.next bx; have HB := btr HB HB.size bx; have B1 := B1.below bx B1.lt; have S1 := S1.next bx; (try clear ks0 ks1 ks2 ks3 ks4); have ks0 := B1.cell_ 0; have ks1 := B1.cell_ 1; have ks2 := B1.cell_ 2; have ks3 := B1.cell_ 3; have ks4 := B1.cell_ 4; simp at ks0 ks1 ks2 ks3 ks4; clear bx))) | (go_at_call 9; go_loud (((with_reducible refine (awake_any _ T1).mono ?_); rintro e' wA ⟨rfl, bx⟩; have HB := btr HB HB.size bx))))
    go_ret
    exact ⟨rfl, HB⟩
end Go.Proofs.YtkaoechjekffmaaDoor
namespace Go.Proofs.YtkaoechjekffmaaDoor
open Go.ChangeShapes Go.WideShapes Go.ChangeAt Go.RowKit
theorem acc_eq : Rows.laid_unicode_utf8_acceptRanges = Lib.acceptData := by kernel_rfl
theorem first_eq : Rows.laid_unicode_utf8_first = Lib.firstData := Pinned.utf8First_eq
def laidTabs : List (String × DataW Unit) := [("unicode/utf8.acceptRanges", Lib.acceptData), ("unicode/utf8.first", Lib.firstData)]
theorem laid_eq : [("unicode/utf8.acceptRanges", Rows.laid_unicode_utf8_acceptRanges), ("unicode/utf8.first", Rows.laid_unicode_utf8_first)] = laidTabs := by rw [acc_eq, first_eq]; rfl
noncomputable def laidWorld (os : Os) : World :=
  let w0 := World.holding Tryd.prog os ⟨#[], #[], []⟩
  let put (h : Array Obj) (g : Nat) (cs : Array Value) : Array Obj := h.modify g fun
    | .cells _ t frozen => .cells cs t frozen
    | o => o
  let h1 := put w0.heap 0 (Lib.firstTab.map fun z => Value.int .u8 z).toArray
  let h2 := put h1 1 ((List.range 16).flatMap fun i => [Value.int .u8 (Lib.accLo i), Value.int .u8 (Lib.accHi i)]).toArray
  { w0 with heap := h2 }
theorem noHandle (w : World) : laidMetH Tryd.prog laidTabs w ↔ laidMet Tryd.prog laidTabs w := by
  have e : (laidTabs.filter fun x => x.2.handleName?.isSome) = [] := by kernel_rfl
  unfold laidMetH
  rw [e]
theorem laid_met (os : Os) (args : Array Value) : laidMetH Tryd.prog [("unicode/utf8.acceptRanges", Rows.laid_unicode_utf8_acceptRanges), ("unicode/utf8.first", Rows.laid_unicode_utf8_first)] ((laidWorld os).forCall (fun _ _ => 0) ⟨#[], args, []⟩).memory := by
  rw [laid_eq, noHandle]
  exact (LaidIn.of_run (l := laidTabs) [0, 1] 8 (by kernel_rfl) (by kernel_rfl) (by kernel_rfl) (by kernel_rfl)).met
theorem tabs_of {W : World} (h : laidMetH Tryd.prog [("unicode/utf8.acceptRanges", Rows.laid_unicode_utf8_acceptRanges), ("unicode/utf8.first", Rows.laid_unicode_utf8_first)] W) : Tabs W := by
  rw [laid_eq, noHandle] at h
  exact utf8Tabs_of_readsT (U8Types.of196 Tryd.laysValid) ⟨by kernel_rfl, by kernel_rfl, by kernel_rfl, by kernel_rfl, by kernel_rfl, by kernel_rfl, by kernel_rfl⟩ (Lib.laidMet.reads h (.tail _ (.head _))) (Lib.laidMet.reads h (.head _))
end Go.Proofs.YtkaoechjekffmaaDoor
