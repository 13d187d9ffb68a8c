/- Rows of strokes that grow, with their rows of points. -/
import Derived.Test.YtmnfikfncbppfaaSrC
import Derived.Test.YtmnfikfncbppfaaApp
namespace Go.Proofs.Ytmnfikfncbppfaa
open Go.ChangeShapes Go.WideShapes Go.ChangeAt Go.RowKit
set_option linter.unusedSimpArgs false
set_option linter.unusedVariables false

def Ap (a b : Value) : Prop := ∀ g, a.ownBlock = some g → b.ownBlock ≠ some g
theorem own_at {w : World} {base size n : Nat} {e : TypeId} {v : Value} {xs : List Value} (h : w.ownsRow base e size v n xs) : ∀ g, v.ownBlock = some g → base ≤ g ∧ g < w.heap.size := by
  intro g hg
  rcases h.2 with ⟨rfl, _⟩ | ⟨g', cap, cur, rfl, hb, hh, _⟩
  · simp [Value.ownBlock] at hg
  · obtain rfl : g' = g := by simpa [Value.ownBlock] using hg
    refine ⟨hb, ?_⟩
    rcases Nat.lt_or_ge g' w.heap.size with hx | hx
    · exact hx
    · rw [Array.getElem?_eq_none hx] at hh
      cases hh
theorem own_keep {w w' : World} {base size n : Nat} {e : TypeId} {v : Value} {xs : List Value} (h : w.ownsRow base e size v n xs) (hk : ∀ g, v.ownBlock = some g → w'.heap[g]? = w.heap[g]?) : w'.ownsRow base e size v n xs := by
  refine ⟨h.1, ?_⟩
  rcases h.2 with h | ⟨g, cap, cur, rfl, hb, hh, hr⟩
  · exact Or.inl h
  · exact Or.inr ⟨g, cap, cur, rfl, hb, (hk g rfl).trans hh, hr⟩
def RowP (w : World) (base : Nat) (q : Value) (ps : List Pt) : Prop := w.ownsRow base 41 1 q ps.length (ps.map ptV)
structure RowS (w : World) (base : Nat) (v : Value) (es : List (St × Value)) : Prop where
  row : w.ownsRow base 44 3 v es.length (es.flatMap eC)
  pts : ∀ e ∈ es, RowP w base e.2 e.1.2
  ap : ∀ e ∈ es, Ap e.2 v
theorem RowP.nil_ (w : World) (base : Nat) : RowP w base (.slice none 0 0) [] := World.ownsRow_nil w base _ _
theorem RowS.nil_ (w : World) (base : Nat) : RowS w base (.slice none 0 0) [] := ⟨World.ownsRow_nil w base _ _, by simp, by simp⟩
theorem Ap.nil_ (v : Value) : Ap (.slice none 0 0) v := by intro g hg; simp [Value.ownBlock] at hg
theorem Ap.nil2 (v : Value) : Ap v (.slice none 0 0) := by intro g hg; simp [Value.ownBlock]
theorem Ap.symm {a b : Value} (h : Ap a b) : Ap b a := fun g h1 h2 => h g h2 h1
theorem RowS.keep {w w' : World} {base : Nat} {v : Value} {es : List (St × Value)} (h : RowS w base v es) (hk : ∀ g, base ≤ g → g < w.heap.size → (v.ownBlock = some g ∨ ∃ e ∈ es, e.2.ownBlock = some g) → w'.heap[g]? = w.heap[g]?) : RowS w' base v es := by
  refine ⟨own_keep h.row fun g hg => ?_, fun e he => own_keep (h.pts e he) fun g hg => ?_, h.ap⟩
  · obtain ⟨h1, h2⟩ := own_at h.row g hg
    exact hk g h1 h2 (Or.inl hg)
  · obtain ⟨h1, h2⟩ := own_at (h.pts e he) g hg
    exact hk g h1 h2 (Or.inr ⟨e, he, hg⟩)
theorem RowS.below {w w' : World} {base : Nat} {v : Value} {es : List (St × Value)} (h : RowS w base v es) (hb : Below w.heap.size w w') : RowS w' base v es := h.keep fun g _ hg _ => hb.block g hg
theorem RowS.alloc_ {w : World} {base : Nat} {v : Value} {es : List (St × Value)} (h : RowS w base v es) (o : Obj) : RowS (w.alloc o) base v es := h.below ((Below.refl _ _).alloc (Nat.le_refl _) _)
theorem RowS.set_ {w : World} {base : Nat} {v : Value} {es : List (St × Value)} (h : RowS w base v es) {p : Addr} (hp : p.block < base) (u : Value) : RowS (w.setCell p u) base v es := h.keep fun g hg _ _ => Below.heap_setCell w p u g (by omega)
theorem RowP.below {w w' : World} {base : Nat} {q : Value} {ps : List Pt} (h : RowP w base q ps) (hb : Below w.heap.size w w') : RowP w' base q ps := own_keep h fun g hg => hb.block g (own_at h g hg).2
theorem RowP.alloc_ {w : World} {base : Nat} {q : Value} {ps : List Pt} (h : RowP w base q ps) (o : Obj) : RowP (w.alloc o) base q ps := h.below ((Below.refl _ _).alloc (Nat.le_refl _) _)
theorem RowP.set_ {w : World} {base : Nat} {q : Value} {ps : List Pt} (h : RowP w base q ps) {p : Addr} (hp : p.block < base) (u : Value) : RowP (w.setCell p u) base q ps := own_keep h fun g hg => Below.heap_setCell w p u g (by have := (own_at h g hg).1; omega)
/-- x.Points grows: the sheet's rows stay. -/
theorem pts_app {w w' : World} {base : Nat} {v q q' : Value} {ps : List Pt} {es : List (St × Value)} (hq : RowP w base q ps) (hS : RowS w base v es) (hv : Ap q v) (he : ∀ e ∈ es, Ap e.2 q) (hg : w.grownBy w' q.ownBlock) (hb : q'.ownBlock = q.ownBlock ∨ q'.ownBlock = some w.heap.size) :
    RowS w' base v es ∧ Ap q' v ∧ ∀ e ∈ es, Ap e.2 q' := by
  refine ⟨hS.keep fun g h1 h2 h3 => hg.block g h2 ?_, ?_, fun e hm g hgg => ?_⟩
  · rcases h3 with h3 | ⟨e, hm, h3⟩
    · exact fun hc => hv g hc.symm h3
    · exact fun hc => he e hm g h3 hc.symm
  · intro g hgg hvg
    rcases hb with hb | hb
    · exact hv g (hb ▸ hgg) hvg
    · have := (own_at hS.row g hvg).2
      rw [hgg] at hb
      cases hb
      omega
  · rcases hb with hb | hb
    · rw [hb]
      exact he e hm g hgg
    · have := (own_at (hS.pts e hm) g hgg).2
      rw [hb]
      intro hc
      cases hc
      omega
theorem str_app {w w' : World} {base : Nat} {v v' : Value} {s : St} {q : Value} {es : List (St × Value)} (hq : RowP w base q s.2) (hS : RowS w base v es) (hv : Ap q v) (ho : w'.ownsRow base 44 3 v' (es.length + 1) (es.flatMap eC ++ eC (s, q))) (hg : w.grownBy w' v.ownBlock) (hb : v'.ownBlock = v.ownBlock ∨ v'.ownBlock = some w.heap.size) :
    RowS w' base v' (es ++ [(s, q)]) := by
  have hap : ∀ (x : Value), (∀ g, x.ownBlock = some g → g < w.heap.size) → Ap x v → Ap x v' := by
    intro x hx hxv g hgg
    rcases hb with hb | hb
    · rw [hb]
      exact hxv g hgg
    · have := hx g hgg
      rw [hb]
      intro hc
      cases hc
      omega
  refine ⟨?_, fun e he => ?_, fun e he => ?_⟩
  · rw [List.length_append, List.flatMap_append]
    simpa using ho
  · rcases List.mem_append.1 he with he | he
    · exact own_keep (hS.pts e he) fun g hgg => hg.block g (own_at (hS.pts e he) g hgg).2 (fun hc => hS.ap e he g hgg hc.symm)
    · obtain rfl : e = (s, q) := by simpa using he
      exact own_keep hq fun g hgg => hg.block g (own_at hq g hgg).2 (fun hc => hv g hgg hc.symm)
  · rcases List.mem_append.1 he with he | he
    · exact hap _ (fun g hgg => (own_at (hS.pts e he) g hgg).2) (hS.ap e he)
    · obtain rfl : e = (s, q) := by simpa using he
      exact hap _ (fun g hgg => (own_at hq g hgg).2) hv
theorem flatC_len (es : List (St × Value)) : (es.flatMap eC).length = es.length * 3 := by
  induction es with
  | nil => rfl
  | cons x es ih => rw [List.flatMap_cons, List.length_append, ih]; simp [eC]; omega
theorem flatC_get : ∀ (L : List (St × Value)) (k j : Nat) (x : St × Value), L[k]? = some x → j < 3 → (L.flatMap eC)[k * 3 + j]? = (eC x)[j]?
  | y :: L, 0, j, x, h, hj => by
    simp at h
    subst h
    rw [List.flatMap_cons, List.getElem?_append_left (by simp [eC]; omega)]
    simp
  | y :: L, k + 1, j, x, h, hj => by
    rw [List.flatMap_cons, List.getElem?_append_right (by simp [eC]; omega), show (k + 1) * 3 + j - (eC y).length = k * 3 + j by simp [eC]; omega]
    exact flatC_get L k j x (by simpa using h) hj
theorem own_slP {w : World} {base : Nat} {q : Value} {ps : List Pt} (h : RowP w base q ps) : PtsAt w w.heap.size q ps ∧ ∃ A c, q = .slice A ps.length c := by
  have h0 := h
  rcases h.2 with ⟨rfl, h1⟩ | ⟨g, cap, cur, rfl, hb, hh, hnc, hcm, hsz, ht⟩
  · have : ps = [] := List.eq_nil_of_length_eq_zero h1
    subst this
    exact ⟨⟨none, 0, rfl, Sl.nil_⟩, none, 0, rfl⟩
  · exact ⟨⟨_, cap, rfl, Sl.of_own h0⟩, _, cap, rfl⟩
theorem RowS.sh {w : World} {base : Nat} {v : Value} {es : List (St × Value)} (h : RowS w base v es) : ∃ A c, v = .slice A es.length c ∧ ShV w w.heap.size A es := by
  have hp : ∀ e ∈ es, PtsAt w w.heap.size e.2 e.1.2 := fun e he => (own_slP (h.pts e he)).1
  rcases h.row.2 with ⟨rfl, h1⟩ | ⟨g, cap, cur, rfl, hb, hh, hnc, hcm, hsz, ht⟩
  · have : es = [] := List.eq_nil_of_length_eq_zero h1
    subst this
    exact ⟨none, 0, rfl, Or.inl rfl, by simp⟩
  · refine ⟨_, cap, rfl, Or.inr ⟨g, 0, rfl, (own_at h.row g rfl).2, fun k x hx j u hu => ?_⟩, hp⟩
    rw [List.getElem?_map] at hx
    obtain ⟨y, hy, rfl⟩ := Option.map_eq_some_iff.1 hx
    have hj : j < 3 := (List.getElem?_eq_some_iff.1 hu).1
    have e := flatC_get es k j y hy hj
    rw [hu] at e
    rw [Joins.cell_of_block hh, Nat.zero_add]
    rw [← ht] at e
    rw [List.getElem?_take] at e
    split at e
    · rw [← Array.getElem?_toList]
      exact e
    · cases e
end Go.Proofs.Ytmnfikfncbppfaa
