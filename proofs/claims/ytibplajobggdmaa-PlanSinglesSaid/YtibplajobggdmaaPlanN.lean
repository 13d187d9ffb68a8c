/- Faults in another order; one alone: plain facts. -/
import Derived.Test.YtibplajobggdmaaPlanM
import Derived.Test.YtibplajobggdmaaApp
namespace Go.Proofs.Ytibplajobggdmaa

theorem add_mk (b off i : Nat) : Addr.add ⟨b, off, none⟩ i = ⟨b, off + i, none⟩ := by
  unfold Addr.add
  split
  · rename_i h
    rw [h]
    rfl
  · rfl
theorem preB_iff {a : Int} {fs : List Flt} : ∀ n, n ≤ fs.length → (preB a fs n = true ↔ (∀ f ∈ fs.take n, mayF a f = true) ∧ ((fs.take n).map Flt.blk).Nodup)
  | 0, _ => by simp [preB]
  | n + 1, hn => by
    have e : fs.getD n default = fs[n] := by simp [show n < fs.length by omega]
    have ih := preB_iff (a := a) (fs := fs) n (by omega)
    unfold preB
    rw [List.take_succ_eq_append_getElem (by omega), e]
    simp only [Bool.and_eq_true, ih, Bool.not_eq_true', List.map_append, List.map_cons, List.map_nil, List.nodup_append, List.mem_append, List.mem_singleton]
    have hnm : namesB (fs.take n) fs[n].blk = false ↔ ∀ x ∈ (fs.take n).map Flt.blk, x ≠ fs[n].blk := by
      unfold namesB
      rw [List.any_eq_false]
      constructor
      · intro h x hx
        obtain ⟨f, hf, rfl⟩ := List.mem_map.1 hx
        have := h f hf
        simpa using this
      · intro h f hf
        have := h f.blk (List.mem_map.2 ⟨f, hf, rfl⟩)
        simpa using this
    rw [hnm]
    constructor
    · rintro ⟨⟨h1, h2⟩, h3, h4⟩
      refine ⟨fun f hf => ?_, h2, by simp, fun x hx y hy => ?_⟩
      · rcases hf with hf | hf
        · exact h1 f hf
        · rw [hf]; exact h3
      · rw [hy]
        exact h4 x hx
    · rintro ⟨h1, h2, _, h4⟩
      exact ⟨⟨fun f hf => h1 f (Or.inl hf), h2⟩, h1 _ (Or.inr rfl), fun x hx => h4 x hx _ rfl⟩

theorem planMay_iff {a b c d e : Int} {fs : List Flt} : planMay a b c d e fs = true ↔ mayB a b c d e = true ∧ fs.length ≤ 8 ∧ (∀ f ∈ fs, mayF a f = true) ∧ (fs.map Flt.blk).Nodup := by
  unfold planMay
  have h := preB_iff (a := a) (fs := fs) fs.length (Nat.le_refl _)
  rw [List.take_length] at h
  simp only [Bool.and_eq_true, decide_eq_true_eq, h]

theorem planMay_perm {a b c d e : Int} {fs gs : List Flt} (hp : gs.Perm fs) (h : planMay a b c d e fs = true) : planMay a b c d e gs = true := by
  rw [planMay_iff] at h ⊢
  obtain ⟨h1, h2, h3, h4⟩ := h
  exact ⟨h1, by rw [hp.length_eq]; exact h2, fun f hf => h3 f (hp.mem_iff.1 hf), (hp.map Flt.blk).nodup_iff.2 h4⟩
theorem any_perm {p : Flt → Bool} {fs gs : List Flt} (hp : gs.Perm fs) : gs.any p = fs.any p := by
  rw [Bool.eq_iff_iff, List.any_eq_true, List.any_eq_true]
  constructor
  · rintro ⟨f, hf, h⟩
    exact ⟨f, hp.mem_iff.1 hf, h⟩
  · rintro ⟨f, hf, h⟩
    exact ⟨f, hp.mem_iff.2 hf, h⟩
theorem planMay_one {a b c d e : Int} {fs : List Flt} (h : planMay a b c d e fs = true) {f : Flt} (hf : f ∈ fs) : planMay a b c d e [f] = true := by
  rw [planMay_iff] at h ⊢
  obtain ⟨h1, h2, h3, h4⟩ := h
  refine ⟨h1, by simp, fun g hg => ?_, by simp⟩
  rw [List.mem_singleton.1 hg]
  exact h3 f hf
theorem any_take1 {p : Flt → Bool} {fs : List Flt} {k : Nat} (hk : k < fs.length) : (fs.take (k + 1)).any p = ((fs.take k).any p || [fs[k]].any p) := by
  rw [any_take hk]
  simp
theorem rot_perm (fs : List Flt) (t : Nat) : (fs.drop t ++ fs.take t).Perm fs := by
  have h := List.perm_append_comm (l₁ := fs.drop t) (l₂ := fs.take t)
  rwa [List.take_append_drop] at h

/-- The cells of faults, one behind the other. -/
def fcells (fs : List Flt) : List Value := fs.flatMap fun f => [.int .i64 f.blk, .bool f.fac, .int .i64 f.aft]
theorem fcells_len (fs : List Flt) : (fcells fs).length = fs.length * 3 := by
  unfold fcells
  induction fs with
  | nil => rfl
  | cons f fs ih => simp only [List.flatMap_cons, List.length_append, ih, List.length_cons, List.length_nil]; omega
theorem fcells_app (fs gs : List Flt) : fcells (fs ++ gs) = fcells fs ++ fcells gs := by simp [fcells]
theorem fcells_one (fs : List Flt) : ∀ u ∈ fcells fs, u.oneCell' = true := by
  intro u hu
  unfold fcells at hu
  obtain ⟨f, _, hf⟩ := List.mem_flatMap.1 hu
  simp at hf
  rcases hf with rfl | rfl | rfl <;> rfl
theorem fcells_get : ∀ (fs : List Flt) (j : Nat) (f : Flt), fs[j]? = some f → (fcells fs)[j * 3]? = some (.int .i64 f.blk) ∧ (fcells fs)[j * 3 + 1]? = some (.bool f.fac) ∧ (fcells fs)[j * 3 + 2]? = some (.int .i64 f.aft)
  | [], j, f, h => by simp at h
  | g :: fs, 0, f, h => by
    simp at h
    subst h
    simp [fcells]
  | g :: fs, j + 1, f, h => by
    have ih := fcells_get fs j f (by simpa using h)
    have e : fcells (g :: fs) = [.int .i64 g.blk, .bool g.fac, .int .i64 g.aft] ++ fcells fs := by simp [fcells]
    rw [e, show (j + 1) * 3 = 3 + j * 3 by omega]
    refine ⟨?_, ?_, ?_⟩
    · rw [List.getElem?_append_right (by simp)]
      simpa using ih.1
    · rw [List.getElem?_append_right (by simp; omega)]
      rw [show 3 + j * 3 + 1 - [Value.int .i64 g.blk, .bool g.fac, .int .i64 g.aft].length = j * 3 + 1 by simp; omega]
      exact ih.2.1
    · rw [List.getElem?_append_right (by simp; omega)]
      rw [show 3 + j * 3 + 2 - [Value.int .i64 g.blk, .bool g.fac, .int .i64 g.aft].length = j * 3 + 2 by simp; omega]
      exact ih.2.2
theorem fcells_at : ∀ (fs : List Flt) (j : Nat) (u : Value), (fcells fs)[j]? = some u → ∃ f, fs[j / 3]? = some f ∧ ((j % 3 = 0 ∧ u = .int .i64 f.blk) ∨ (j % 3 = 1 ∧ u = .bool f.fac) ∨ (j % 3 = 2 ∧ u = .int .i64 f.aft))
  | fs, j, u, h => by
    obtain ⟨hlt, rfl⟩ := List.getElem?_eq_some_iff.1 h
    rw [fcells_len] at hlt
    have hj : j / 3 < fs.length := by omega
    obtain ⟨g1, g2, g3⟩ := fcells_get fs (j / 3) fs[j / 3] (by simp [hj])
    refine ⟨fs[j / 3], by simp [hj], ?_⟩
    have h3 : j % 3 = 0 ∨ j % 3 = 1 ∨ j % 3 = 2 := by omega
    rcases h3 with h3 | h3 | h3
    · left
      refine ⟨h3, ?_⟩
      rw [show j / 3 * 3 = j by omega, h] at g1
      injection g1
    · right; left
      refine ⟨h3, ?_⟩
      rw [show j / 3 * 3 + 1 = j by omega, h] at g2
      injection g2
    · right; right
      refine ⟨h3, ?_⟩
      rw [show j / 3 * 3 + 2 = j by omega, h] at g3
      injection g3

theorem slf_cell {w : World} {b off : Nat} {fs : List Flt} (q : ∀ k f, fs[k]? = some f → w.cell? ⟨b, off + k * 3, none⟩ = some (.int .i64 f.blk) ∧ w.cell? ⟨b, off + k * 3 + 1, none⟩ = some (.bool f.fac) ∧ w.cell? ⟨b, off + k * 3 + 2, none⟩ = some (.int .i64 f.aft)) :
    ∀ j u, (fcells fs)[j]? = some u → w.cell? ⟨b, off + j, none⟩ = some u := by
  intro j u hu
  obtain ⟨f, hf, h⟩ := fcells_at fs j u hu
  obtain ⟨c1, c2, c3⟩ := q _ f hf
  rcases h with ⟨h3, rfl⟩ | ⟨h3, rfl⟩ | ⟨h3, rfl⟩
  · rw [show off + j / 3 * 3 = off + j by omega] at c1
    exact c1
  · rw [show off + j / 3 * 3 + 1 = off + j by omega] at c2
    exact c2
  · rw [show off + j / 3 * 3 + 2 = off + j by omega] at c3
    exact c3
/-- The first t faults of a slice, as cells to append. -/
theorem rd_take {w : World} {B : Nat} {A : Option Addr} {fs : List Flt} (h : SlF w B A fs) (t : Nat) (ht : t ≤ fs.length) : Rd w A t 3 (fcells (fs.take t)) := by
  refine ⟨by rw [fcells_len]; simp; omega, ?_⟩
  rcases h.take_ t with h0 | ⟨b, off, e, _, hc⟩
  · left
    have : (fs.take t).length = 0 := by rw [h0]; rfl
    rw [List.length_take] at this
    omega
  · exact Or.inr ⟨b, off, e, slf_cell hc⟩
theorem rd_drop {w : World} {B : Nat} {A : Option Addr} {fs : List Flt} (h : SlF w B A fs) (t n : Nat) (ht : t ≤ fs.length) (hn : n = fs.length - t) (A' : Option Addr) (hA : t < fs.length → ∀ b off, A = some ⟨b, off, none⟩ → A' = some ⟨b, off + t * 3, none⟩) : Rd w A' n 3 (fcells (fs.drop t)) := by
  refine ⟨by rw [fcells_len]; simp; omega, ?_⟩
  rcases Nat.lt_or_ge t fs.length with hlt | hge
  · right
    obtain ⟨b, off, e, _, hc⟩ := h.at_ (by omega)
    refine ⟨b, off + t * 3, hA hlt b off e, slf_cell fun k f hk => ?_⟩
    have := hc (t + k) f (by rw [← hk, List.getElem?_drop])
    rw [show off + t * 3 + k * 3 = off + (t + k) * 3 by omega]
    exact this
  · left
    omega
/-- A row of the call's own that holds faults' cells reads as these faults. -/
theorem slf_own {w : World} {base : Nat} {e : TypeId} {v : Value} {n : Nat} {fs : List Flt} (h : w.ownsRow base e 3 v n (fcells fs)) : ∃ (A : Option Addr) (c : Nat), v = .slice A n c ∧ n = fs.length ∧ n ≤ c ∧ c ≤ maxLen ∧ SlF w w.heap.size A fs := by
  have hl : n = fs.length := by
    have := h.1
    rw [fcells_len] at this
    omega
  rcases h.2 with ⟨hv, h0⟩ | ⟨g, cap, cur, hv, hbg, hh, hnc, hm, hsz, ht⟩
  · exact ⟨none, 0, by rw [hv, h0], hl, by omega, by unfold maxLen; omega, Or.inl (List.eq_nil_of_length_eq_zero (by omega))⟩
  · have hg : g < w.heap.size := by
      rcases Nat.lt_or_ge g w.heap.size with hx | hx
      · exact hx
      · rw [Array.getElem?_eq_none hx] at hh
        cases hh
    refine ⟨some ⟨g, 0, none⟩, cap, hv, hl, hnc, hm, Or.inr ⟨g, 0, rfl, hg, fun k f hk => ?_⟩⟩
    have hcell : ∀ j u, (fcells fs)[j]? = some u → w.cell? ⟨g, j, none⟩ = some u := by
      intro j u hu
      have hc := h.cells (g := g) (by rw [hv]; rfl) j u hu
      unfold Addr.add at hc
      split at hc
      · rename_i h0
        rw [h0]
        exact hc
      · simpa using hc
    obtain ⟨g1, g2, g3⟩ := fcells_get fs k f hk
    simp only [Nat.zero_add]
    exact ⟨hcell _ _ g1, hcell _ _ g2, hcell _ _ g3⟩
theorem slf_new (w : World) (f : Flt) (t : TypeId) : SlF (w.alloc (.cells #[.int .i64 f.blk, .bool f.fac, .int .i64 f.aft] t)) (w.alloc (.cells #[.int .i64 f.blk, .bool f.fac, .int .i64 f.aft] t)).heap.size (some ⟨w.heap.size, 0, none⟩) [f] := by
  refine Or.inr ⟨w.heap.size, 0, rfl, by simp, fun k g hk => ?_⟩
  obtain ⟨hlt, rfl⟩ := List.getElem?_eq_some_iff.1 hk
  have hk0 : k = 0 := by simp at hlt; omega
  subst hk0
  simp
end Go.Proofs.Ytibplajobggdmaa
