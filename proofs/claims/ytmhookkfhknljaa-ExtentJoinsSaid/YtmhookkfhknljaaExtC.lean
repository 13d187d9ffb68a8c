/- Slices of slices: parts of bytes, each a row of its own; Cut. -/
import Derived.Test.YtmhookkfhknljaaExtA
import Derived.Laws.CopyOwn
import Derived.Laws.OwnMore
import Derived.Maps.AppendAt
import Derived.Deep.AppendLies
namespace Go.Proofs.Ytmhookkfhknljaa
open Go.ChangeShapes Go.WideShapes Go.ChangeAt Go.RowKit
set_option linter.unusedSimpArgs false
set_option linter.unusedVariables false

theorem infoSl : (Try.prog.info? 24).map (fun i => (i.zero, i.size, i.bytes)) = some (some (.slice none 0 0), 1, 24) := by kernel_rfl
theorem infoSz : (Try.prog.info? 5).map (·.size) = some 1 := by kernel_rfl
/-- Rows of n bytes, none of them in the block ob. -/
def Parts (w : World) (base : Nat) (ob : Option Nat) (n : Nat) (vals : List Value) (bss : List (List Nat)) : Prop :=
  vals.length = bss.length ∧ ∀ (k : Nat) (bs : List Nat), bss[k]? = some bs → ∃ g, vals[k]? = some (.slice (some ⟨g, 0, none⟩) n n) ∧ base ≤ g ∧ g < w.heap.size ∧ some g ≠ ob ∧ bs.length = n ∧
    ∀ (j : Nat) (u : Value), (bs.map byteV)[j]? = some u → w.cell? ⟨g, j, none⟩ = some u
theorem Parts.nil_ {w : World} {base : Nat} {ob : Option Nat} {n : Nat} : Parts w base ob n [] [] := ⟨rfl, fun k bs h => by simp at h⟩
theorem Parts.below {w w' : World} {base : Nat} {ob : Option Nat} {n : Nat} {vals : List Value} {bss : List (List Nat)} (h : Parts w base ob n vals bss) (hb : Below w.heap.size w w') : Parts w' base ob n vals bss :=
  ⟨h.1, fun k bs hk => by
    obtain ⟨g, h1, h2, h3, h4, h5, h6⟩ := h.2 k bs hk
    exact ⟨g, h1, h2, Nat.lt_of_lt_of_le h3 hb.size, h4, h5, fun j u hu => (hb.cell (p := ⟨g, j, none⟩) h3).trans (h6 j u hu)⟩⟩
theorem Parts.snoc {w w' : World} {base n g : Nat} {v v' : Value} {vals : List Value} {bss : List (List Nat)} {bs : List Nat} (h : Parts w base v.ownBlock n vals bss) (hg : w.grownBy w' v.ownBlock)
    (hv : v'.ownBlock = v.ownBlock ∨ v'.ownBlock = some w.heap.size) (hb : base ≤ g) (hlt : g < w.heap.size) (hne : some g ≠ v.ownBlock) (hc : ∀ (j : Nat) (u : Value), (bs.map byteV)[j]? = some u → w.cell? ⟨g, j, none⟩ = some u) (hl : bs.length = n) :
    Parts w' base v'.ownBlock n (vals ++ [.slice (some ⟨g, 0, none⟩) n n]) (bss ++ [bs]) := by
  have hno : ∀ g1, g1 < w.heap.size → some g1 ≠ v.ownBlock → some g1 ≠ v'.ownBlock := fun g1 h1 h2 => by
    rcases hv with e | e
    · rw [e]
      exact h2
    · rw [e]
      intro he
      have := Option.some.inj he
      omega
  have keep : ∀ g1 j u, g1 < w.heap.size → some g1 ≠ v.ownBlock → w.cell? ⟨g1, j, none⟩ = some u → w'.cell? ⟨g1, j, none⟩ = some u := fun g1 j u h1 h2 h3 => (hg.cell_far ⟨g1, j, none⟩ h1 h2).trans h3
  refine ⟨by simp [h.1], fun k b1 hk => ?_⟩
  by_cases hlt2 : k < bss.length
  · rw [List.getElem?_append_left hlt2] at hk
    obtain ⟨g1, h1, h2, h3, h4, h5, h6⟩ := h.2 k b1 hk
    exact ⟨g1, by rw [List.getElem?_append_left (by rw [h.1]; exact hlt2)]; exact h1, h2, Nat.lt_of_lt_of_le h3 hg.size, hno g1 h3 h4, h5, fun j u hu => keep g1 j u h3 h4 (h6 j u hu)⟩
  · rw [List.getElem?_append_right (by omega)] at hk
    have hk0 : k - bss.length = 0 := by
      have := (List.getElem?_eq_some_iff.1 hk).1
      simp at this
      omega
    rw [hk0] at hk
    simp at hk
    subst hk
    exact ⟨g, by rw [List.getElem?_append_right (by rw [h.1]; omega), h.1, hk0]; rfl, hb, Nat.lt_of_lt_of_le hlt hg.size, hno g hlt hne, hl, fun j u hu => keep g j u hlt hne (hc j u hu)⟩
/-- Rows of n bytes, to be read. -/
def PartsR (w : World) (n : Nat) (vals : List Value) (bss : List (List Nat)) : Prop :=
  vals.length = bss.length ∧ ∀ (k : Nat) (bs : List Nat), bss[k]? = some bs → bs.length = n ∧ ∃ A, vals[k]? = some (.slice A n n) ∧ Sl w w.heap.size A (bs.map byteV)
theorem Parts.read {w : World} {base : Nat} {ob : Option Nat} {n : Nat} {vals : List Value} {bss : List (List Nat)} (h : Parts w base ob n vals bss) : PartsR w n vals bss :=
  ⟨h.1, fun k bs hk => by
    obtain ⟨g, h1, h2, h3, h4, h5, h6⟩ := h.2 k bs hk
    exact ⟨h5, _, h1, Or.inr ⟨g, 0, rfl, h3, fun j u hu => by rw [Nat.zero_add]; exact h6 j u hu⟩⟩⟩
theorem PartsR.next {w w' : World} {n : Nat} {vals : List Value} {bss : List (List Nat)} (h : PartsR w n vals bss) (hb : Below w.heap.size w w') : PartsR w' n vals bss :=
  ⟨h.1, fun k bs hk => by
    obtain ⟨h1, A, h2, h3⟩ := h.2 k bs hk
    exact ⟨h1, A, h2, h3.next hb⟩⟩
theorem own_sliceV {w : World} {base : Nat} {e : TypeId} {v : Value} {n : Nat} {vs : List Value} (h : w.ownsRow base e 1 v n vs) : ∃ (A : Option Addr) (c : Nat), v = .slice A n c ∧ vs.length = n ∧ n ≤ c ∧ c ≤ maxLen ∧ Sl w w.heap.size A vs := by
  have hl : vs.length = n := by
    have := h.1
    omega
  rcases h.2 with ⟨hv, h0⟩ | ⟨g, cap, cur, hv, hbg, hh, hnc, hm, hsz, ht⟩
  · subst h0
    exact ⟨none, 0, hv, hl, Nat.le_refl _, by unfold maxLen; omega, Or.inl (List.eq_nil_of_length_eq_zero hl)⟩
  · subst hv
    exact ⟨some ⟨g, 0, none⟩, cap, rfl, hl, hnc, hm, Sl.of_own h⟩
theorem own_cur {w : World} {base g n : Nat} {e : TypeId} {xs : List Value} (h : w.ownsRow base e 1 (.slice (some ⟨g, 0, none⟩) n n) n xs) : w.heap[g]? = some (.cells xs.toArray e (0, 0)) := by
  rcases h.2 with ⟨hv, _⟩ | ⟨g', cap, cur, hv, hbg, hh, hnc, hm, hsz, ht⟩
  · cases hv
  · cases hv
    rw [hh]
    have : cur = xs.toArray := by
      rw [← ht, List.take_of_length_le (by simp; omega)]
    rw [this]
theorem own_len {w : World} {base : Nat} {e : TypeId} {size n m : Nat} {v : Value} {xs : List Value} (h : n = m) (ho : w.ownsRow base e size v n xs) : w.ownsRow base e size v m xs := by rw [← h]; exact ho
theorem own_below {w w' : World} {base : Nat} {e : TypeId} {size n : Nat} {v : Value} {xs : List Value} (h : w.ownsRow base e size v n xs) (hb : Below w.heap.size w w') : w'.ownsRow base e size v n xs :=
  h.kept (row := none) ⟨hb.os, hb.tape, hb.output, hb.size, fun k hk _ => hb.block k hk⟩ (by cases v.ownBlock <;> simp)
theorem info_parts {P : Program} {t : TypeId} {z : Value} {s b : Nat} (h : (P.info? t).map (fun i => (i.zero, i.size, i.bytes)) = some (some z, s, b)) : ∃ i, P.info? t = some i ∧ i.zero = some z ∧ i.size = s ∧ i.bytes = b := by
  obtain ⟨i, hi, h2⟩ := Option.map_eq_some_iff.1 h
  simp only [Prod.mk.injEq] at h2
  exact ⟨i, hi, h2.1, h2.2.1, h2.2.2⟩
theorem Sl.cells_ {w : World} {B : Nat} {A : Option Addr} {vs : List Value} (h : Sl w B A vs) : ∀ ad, A = some ad → ∀ j u, vs[j]? = some u → w.cell? (ad.add j) = some u := by
  intro ad had j u hu
  obtain ⟨b1, o1, rfl, _, q⟩ := h.at_ (by
    have := (List.getElem?_eq_some_iff.1 hu).1
    omega)
  obtain rfl := Option.some.inj had
  rw [add_plain]
  exact q j u hu
theorem sl_sub {w : World} {B b o : Nat} {vs : List Value} (h : Sl w B (some ⟨b, o, none⟩) vs) (i n : Nat) : Sl w B (some ⟨b, o + i, none⟩) ((vs.drop i).take n) := by
  rcases h with h | ⟨b', off, e, hlt, hc⟩
  · exact Or.inl (by rw [h]; simp)
  · cases e
    refine Or.inr ⟨b, o + i, rfl, hlt, fun k v hv => ?_⟩
    rw [List.getElem?_take] at hv
    split at hv
    · rw [List.getElem?_drop] at hv
      have := hc (i + k) v hv
      rwa [← Nat.add_assoc] at this
    · cases hv
theorem sl_take {w : World} {B : Nat} {A : Option Addr} {vs : List Value} (h : Sl w B A vs) (n : Nat) : Sl w B A (vs.take n) := by
  rcases h with h | ⟨b, off, e, hlt, hc⟩
  · exact Or.inl (by simp [h])
  · refine Or.inr ⟨b, off, e, hlt, fun k f hv => hc k f ?_⟩
    rw [List.getElem?_take] at hv
    split at hv
    · exact hv
    · cases hv
theorem splice_pad (n : Nat) (l : List Nat) (h : l.length ≤ n) : splice ((List.replicate n (Value.int .u8 0))) 0 (l.map byteV) = (padN n l).map byteV := by
  unfold splice padN
  simp [byteV]
end Go.Proofs.Ytmhookkfhknljaa
