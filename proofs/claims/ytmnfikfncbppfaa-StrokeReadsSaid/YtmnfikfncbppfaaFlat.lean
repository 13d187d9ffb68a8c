/- Structs of numbers and bools, one in another; slices of such: how an argument of that kind is opened. -/
import Derived.Test.YtmnfikfncbppfaaSl
import Derived.Test.YtmnfikfncbppfaaOpen
import Derived.Deep.Slices
import Derived.Deep.Fields
import Derived.ChangeSame
namespace Go.Proofs.Ytmnfikfncbppfaa
open Go.ChangeShapes Go.WideShapes Go.ChangeAt Go.RowKit Go.Deep

def LeafOk : Option IntKind → Value → Prop
  | some k, v => ∃ z, v = .int k z ∧ (Lit.int k z).wf = true
  | none, v => ∃ b, v = .bool b
/-- Values of these kinds, one by one. -/
def Flat : List (Option IntKind) → List Value → Prop
  | [], cs => cs = []
  | l :: ls, cs => ∃ v r, cs = v :: r ∧ LeafOk l v ∧ Flat ls r
theorem Flat.append : ∀ {ls ms : List (Option IntKind)} {cs ds : List Value}, Flat ls cs → Flat ms ds → Flat (ls ++ ms) (cs ++ ds)
  | [], _, cs, ds, h, k => by
    obtain rfl : cs = [] := h
    exact k
  | _ :: ls, _, _, _, h, k => by
    obtain ⟨v, r, rfl, h1, h2⟩ := h
    exact ⟨v, r ++ _, rfl, h1, h2.append k⟩
theorem Flat.length : ∀ {ls : List (Option IntKind)} {cs : List Value}, Flat ls cs → cs.length = ls.length
  | [], cs, h => by
    obtain rfl : cs = [] := h
    rfl
  | _ :: ls, _, h => by
    obtain ⟨v, r, rfl, _, h2⟩ := h
    simp [h2.length]
def flatFields (P : Program) (sh : TypeId → Option (List (Option IntKind))) : List Field → Nat → Option (List (Option IntKind))
  | [], _ => some []
  | f :: fs, o =>
    if f.offset = o then
      match sh f.type with
      | some l => if P.cellsOf f.type = l.length then
          match flatFields P sh fs (o + l.length) with
          | some r => some (l ++ r)
          | none => none
        else none
      | none => none
    else none
def flatShape (P : Program) : Nat → TypeId → Option (List (Option IntKind))
  | 0, _ => none
  | n + 1, t => match P.underlying t with
    | some (.int k) => some [some k]
    | some .bool => some [none]
    | some (.struct fs) => match flatFields P (flatShape P n) fs.toList 0 with
      | some l => if P.cellsOf t = l.length then some l else none
      | none => none
    | _ => none

section
variable {H : Type} {enc : TypeId × Value → H} {P : Program} {w : World} {base : Nat} {spare : Nat → Bool} {held : Bool}

theorem flat_fields {sh : TypeId → Option (List (Option IntKind))} {n : Nat} (hsh : ∀ t ls cs x, sh t = some ls → DataW.trod enc P w base spare held n t cs = some x → Flat ls cs) (cs : List Value) :
    ∀ (fs : List Field) (o : Nat) (ls : List (Option IntKind)), flatFields P sh fs o = some ls → (∀ f ∈ fs, ∃ y, DataW.trod enc P w base spare held n f.type ((cs.drop f.offset).take (P.cellsOf f.type)) = some y) → cs.length = o + ls.length → Flat ls (cs.drop o)
  | [], o, ls, h, _, hl => by
    simp only [flatFields, Option.some.injEq] at h
    subst h
    show cs.drop o = []
    rw [List.drop_eq_nil_iff]
    simp at hl
    omega
  | f :: fs, o, ls, h, hf, hl => by
    unfold flatFields at h
    split at h
    · rename_i ho
      cases hs : sh f.type with
      | none => rw [hs] at h; cases h
      | some l =>
        rw [hs] at h
        dsimp only at h
        split at h
        · rename_i hc
          cases hr : flatFields P sh fs (o + l.length) with
          | none => rw [hr] at h; cases h
          | some r =>
            rw [hr] at h
            simp only [Option.some.injEq] at h
            subst h
            rw [List.length_append] at hl
            have h1 := flat_fields hsh cs fs (o + l.length) r hr (fun g hg => hf g (List.mem_cons_of_mem _ hg)) (by omega)
            obtain ⟨y, hy⟩ := hf f (List.mem_cons_self)
            have h2 := hsh _ _ _ _ hs hy
            rw [ho, hc] at h2
            have h3 := h2.append h1
            rw [← List.drop_drop, List.take_append_drop] at h3
            exact h3
        · cases h
    · cases h
theorem flat_trod : ∀ (m n : Nat) (t : TypeId) (ls : List (Option IntKind)) (cs : List Value) (x : DataW H × List MemPlace), flatShape P m t = some ls → DataW.trod enc P w base spare held n t cs = some x → Flat ls cs
  | 0, _, _, _, _, _, h, _ => by
    unfold flatShape at h
    cases h
  | m + 1, n, t, ls, cs, x, h, hx => by
    unfold flatShape at h
    split at h
    · rename_i k hk
      simp only [Option.some.injEq] at h
      subst h
      obtain ⟨z, rfl, _, hw⟩ := DataW.trod_int hk hx
      exact ⟨_, _, rfl, ⟨z, rfl, hw⟩, rfl⟩
    · rename_i hk
      simp only [Option.some.injEq] at h
      subst h
      obtain ⟨z, rfl, _⟩ := DataW.trod_bool hk hx
      exact ⟨_, _, rfl, ⟨z, rfl⟩, rfl⟩
    · rename_i fs hk
      obtain ⟨ys, n', rfl, _, hlen, hyl, hf⟩ := DataW.trod_struct hk hx
      cases hr : flatFields P (flatShape P m) fs.toList 0 with
      | none => rw [hr] at h; cases h
      | some l =>
        rw [hr] at h
        dsimp only at h
        split at h
        · rename_i hc
          simp only [Option.some.injEq] at h
          subst h
          have := flat_fields (sh := flatShape P m) (n := n') (fun t ls cs x h k => flat_trod m n' t ls cs x h k) cs fs.toList 0 l hr (by
            intro f hfm
            obtain ⟨i, hi, he⟩ := List.getElem_of_mem hfm
            have hi' : i < fs.size := by simpa using hi
            have hfi : fs[i]? = some f := by
              rw [Array.getElem?_eq_getElem hi', ← he]
              simp
            have h1 := hf i f hfi
            rw [List.getElem?_eq_getElem (by omega)] at h1
            exact ⟨_, h1⟩) (by omega)
          simpa using this
        · cases h
    · cases h
end

/-- The slice at A holds these elements, of C cells each, in a block below B. -/
def SlE (C : Nat) (w : World) (B : Nat) (A : Option Addr) (es : List (List Value)) : Prop :=
  es = [] ∨ ∃ b off, A = some ⟨b, off, none⟩ ∧ b < B ∧ ∀ k x, es[k]? = some x → ∀ j u, x[j]? = some u → w.cell? ⟨b, off + k * C + j, none⟩ = some u
theorem SlE.at_ {C : Nat} {w : World} {B : Nat} {A : Option Addr} {es : List (List Value)} (h : SlE C w B A es) (hn : 0 < es.length) :
    ∃ b off, A = some ⟨b, off, none⟩ ∧ b < B ∧ ∀ k x, es[k]? = some x → ∀ j u, x[j]? = some u → w.cell? ⟨b, off + k * C + j, none⟩ = some u := by
  rcases h with rfl | h
  · simp at hn
  · exact h
theorem SlE.below {C : Nat} {w w' : World} {B : Nat} {A : Option Addr} {es : List (List Value)} (h : SlE C w B A es) (hb : Below B w w') : SlE C w' B A es := by
  rcases h with h | ⟨b, off, e, hlt, hc⟩
  · exact Or.inl h
  · exact Or.inr ⟨b, off, e, hlt, fun k x hx j u hu => (hb.cell (p := ⟨b, _, none⟩) hlt).trans (hc k x hx j u hu)⟩
theorem SlE.mono {C : Nat} {w : World} {B B' : Nat} {A : Option Addr} {es : List (List Value)} (h : SlE C w B A es) (hB : B ≤ B') : SlE C w B' A es := by
  rcases h with h | ⟨b, off, e, hlt, hc⟩
  · exact Or.inl h
  · exact Or.inr ⟨b, off, e, by omega, hc⟩
theorem SlE.next {C : Nat} {w w' : World} {A : Option Addr} {es : List (List Value)} (h : SlE C w w.heap.size A es) (hb : Below w.heap.size w w') : SlE C w' w'.heap.size A es := (h.below hb).mono hb.size

section
variable {H : Type} {enc : TypeId × Value → H} {P : Program} {w : World} {base : Nat} {spare : Nat → Bool} {held : Bool}
def eltOf (w : World) (b off C i : Nat) : List Value := (List.range C).map fun j => (w.cell? ⟨b, off + i * C + j, none⟩).getD undef
theorem flats_value {r : Reach} {b0 : Nat} {t e : TypeId} {ls : List (Option IntKind)} {n : Nat} {v : Value} {d : DataW H} {p : List MemPlace} (ht : P.underlying t = some (.slice e)) (hsh : flatShape P n e = some ls) (hC : P.cellsOf e = ls.length) (hpos : 0 < ls.length)
    (hv : Value.okWide P w r b0 t v) (h : DataW.Trod enc P w base spare held t v d p) :
    ∃ (A : Option Addr) (len cap : Nat) (es : List (List Value)), v = .slice A len cap ∧ len = es.length ∧ len ≤ cap ∧ cap ≤ maxLen ∧ SlE ls.length w w.heap.size A es ∧ ∀ x ∈ es, Flat ls x := by
  obtain ⟨a0, len, cap, rfl⟩ := okWide_slice ht hv
  obtain ⟨fuel, hf⟩ := h
  rcases open_slice ht hf with hcs | ⟨a, len', cap', m, n', D, Pl, hcs, hb, hl, hm', hm, hx, hi⟩
  · have hcs := hcs.1
    simp [Value.cells] at hcs
    obtain ⟨rfl, rfl, rfl⟩ := hcs
    exact ⟨none, 0, 0, [], rfl, rfl, Nat.le_refl _, by unfold maxLen; omega, Or.inl rfl, by simp⟩
  · simp [Value.cells] at hcs
    obtain ⟨rfl, rfl, rfl⟩ := hcs
    have hlm : len ≤ m := by rw [hm]; split <;> omega
    have key : ∀ i, i < len → ∃ cs', cs'.length = ls.length ∧ Flat ls cs' ∧ ∀ j u, cs'[j]? = some u → w.cell? (a.add (i * ls.length + j)) = some u := by
      intro i hlt
      obtain ⟨cs', hc, ht'⟩ := hi i (by omega)
      rw [hC] at hc
      obtain ⟨_, hcl, hat⟩ := World.cells?_some hc
      refine ⟨cs', hcl, flat_trod n n' e ls cs' _ hsh ht', fun j u hu => ?_⟩
      have hj : j < cs'.length := (List.getElem?_eq_some_iff.1 hu).1
      have := hat j (by omega)
      rw [← Go.Deep.add_add, this, hu]
    rcases Nat.eq_zero_or_pos len with h0 | h0
    · subst h0
      exact ⟨some a, 0, cap, [], rfl, rfl, hl, hm', Or.inl rfl, by simp⟩
    · obtain ⟨b, off, spot⟩ := a
      obtain ⟨c0, hc0, _, hu0⟩ := key 0 h0
      have hu0 := hu0 0 (c0[0]'(by omega)) (List.getElem?_eq_getElem (by omega))
      have hsp : spot = none := by simpa [Addr.add] using World.cell?_spot hu0
      subst hsp
      have hb : b < w.heap.size := by simpa [Addr.add] using World.block_lt_of_cell? _ _ hu0
      have hel : ∀ i, i < len → Flat ls (eltOf w b off ls.length i) ∧ ∀ j u, (eltOf w b off ls.length i)[j]? = some u → w.cell? ⟨b, off + i * ls.length + j, none⟩ = some u := by
        intro i hlt
        obtain ⟨cs', hcl, hfl, hat⟩ := key i hlt
        have heq : eltOf w b off ls.length i = cs' := by
          apply List.ext_getElem
          · simp [eltOf, hcl]
          · intro j h1 h2
            have := hat j (cs'[j]) (List.getElem?_eq_getElem h2)
            rw [add_plain] at this
            simp only [eltOf, List.getElem_map, List.getElem_range]
            rw [Nat.add_assoc, this]
            rfl
        rw [heq]
        refine ⟨hfl, fun j u hu => ?_⟩
        have := hat j u hu
        rwa [add_plain, ← Nat.add_assoc] at this
      refine ⟨some ⟨b, off, none⟩, len, cap, (List.range len).map (eltOf w b off ls.length), rfl, by simp, hl, hm', ?_, ?_⟩
      · right
        refine ⟨b, off, rfl, hb, fun i f hv j u hu => ?_⟩
        obtain ⟨hlt, rfl⟩ := List.getElem?_eq_some_iff.1 hv
        have hlt' : i < len := by simpa using hlt
        simp only [List.getElem_map, List.getElem_range] at hu
        exact (hel i hlt').2 j u hu
      · intro f hf
        obtain ⟨i, hi', rfl⟩ := List.mem_map.1 hf
        exact (hel i (by simpa using hi')).1
end
theorem Flat.int {k : IntKind} {ls : List (Option IntKind)} {cs : List Value} (h : Flat (some k :: ls) cs) : ∃ z r, cs = .int k z :: r ∧ (Lit.int k z).wf = true ∧ Flat ls r := by
  obtain ⟨v, r, rfl, ⟨z, rfl, hw⟩, h2⟩ := h
  exact ⟨z, r, rfl, hw, h2⟩
theorem Flat.bool {ls : List (Option IntKind)} {cs : List Value} (h : Flat (none :: ls) cs) : ∃ z r, cs = .bool z :: r ∧ Flat ls r := by
  obtain ⟨v, r, rfl, ⟨z, rfl⟩, h2⟩ := h
  exact ⟨z, r, rfl, h2⟩
theorem Flat.nil {cs : List Value} (h : Flat [] cs) : cs = [] := h
end Go.Proofs.Ytmnfikfncbppfaa
