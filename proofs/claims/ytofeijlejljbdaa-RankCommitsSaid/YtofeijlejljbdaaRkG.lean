/- What the laws share. -/
import Derived.Test.YtofeijlejljbdaaRkF
namespace Go.Proofs.Ytofeijlejljbdaa
open Go.ChangeShapes Go.WideShapes Go.ChangeAt Go.RowKit
set_option linter.unusedSimpArgs false
set_option linter.unusedVariables false

theorem fd_of_flat {x : List Value} (h : Flat [some .i64, some .i64, some .i64, some .i64, some .i64, some .i64] x) : ∃ y : Fd, x = fCs y ∧ FdOk y := by
  obtain ⟨a, r, rfl, h1, h⟩ := h.int
  obtain ⟨b, r, rfl, h2, h⟩ := h.int
  obtain ⟨c, r, rfl, h3, h⟩ := h.int
  obtain ⟨d, r, rfl, h4, h⟩ := h.int
  obtain ⟨e, r, rfl, h5, h⟩ := h.int
  obtain ⟨f, r, rfl, h6, h⟩ := h.int
  obtain rfl := h.nil
  exact ⟨⟨a, b, c, d, e, f⟩, rfl, i64in_of h1, i64in_of h2, i64in_of h3, i64in_of h4, i64in_of h5, i64in_of h6⟩
theorem fds_of_flats : ∀ (es : List (List Value)), (∀ x ∈ es, Flat [some .i64, some .i64, some .i64, some .i64, some .i64, some .i64] x) → ∃ fs : List Fd, es = fs.map fCs ∧ ∀ x ∈ fs, FdOk x
  | [], _ => ⟨[], rfl, by simp⟩
  | x :: es, h => by
    obtain ⟨fs, rfl, hf⟩ := fds_of_flats es (fun y hy => h y (by simp [hy]))
    obtain ⟨y, rfl, hy⟩ := fd_of_flat (h x (by simp))
    refine ⟨y :: fs, rfl, fun z hz => ?_⟩
    rcases List.mem_cons.1 hz with rfl | hz
    · exact hy
    · exact hf z hz
theorem rd_sl {w : World} {B n : Nat} {A : Option Addr} {fs : List Fd} (h : SlFd w B A fs) (hn : fs.length = n) : Rd w A n 6 (fs.flatMap fCs) := by
  subst hn
  refine ⟨flat_len fs, ?_⟩
  rcases Nat.eq_zero_or_pos fs.length with h0 | h0
  · exact Or.inl h0
  · obtain ⟨b, off, e, hb, hc⟩ := SlE.at_ h (by simpa using h0)
    refine Or.inr ⟨b, off, e, fun j u hj => ?_⟩
    have hlt := (List.getElem?_eq_some_iff.1 hj).1
    rw [flat_len] at hlt
    have hk : fs[j / 6]? = some (fs[j / 6]'(by omega)) := List.getElem?_eq_getElem _
    have e2 := flat_get fs (j / 6) (j % 6) _ hk (by omega)
    rw [show j / 6 * 6 + j % 6 = j by omega, hj] at e2
    have := hc (j / 6) _ (by rw [List.getElem?_map, hk]; rfl) (j % 6) u e2.symm
    rw [show off + j / 6 * 6 + j % 6 = off + j by omega] at this
    exact this
theorem below_grown {w w' : World} (h : w.grownBy w' (Value.ownBlock (.slice none 0 0))) : Below w.heap.size w w' := ⟨h.os, h.tape, h.output, h.size, fun k hk => h.block k hk (by simp [Value.ownBlock])⟩
theorem row_first {w : World} {base n : Nat} {v : Value} {fs : List Fd} (hn : fs.length = n) (h : w.ownsRow base 30 6 v (0 + n) ([] ++ fs.flatMap fCs)) : RowFd w base v fs := by
  subst hn
  rw [Nat.zero_add, List.nil_append] at h
  exact h
theorem row_n {w : World} {base n : Nat} {v : Value} {S : List Fd} (hn : S.length = n) (h : RowFd w base v S) : w.ownsRow base 30 6 v n (S.flatMap fCs) := by
  subst hn
  exact h
theorem chain_app {w0 wk w2 : World} {n : Nat} {v1 v2 : Value} {S : List Fd} {x : Fd} {o : Obj} (hn : S.length = n) (hch : Below w0.heap.size w0 wk) (hro : RowFd wk w0.heap.size v1 S) (ho2 : w2.ownsRow w0.heap.size 30 6 v2 (n + 1) (S.flatMap fCs ++ fCs x)) (hg2 : (wk.alloc o).grownBy w2 v1.ownBlock) :
    Below w0.heap.size w0 w2 ∧ ∃ A c, v2 = .slice A (n + 1) c ∧ SlFd w2 w2.heap.size A (S ++ [x]) ∧ n + 1 ≤ c ∧ c ≤ maxLen := by
  subst hn
  refine ⟨(hch.alloc hch.size _).grown hg2 (by have := hch.size; simp; omega) (fun g hg => (hro.lt g hg).1), ?_⟩
  obtain ⟨A, c, e, h1, h2, h3⟩ := (RowFd.snoc ho2).sl
  simp only [List.length_append, List.length_cons, List.length_nil, Nat.zero_add] at e h2
  exact ⟨A, c, e, h1, h2, h3⟩
theorem last_n (fs : List Fd) (n : Nat) (A : Option Addr) (c : Nat) (r : Int) (w : World) (hn : fs.length = n) (h : SlFd w w.heap.size A fs) (n1 : n ≤ 1000000) (hr : lastZ fs = r) : Calls Try.prog 12 #[.slice A n c] w fun e' w' => e' = .returned (.int .i64 r) ∧ Below w.heap.size w w' := by
  subst hn
  subst hr
  exact last_any fs A c w h n1
theorem all_n (fs : List Fd) (n : Nat) (A : Option Addr) (c : Nat) (w : World) (hn : fs.length = n) (h : SlFd w w.heap.size A fs) (n1 : n ≤ 1000000) (hok : ∀ x ∈ fs, FdOk x) : Calls Try.prog 11 #[.slice A n c] w fun e' w' => (∃ A c L, e' = .returned (.slice A L.length c) ∧ Hid (IsAll fs L ∧ L.length ≤ n ∧ L.length ≤ c ∧ c ≤ maxLen) ∧ SlFd w' w'.heap.size A L ∧ RowFd w' w.heap.size (.slice A L.length c) L) ∧ Below w.heap.size w w' := by
  subst hn
  refine (all_any fs A c w h n1 hok).mono ?_
  rintro e' w' ⟨⟨v, L, rfl, hr, hL⟩, hb⟩
  have hr0 := hr
  obtain ⟨A, c, rfl, hs, h2, h3⟩ := hr.sl
  exact ⟨⟨A, c, L, rfl, Lib.hid ⟨hL.out.1, hL.out.2, h2, h3⟩, hs, hr0⟩, hb⟩
theorem stale_n (fs : List Fd) (n : Nat) (A : Option Addr) (c : Nat) (w : World) (hn : fs.length = n) (h : SlFd w w.heap.size A fs) (n1 : n ≤ 1000000) : Calls Try.prog 14 #[.slice A n c] w fun e' w' => (∃ A c L, e' = .returned (.slice A L.length c) ∧ Hid (staleZ fs = L ∧ L.length ≤ c ∧ c ≤ maxLen) ∧ SlFd w' w'.heap.size A L) ∧ Below w.heap.size w w' := by
  subst hn
  refine (stale_any fs A c w h n1).mono ?_
  rintro e' w' ⟨⟨v, rfl, hr⟩, hb⟩
  obtain ⟨A, c, rfl, hs, h2, h3⟩ := hr.sl
  exact ⟨⟨A, c, _, rfl, Lib.hid ⟨rfl, h2, h3⟩, hs⟩, hb⟩
theorem stale_is (fs : List Fd) (n : Nat) (A : Option Addr) (c : Nat) (L : List Fd) (m : Nat) (w : World) (hn : fs.length = n) (h : SlFd w w.heap.size A fs) (n1 : n ≤ 1000000) (hL : staleZ fs = L) (hm : L.length = m) : Calls Try.prog 14 #[.slice A n c] w fun e' w' => (∃ A c, e' = .returned (.slice A m c) ∧ SlFd w' w'.heap.size A L) ∧ Below w.heap.size w w' := by
  subst hL
  subst hm
  refine (stale_n fs n A c w hn h n1).mono ?_
  rintro e' w' ⟨⟨A, c, L, rfl, hL, hs⟩, hb⟩
  obtain rfl := hL.out.1
  exact ⟨⟨A, c, rfl, hs⟩, hb⟩
theorem snoc_len {S : List Fd} {x : Fd} {n : Nat} (h : S.length = n) : (S ++ [x]).length = n + 1 := by
  rw [List.length_append, h]
  rfl
theorem fdok_mk (k p e s : Int) (hk : i64in k) (hp : i64in p) (he : i64in e) (hs : i64in s) : FdOk ⟨s, 0, k, p, s, e⟩ := ⟨hs, (by show i64in 0; unfold i64in; omega), hk, hp, hs, he⟩
theorem ok_snoc {S : List Fd} {x : Fd} (h : ∀ y ∈ S, FdOk y) (hx : FdOk x) : ∀ y ∈ S ++ [x], FdOk y := by
  intro y hy
  rcases List.mem_append.1 hy with hy | hy
  · exact h y hy
  · obtain rfl : y = x := by simpa using hy
    exact hx
theorem FdOk.e_ {x : Fd} (h : FdOk x) : i64in x.e := h.2.2.2.2.2
theorem lastZ_in64 {S : List Fd} (h : ∀ y ∈ S, FdOk y) : i64in (lastZ S) := by
  rcases lastZ_in S with e | ⟨f, hf, _, he⟩
  · rw [e]
    unfold i64in
    omega
  · rw [← he]
    exact (h f hf).e_
end Go.Proofs.Ytofeijlejljbdaa
