/- Read's contracts, by what a raw page is. -/
import Derived.Test.YtjmochkhdapmiaaTagRR
import Derived.Test.YtjmochkhdapmiaaTagLO
namespace Go.Proofs.Ytjmochkhdapmiaa
open Go.ChangeShapes Go.WideShapes Go.ChangeAt Go.RowKit
attribute [local go_sem ↓] Go.wp_at_zero Go.wp_at_succ
set_option linter.unusedSimpArgs false
set_option linter.unusedVariables false

/-- A raw page that is read: its data, its tag. -/
structure OkRead (bs : List Nat) (N n : Nat) (D : List Nat) (K P S E : Nat) : Prop where
  h8 : Bytes8 bs
  hl : bs.length = n + 16
  hN : n + 16 = N
  hn1 : 24 ≤ n
  hn2 : n ≤ 64
  hD : bs.take n = D
  hK : tK (bs.drop n) = K
  hP : tP (bs.drop n) = P
  hS : tS (bs.drop n) = S
  hE : tE (bs.drop n) = E
  hst : readSt bs = 1
theorem st_ok {bs : List Nat} {n : Nat} (hl : bs.length = n + 16) (h : readSt bs = 1) : 24 ≤ n ∧ n ≤ 64 ∧ blankB bs = false ∧ tagB (tK (bs.drop n)) (tP (bs.drop n)) (tS (bs.drop n)) (tE (bs.drop n)) = true ∧ soundB bs n = true := by
  unfold readSt at h
  by_cases hr : 40 ≤ bs.length ∧ bs.length ≤ 80
  · rw [if_pos hr, show bs.length - 16 = n by omega] at h
    by_cases hb : blankB bs = true
    · rw [if_pos hb] at h
      cases h
    · rw [if_neg hb] at h
      split at h
      · rename_i h2
        exact ⟨by omega, by omega, by simpa using hb, h2.1, h2.2⟩
      · cases h
  · rw [if_neg hr] at h
    cases h
theorem ok_split {bs : List Nat} (h8 : Bytes8 bs) (h : readSt bs = 1) : ∃ n D K P S E, OkRead bs bs.length n D K P S E := by
  have hr : 40 ≤ bs.length ∧ bs.length ≤ 80 := by
    by_cases hr : 40 ≤ bs.length ∧ bs.length ≤ 80
    · exact hr
    · unfold readSt at h
      rw [if_neg hr] at h
      cases h
  obtain ⟨n, hn⟩ : ∃ n, bs.length = n + 16 := ⟨bs.length - 16, by omega⟩
  have q := st_ok hn h
  exact ⟨n, _, _, _, _, _, h8, hn, hn.symm, q.1, q.2.1, rfl, rfl, rfl, rfl, rfl, h⟩
theorem read_ok {bs D : List Nat} {N n Ka Pa Sa Ea : Nat} (hf : OkRead bs N n D Ka Pa Sa Ea) (A : Option Addr) (c : Nat) (w : World) (h1 : Sl w w.heap.size A (bs.map byteV)) (hc : N ≤ c) (hc2 : c ≤ maxLen) :
    Calls Try.prog 19 #[.slice A N c] w fun e' w' => ∃ sv, e' = .returned (.tuple #[sv, .agg #[.int .i64 (Ka : Nat), .int .i64 (Pa : Nat), .int .i64 (Sa : Nat), .int .i64 (Ea : Nat)], .int .i64 1]) ∧ w'.ownsRow (w.heap.size + 1) 5 1 sv n (D.map byteV) ∧ Below w.heap.size w w' := by
  obtain ⟨h8, hl, hN, hn1, hn2, hD, hK, hP, hS, hE, hst⟩ := hf
  obtain ⟨b, o, rfl, lb, q⟩ := h1.at_ (by simp; omega)
  clear q lb
  subst hN hD hK hP hS hE
  have q := st_ok hl hst
  exact (read_in bs n b o c w h1 h8 hl hn1 hn2 hc hc2).2.2 q.2.2.1 q.2.2.2.1 q.2.2.2.2
theorem rread_ok {bs D : List Nat} {N n Ka Pa Sa Ea : Nat} (hf : OkRead bs N n D Ka Pa Sa Ea) (A : Option Addr) (c : Nat) (w : World) (h1 : Sl w w.heap.size A (bs.map byteV)) (hc : N ≤ c) (hc2 : c ≤ maxLen) :
    Calls Try.prog 20 #[.slice A N c] w fun e' w' => ∃ sv, e' = .returned (.tuple #[sv, .agg #[.int .i64 (Ka : Nat), .int .i64 (Pa : Nat), .int .i64 (Sa : Nat), .int .i64 (Ea : Nat)], .int .i64 1]) ∧ w'.ownsRow (w.heap.size + 1) 5 1 sv n (D.map byteV) ∧ Below w.heap.size w w' := by
  obtain ⟨h8, hl, hN, hn1, hn2, hD, hK, hP, hS, hE, hst⟩ := hf
  obtain ⟨b, o, rfl, lb, q⟩ := h1.at_ (by simp; omega)
  clear q lb
  subst hN hD hK hP hS hE
  have hr : (tagB (tK (bs.drop n)) (tP (bs.drop n)) (tS (bs.drop n)) (tE (bs.drop n)) && decide (rawB (bs.take n) (tK (bs.drop n)) (tP (bs.drop n)) (tS (bs.drop n)) (tE (bs.drop n)) = bs)) = true := by
    have q := st_ok hl hst
    rw [q.2.2.2.1, Bool.true_and, decide_eq_true_eq]
    exact sound_raw hl h8 q.2.2.2.2
  refine (rread_in bs n b o c w h1 h8 hl hn1 hn2 hc hc2 _ _ _ _ rfl rfl rfl rfl true hr _ rfl).mono fun e' w' h => ?_
  obtain ⟨sv, he, ho⟩ := h.2.1 rfl
  exact ⟨sv, he, ho, h.2.2⟩
theorem rread_bad (bs : List Nat) (N : Nat) (hN : bs.length = N) (A : Option Addr) (c : Nat) (w : World) (h1 : Sl w w.heap.size A (bs.map byteV)) (h8 : Bytes8 bs) (hc : N ≤ c) (hc2 : c ≤ maxLen) (n1 : N ≤ 1000000) (st : Nat) (hst : readSt bs = st) (hne : st ≠ 1) :
    Calls Try.prog 20 #[.slice A N c] w fun e' w' => e' = .returned (.tuple #[.slice none 0 0, .agg #[.int .i64 0, .int .i64 0, .int .i64 0, .int .i64 0], .int .i64 st]) ∧ Below w.heap.size w w' := by
  subst hN
  by_cases hr : 40 ≤ bs.length ∧ bs.length ≤ 80
  · obtain ⟨b, o, rfl, lb, q⟩ := h1.at_ (by simp; omega)
    obtain ⟨n, hn⟩ : ∃ n, bs.length = n + 16 := ⟨bs.length - 16, by omega⟩
    clear q lb
    have hb : (tagB (tK (bs.drop n)) (tP (bs.drop n)) (tS (bs.drop n)) (tE (bs.drop n)) && decide (rawB (bs.take n) (tK (bs.drop n)) (tP (bs.drop n)) (tS (bs.drop n)) (tE (bs.drop n)) = bs)) = false := by
      rw [Bool.and_eq_false_iff, decide_eq_false_iff_not]
      by_cases ht : tagB (tK (bs.drop n)) (tP (bs.drop n)) (tS (bs.drop n)) (tE (bs.drop n)) = true
      · refine Or.inr fun he => hne ?_
        rw [← hst]
        exact st_split hn (by omega) (by omega) h8 ht he
      · exact Or.inl (by simpa using ht)
    have hs := st_other hn (by omega) (by omega) h8 (by
      rw [Bool.and_eq_false_iff, decide_eq_false_iff_not] at hb
      exact hb)
    rw [hn] at hc ⊢
    refine (rread_in bs n b o c w h1 h8 hn (by omega) (by omega) hc hc2 _ _ _ _ rfl rfl rfl rfl false hb (st : Int) ?_).mono fun e' w' h => ⟨h.1 rfl, h.2.2⟩
    rw [← hst, hs]
    split <;> rfl
  · have : st = 2 := by
      rw [← hst]
      unfold readSt
      rw [if_neg hr]
    subst this
    exact rread_len bs A c w hr n1
end Go.Proofs.Ytjmochkhdapmiaa
