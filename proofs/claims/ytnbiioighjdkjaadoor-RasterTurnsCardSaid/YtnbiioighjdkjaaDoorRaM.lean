/- Dots of a way: whole numbers alone. -/
import Derived.Test.YtnbiioighjdkjaaDoorFlC
namespace Go.Proofs.YtnbiioighjdkjaaDoor
open Go.ChangeShapes Go.WideShapes Go.ChangeAt Go.RowKit
set_option linter.unusedSimpArgs false
set_option linter.unusedVariables false

def shareZ (d k n : Int) : Int := (2 * k * d + n) / (2 * n)
def wayN (p q : Int × Int) : Int := max ((q.1 - p.1).natAbs : Int) ((q.2 - p.2).natAbs : Int)
def dotK (p q : Int × Int) (n : Int) (k : Nat) : Int × Int := (p.1 + shareZ (q.1 - p.1) k n, p.2 + shareZ (q.2 - p.2) k n)
def dotsN (p q : Int × Int) (n : Int) (m : Nat) : List (Int × Int) := (List.range (m + 1)).map (dotK p q n)
def dotsL (p q : Int × Int) : List (Int × Int) := dotsN p q (wayN p q) (wayN p q).toNat
theorem ediv_near {a b c : Int} (hc : 0 < c) (h1 : a ≤ b + c) (h2 : b ≤ a + c) : a / c ≤ b / c + 1 ∧ b / c ≤ a / c + 1 := by
  have e1 : (b + 1 * c) / c = b / c + 1 := Int.add_mul_ediv_right b 1 (by omega)
  have e2 : (a + 1 * c) / c = a / c + 1 := Int.add_mul_ediv_right a 1 (by omega)
  rw [Int.one_mul] at e1 e2
  constructor
  · rw [← e1]; exact Int.ediv_le_ediv hc h1
  · rw [← e2]; exact Int.ediv_le_ediv hc h2
theorem half_ediv {n : Int} (hn : 0 < n) : n / (2 * n) = 0 := Int.ediv_eq_zero_of_lt (by omega) (by omega)
theorem share_zero (d n : Int) (hn : 0 ≤ n) : shareZ d 0 n = 0 := by
  unfold shareZ
  rw [show 2 * 0 * d + n = n by omega]
  rcases Int.lt_or_eq_of_le hn with h | h
  · exact half_ediv h
  · rw [← h]; rfl
theorem share_mul (x n : Int) (hn : 0 < n) : (2 * n * x + n) / (2 * n) = x := by
  rw [Int.add_comm, Int.add_mul_ediv_left _ _ (by omega : 2 * n ≠ 0), half_ediv hn]
  omega
theorem share_end (d n : Int) (hn : 0 < n) : shareZ d n n = d := by
  unfold shareZ
  exact share_mul d n hn
theorem share_full (n : Int) (k : Int) (hn : 0 < n) : shareZ n k n = k ∧ shareZ (-n) k n = -k := by
  unfold shareZ
  constructor
  · rw [show 2 * k * n + n = 2 * n * k + n by grind]
    exact share_mul k n hn
  · rw [show 2 * k * (-n) + n = 2 * n * (-k) + n by grind]
    exact share_mul (-k) n hn
theorem share_step (d n k : Int) (hn : 0 < n) (h1 : -n ≤ d) (h2 : d ≤ n) : shareZ d (k + 1) n ≤ shareZ d k n + 1 ∧ shareZ d k n ≤ shareZ d (k + 1) n + 1 := by
  unfold shareZ
  have e : 2 * (k + 1) * d + n = 2 * k * d + n + 2 * d := by grind
  exact ediv_near (by omega) (by omega) (by omega)
theorem share_bd (d n k : Int) (hn : 0 < n) (h1 : 0 ≤ k) (h2 : k ≤ n) : (0 ≤ d → 0 ≤ shareZ d k n ∧ shareZ d k n ≤ d) ∧ (d ≤ 0 → d ≤ shareZ d k n ∧ shareZ d k n ≤ 0) := by
  have hc : (0 : Int) < 2 * n := by omega
  have e0 := share_zero d n (by omega)
  have e1 := share_end d n hn
  unfold shareZ at e0 e1 ⊢
  constructor
  · intro hd
    have a0 : 0 ≤ k * d := Int.mul_nonneg h1 hd
    have a1 : k * d ≤ n * d := Int.mul_le_mul_of_nonneg_right h2 hd
    have b0 : 2 * 0 * d + n ≤ 2 * k * d + n := by rw [show 2 * k * d = 2 * (k * d) by grind]; omega
    have b1 : 2 * k * d + n ≤ 2 * n * d + n := by rw [show 2 * k * d = 2 * (k * d) by grind, show 2 * n * d = 2 * (n * d) by grind]; omega
    have c0 := Int.ediv_le_ediv hc b0
    have c1 := Int.ediv_le_ediv hc b1
    rw [e0] at c0
    rw [e1] at c1
    exact ⟨c0, c1⟩
  · intro hd
    have a0 : k * d ≤ 0 := Int.mul_nonpos_of_nonneg_of_nonpos h1 hd
    have a1 : n * d ≤ k * d := Int.mul_le_mul_of_nonpos_right h2 hd
    have b0 : 2 * k * d + n ≤ 2 * 0 * d + n := by rw [show 2 * k * d = 2 * (k * d) by grind]; omega
    have b1 : 2 * n * d + n ≤ 2 * k * d + n := by rw [show 2 * k * d = 2 * (k * d) by grind, show 2 * n * d = 2 * (n * d) by grind]; omega
    have c0 := Int.ediv_le_ediv hc b0
    have c1 := Int.ediv_le_ediv hc b1
    rw [e0] at c0
    rw [e1] at c1
    exact ⟨c1, c0⟩
theorem way_bd (p q : Int × Int) : 0 ≤ wayN p q ∧ (-(wayN p q) ≤ q.1 - p.1 ∧ q.1 - p.1 ≤ wayN p q) ∧ (-(wayN p q) ≤ q.2 - p.2 ∧ q.2 - p.2 ≤ wayN p q) ∧ ((q.1 - p.1 = wayN p q ∨ q.1 - p.1 = -(wayN p q)) ∨ (q.2 - p.2 = wayN p q ∨ q.2 - p.2 = -(wayN p q))) := by
  unfold wayN
  omega
theorem way_sym (p q : Int × Int) : wayN q p = wayN p q := by
  unfold wayN
  omega
theorem dot_zero (p q : Int × Int) (n : Int) (hn : 0 ≤ n) : dotK p q n 0 = p := by
  unfold dotK
  rw [show ((0 : Nat) : Int) = 0 by rfl, share_zero _ _ hn, share_zero _ _ hn]
  simp
theorem dot_end (p q : Int × Int) : dotK p q (wayN p q) (wayN p q).toNat = q := by
  obtain ⟨h0, h1, h2, h3⟩ := way_bd p q
  unfold dotK
  rw [show (((wayN p q).toNat : Nat) : Int) = wayN p q by omega]
  rcases Int.lt_or_eq_of_le h0 with h | h
  · rw [share_end _ _ h, share_end _ _ h]
    ext <;> dsimp only <;> omega
  · rw [← h] at h1 h2 ⊢
    rw [share_zero _ _ (Int.le_refl 0), share_zero _ _ (Int.le_refl 0)]
    ext <;> dsimp only <;> omega
theorem share_may {x y n k : Int} (hx : mayZ x = true) (hy : mayZ y = true) (hn : 0 ≤ n) (h1 : 0 ≤ k) (h2 : k ≤ n) : mayZ (x + shareZ (y - x) k n) = true := by
  have a := mayZ_bd hx
  have b := mayZ_bd hy
  apply mayZ_of
  rcases Int.lt_or_eq_of_le hn with h | h
  · obtain ⟨s1, s2⟩ := share_bd (y - x) n k h h1 h2
    rcases Int.le_total 0 (y - x) with hd | hd
    · have := s1 hd; omega
    · have := s2 hd; omega
  · obtain rfl : k = 0 := by omega
    rw [share_zero _ _ hn]
    omega
theorem dot_may {p q : Int × Int} (hp : mayZ p.1 = true ∧ mayZ p.2 = true) (hq : mayZ q.1 = true ∧ mayZ q.2 = true) {k : Nat} (hk : (k : Int) ≤ wayN p q) : mayZ (dotK p q (wayN p q) k).1 = true ∧ mayZ (dotK p q (wayN p q) k).2 = true :=
  ⟨share_may hp.1 hq.1 (way_bd p q).1 (by omega) hk, share_may hp.2 hq.2 (way_bd p q).1 (by omega) hk⟩
/-- A step of a way: at most one in each part, one in one part at least. -/
theorem dot_step (p q : Int × Int) {k : Nat} (hk : (k : Int) + 1 ≤ wayN p q) :
    (-1 ≤ (dotK p q (wayN p q) (k + 1)).1 - (dotK p q (wayN p q) k).1 ∧ (dotK p q (wayN p q) (k + 1)).1 - (dotK p q (wayN p q) k).1 ≤ 1) ∧
    (-1 ≤ (dotK p q (wayN p q) (k + 1)).2 - (dotK p q (wayN p q) k).2 ∧ (dotK p q (wayN p q) (k + 1)).2 - (dotK p q (wayN p q) k).2 ≤ 1) ∧
    ((dotK p q (wayN p q) (k + 1)).1 - (dotK p q (wayN p q) k).1 ≠ 0 ∨ (dotK p q (wayN p q) (k + 1)).2 - (dotK p q (wayN p q) k).2 ≠ 0) := by
  obtain ⟨h0, h1, h2, h3⟩ := way_bd p q
  have hn : 0 < wayN p q := by omega
  have s1 := share_step (q.1 - p.1) (wayN p q) k hn h1.1 h1.2
  have s2 := share_step (q.2 - p.2) (wayN p q) k hn h2.1 h2.2
  have f0 := share_full (wayN p q) (k : Int) hn
  have f1 := share_full (wayN p q) ((k : Int) + 1) hn
  unfold dotK
  dsimp only
  rw [show ((k + 1 : Nat) : Int) = (k : Int) + 1 by push_cast; rfl]
  refine ⟨by omega, by omega, ?_⟩
  rcases h3 with (h | h) | (h | h)
  · left; rw [h, f0.1, f1.1]; omega
  · left; rw [h, f0.2, f1.2]; omega
  · right; rw [h, f0.1, f1.1]; omega
  · right; rw [h, f0.2, f1.2]; omega
theorem dotsN_len (p q : Int × Int) (n : Int) (m : Nat) : (dotsN p q n m).length = m + 1 := by simp [dotsN]
theorem dotsN_at (p q : Int × Int) (n : Int) (m k : Nat) (h : k ≤ m) : (dotsN p q n m)[k]? = some (dotK p q n k) := by
  unfold dotsN
  rw [List.getElem?_map, List.getElem?_range (by omega)]
  rfl
theorem dotsN_succ (p q : Int × Int) (n : Int) (m : Nat) : dotsN p q n (m + 1) = dotsN p q n m ++ [dotK p q n (m + 1)] := by
  unfold dotsN
  rw [List.range_succ, List.map_append]
  rfl
theorem dotsN_zero (p q : Int × Int) (n : Int) (hn : 0 ≤ n) : dotsN p q n 0 = [p] := by
  show [dotK p q n 0] = [p]
  rw [dot_zero p q n hn]
theorem dotsL_len (p q : Int × Int) : (dotsL p q).length = (wayN p q).toNat + 1 := dotsN_len ..
theorem dotsL_ok {p q : Int × Int} (hp : mayZ p.1 = true ∧ mayZ p.2 = true) (hq : mayZ q.1 = true ∧ mayZ q.2 = true) : PtsOk (dotsL p q) := by
  intro x hx
  unfold dotsL dotsN at hx
  obtain ⟨k, hk, rfl⟩ := List.mem_map.1 hx
  have := List.mem_range.1 hk
  exact dot_may hp hq (by have := (way_bd p q).1; omega)
theorem fdiv_of {a c : Int} (hc : 0 < c) : (if a.tmod c < 0 then a.tdiv c - 1 else a.tdiv c) = a / c := by
  have h1 := Int.tmod_add_mul_tdiv a c
  have h2 := Int.tmod_lt_of_pos a hc
  have h3 : -c < a.tmod c := by
    rcases Int.le_total 0 a with h | h
    · have := Int.tmod_nonneg c h; omega
    · have := Int.tmod_lt_of_pos (-a) hc
      rw [Int.neg_tmod] at this
      omega
  split
  · next h =>
    have e : a = c * (a.tdiv c - 1) + (a.tmod c + c) := by
      have : c * (a.tdiv c - 1) = c * a.tdiv c - c := by rw [Int.mul_sub, Int.mul_one]
      omega
    have := (Int.ediv_emod_unique hc (a := a) (r := a.tmod c + c) (q := a.tdiv c - 1)).2 ⟨by rw [Int.add_comm]; exact e.symm, by omega, by omega⟩
    exact this.1.symm
  · next h =>
    have := (Int.ediv_emod_unique hc (a := a) (r := a.tmod c) (q := a.tdiv c)).2 ⟨h1, by omega, by omega⟩
    exact this.1.symm
end Go.Proofs.YtnbiioighjdkjaaDoor
