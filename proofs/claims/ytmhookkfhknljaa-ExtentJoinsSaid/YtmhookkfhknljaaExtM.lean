/- Extents, plainly. -/
import Derived.Test.YtmhookkfhknljaaSl
namespace Go.Proofs.Ytmhookkfhknljaa
set_option linter.unusedSimpArgs false
set_option linter.unusedVariables false
def partsI (s e : Int) : Int := max 1 ((s + e - 1) / e)
def sumP (c : Int) : List Int → Int
  | [] => 0
  | s :: l => partsI s c + sumP c l
def idxI (c : Int) (ns : List Int) : Int := partsI (2 + 4 * (ns.length : Int) + 2 * sumP c ns) (c - 2)
def needI (c : Int) (ns : List Int) : Int := sumP c ns + idxI c ns
theorem parts_pos (s e : Int) : 1 ≤ partsI s e := by unfold partsI; omega
theorem parts_mono {s t e : Int} (he : 1 ≤ e) (h : s ≤ t) : partsI s e ≤ partsI t e := by
  unfold partsI
  have := Int.ediv_le_ediv (c := e) (by omega) (show s + e - 1 ≤ t + e - 1 by omega)
  omega
theorem parts_bd {s e : Int} (he : 1 ≤ e) (hs : 0 ≤ s) : partsI s e ≤ s + 1 := by
  unfold partsI
  have : (s + e - 1) / e ≤ s + 1 := by
    have h1 : (s + e - 1) / e < s + 1 + 1 := Int.ediv_lt_of_lt_mul (by omega) (by
      have : (s + 1 + 1) * e = s * e + 2 * e := by rw [Int.add_mul, Int.add_mul]; omega
      have h2 : s ≤ s * e := by
        have := Int.mul_le_mul_of_nonneg_left he hs
        omega
      omega)
    omega
  omega
theorem sumP_append (c : Int) : ∀ (a b : List Int), sumP c (a ++ b) = sumP c a + sumP c b
  | [], b => by simp [sumP]
  | s :: a, b => by
    have := sumP_append c a b
    simp only [List.cons_append, sumP]
    omega
theorem sumP_reverse (c : Int) : ∀ a : List Int, sumP c a.reverse = sumP c a
  | [] => rfl
  | s :: a => by
    have := sumP_reverse c a
    rw [List.reverse_cons, sumP_append]
    simp only [sumP]
    omega
theorem sumP_set (c : Int) : ∀ (a : List Int) (i : Nat) (v : Int), i < a.length → sumP c (a.set i v) = sumP c a - partsI (a.getD i 0) c + partsI v c
  | [], i, v, h => by simp at h
  | s :: a, 0, v, _ => by simp [sumP]; omega
  | s :: a, i + 1, v, h => by
    have := sumP_set c a i v (by simpa using h)
    simp only [List.set_cons_succ, sumP, List.getD_cons_succ]
    omega
theorem sumP_bd (c : Int) (hc : 1 ≤ c) : ∀ a : List Int, (∀ z ∈ a, 0 ≤ z ∧ z ≤ 1048576) → (a.length : Int) ≤ sumP c a ∧ sumP c a ≤ 1048577 * (a.length : Int)
  | [], _ => by simp [sumP]
  | s :: a, h => by
    have h1 := sumP_bd c hc a fun z hz => h z (List.mem_cons_of_mem _ hz)
    have h2 := h s List.mem_cons_self
    have h3 := parts_pos s c
    have h4 := parts_bd hc h2.1
    simp only [sumP, List.length_cons]
    omega
theorem idx_mono {c : Int} (hc : 24 ≤ c) {a b : List Int} (hl : a.length ≤ b.length) (hs : sumP c a ≤ sumP c b) : idxI c a ≤ idxI c b := by
  unfold idxI
  exact parts_mono (by omega) (by omega)
theorem need_reverse (c : Int) (a : List Int) : needI c a.reverse = needI c a := by
  unfold needI idxI
  rw [sumP_reverse, List.length_reverse]
theorem need_more {c : Int} (hc : 24 ≤ c) (a : List Int) (m : Int) : needI c a < needI c (a ++ [m]) := by
  have h1 : sumP c (a ++ [m]) = sumP c a + partsI m c := by rw [sumP_append]; simp [sumP]
  have h2 := parts_pos m c
  have h3 := idx_mono hc (a := a) (b := a ++ [m]) (by simp) (by omega)
  unfold needI
  omega
theorem need_set {c : Int} (hc : 24 ≤ c) (a : List Int) (i : Nat) (hi : i < a.length) (v : Int) (hv : a.getD i 0 ≤ v) : needI c a ≤ needI c (a.set i v) := by
  have h1 := sumP_set c a i v hi
  have h2 := parts_mono (e := c) (by omega) hv
  have h3 := idx_mono hc (a := a) (b := a.set i v) (by simp) (by omega)
  unfold needI
  omega
theorem need_none {c : Int} (hc : 24 ≤ c) : needI c [] = 1 := by
  unfold needI idxI partsI
  simp only [sumP, List.length_nil]
  have h : (2 + 4 * ((0 : Nat) : Int) + 2 * 0 + (c - 2) - 1) / (c - 2) = 1 := by
    rw [show (2 + 4 * ((0 : Nat) : Int) + 2 * 0 + (c - 2) - 1) = 1 + (c - 2) * 1 by omega, Int.add_mul_ediv_left _ _ (by omega), Int.ediv_eq_zero_of_lt (by omega) (by omega)]
    rfl
  rw [h]
  rfl
theorem need_one {c : Int} (hc : 24 ≤ c) (m : Int) : needI c [m] = 1 + partsI m c + idxI c [m] - 1 := by
  unfold needI
  simp only [sumP]
  omega
/-- The first k sizes, one by one. -/
theorem sumP_take (c : Int) (a : List Int) (k : Nat) (hk : k < a.length) : sumP c (a.take (k + 1)) = sumP c (a.take k) + partsI (a.getD k 0) c := by
  rw [List.take_succ_eq_append_getElem hk, sumP_append, List.getD_eq_getElem?_getD, List.getElem?_eq_getElem hk]
  simp [sumP]
/-- Bytes with zeros behind them, n in all. -/
def padN (n : Nat) (l : List Nat) : List Nat := l ++ List.replicate (n - l.length) 0
def partB (n : Nat) (bs : List Nat) (i : Nat) : List Nat := padN n ((bs.drop (i * n)).take n)
def cutB (n : Nat) (bs : List Nat) (m : Nat) : List (List Nat) := (List.range m).map (partB n bs)
theorem pad_len {n : Nat} {l : List Nat} (h : l.length ≤ n) : (padN n l).length = n := by simp [padN]; omega
theorem part_len' (n : Nat) (bs : List Nat) (i : Nat) : (partB n bs i).length = n := pad_len (by simp; omega)
theorem part_z (n : Nat) (bs : List Nat) (i K : Nat) (hK : (i + 1) * n ≤ K + bs.length) : partB n bs i = ((bs ++ List.replicate K 0).drop (i * n)).take n := by
  have e : (i + 1) * n = i * n + n := Nat.succ_mul i n
  unfold partB padN
  apply List.ext_getElem?
  intro j
  by_cases hj : j < n
  · simp only [List.getElem?_append, List.getElem?_take, List.getElem?_drop, List.length_take, List.length_drop, List.getElem?_replicate, if_pos hj]
    by_cases h1 : j < min n (bs.length - i * n)
    · rw [if_pos h1, if_pos (by omega)]
    · rw [if_neg h1, if_pos (by omega), if_neg (by omega), if_pos (by omega)]
  · rw [List.getElem?_eq_none (by simp; omega), List.getElem?_eq_none (by simp; omega)]
theorem cut_flat (n : Nat) (bs : List Nat) (K : Nat) : ∀ m, m * n ≤ K + bs.length → (cutB n bs m).flatten = (bs ++ List.replicate K 0).take (m * n)
  | 0, _ => by simp [cutB]
  | m + 1, h => by
    have e : (m + 1) * n = m * n + n := Nat.succ_mul m n
    have ih := cut_flat n bs K m (by omega)
    have h2 : cutB n bs (m + 1) = cutB n bs m ++ [partB n bs m] := by simp [cutB, List.range_succ]
    rw [h2, List.flatten_append, ih, part_z n bs m K h, e, List.take_add]
    simp
theorem cut_back (n : Nat) (bs : List Nat) (m s : Nat) (h : bs.length ≤ m * n) (hs : s ≤ bs.length) : ((cutB n bs m).flatten).take s = bs.take s := by
  rw [cut_flat n bs (m * n) m (by omega), List.take_take, Nat.min_eq_left (by omega), List.take_append_of_le_length hs]
theorem cut_size (n : Nat) (bs : List Nat) (m : Nat) : ((cutB n bs m).flatten).length = m * n := by
  rw [cut_flat n bs (m * n) m (by omega)]
  simp
theorem cut_at (n : Nat) (bs : List Nat) (m i : Nat) (h : i < m) : (cutB n bs m)[i]? = some (partB n bs i) := by
  simp [cutB, h]
theorem part_front (n : Nat) (a b : List Nat) (i : Nat) (h : (i + 1) * n ≤ a.length) : partB n (a ++ b) i = partB n a i := by
  have e : (i + 1) * n = i * n + n := Nat.succ_mul i n
  unfold partB
  rw [List.drop_append_of_le_length (by omega), List.take_append_of_le_length (by simp; omega)]
theorem part_back (n : Nat) (a b : List Nat) (k i : Nat) (h : a.length = k * n) : partB n (a ++ b) (k + i) = partB n b i := by
  unfold partB
  rw [Nat.add_mul, ← h, List.drop_append, List.drop_eq_nil_of_le (by omega), List.nil_append, Nat.add_sub_cancel_left]
theorem take_flat {ps : List (List Nat)} {k : Nat} (hk : k < ps.length) (s : Nat) : ((ps.take (k + 1)).flatten).take s = ((ps.take k).flatten).take s ++ (ps[k]).take (s - (((ps.take k).flatten).take s).length) := by
  rw [List.take_succ_eq_append_getElem hk, List.flatten_append, List.take_append]
  simp only [List.flatten_cons, List.flatten_nil, List.append_nil, List.length_take]
  congr 2
  omega
end Go.Proofs.Ytmhookkfhknljaa
