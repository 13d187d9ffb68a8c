/- Pictures that are turned: bits, counts, boxes. -/
import Derived.Test.YtnbiioighjdkjaaDoorRaP
namespace Go.Proofs.YtnbiioighjdkjaaDoor
open Go.ChangeShapes Go.WideShapes Go.ChangeAt Go.RowKit
set_option linter.unusedSimpArgs false
set_option linter.unusedVariables false

/-- Rows turned by a quarter: y rows in. -/
def turnA (f : Nat → Nat) (H : Nat) : Nat → Nat → Nat
  | 0, _ => 0
  | y + 1, x => turnA f H y x ||| ((f y >>> x &&& 1) <<< (H - 1 - y))
theorem bit_one (r x k b : Nat) : ((r >>> x &&& 1) <<< k).testBit b = (decide (b = k) && r.testBit x) := by
  rw [Nat.testBit_shiftLeft, Nat.testBit_and, Nat.testBit_shiftRight]
  by_cases h : b = k
  · subst h
    rw [decide_eq_true (by omega : b ≥ b), decide_eq_true rfl, Nat.sub_self, Nat.add_zero, show (1 : Nat).testBit 0 = true by decide, Bool.and_true]
  · rw [decide_eq_false h, Bool.false_and]
    by_cases h2 : b ≥ k
    · have : (1 : Nat).testBit (b - k) = false := by
        cases hq : (1 : Nat).testBit (b - k) with
        | false => rfl
        | true => exact absurd (Nat.testBit_one_eq_true_iff_self_eq_zero.1 hq) (by omega)
      rw [this, Bool.and_false, Bool.and_false]
    · rw [decide_eq_false h2, Bool.false_and]
theorem turnA_bit (f : Nat → Nat) (H : Nat) : ∀ y, y ≤ H → ∀ x b, (turnA f H y x).testBit b = (decide (b < H ∧ H - 1 - b < y) && (f (H - 1 - b)).testBit x)
  | 0, _, x, b => by
    rw [decide_eq_false (by omega), Bool.false_and]
    exact Nat.zero_testBit b
  | y + 1, hy, x, b => by
    have ih := turnA_bit f H y (by omega) x b
    unfold turnA
    rw [Nat.testBit_or, ih, bit_one]
    by_cases h : b = H - 1 - y
    · rw [decide_eq_false (by omega), decide_eq_true h, decide_eq_true (by omega), Bool.false_and, Bool.false_or, Bool.true_and, Bool.true_and, show H - 1 - b = y by omega]
    · rw [decide_eq_false h, Bool.false_and, Bool.or_false]
      congr 1
      exact decide_eq_decide.2 (by omega)
def turnF (f : Nat → Nat) (H : Nat) : Nat → Nat := turnA f H H
theorem turn_bit (f : Nat → Nat) (H x b : Nat) : (turnF f H x).testBit b = (decide (b < H) && (f (H - 1 - b)).testBit x) := by
  unfold turnF
  rw [turnA_bit f H H (Nat.le_refl _)]
  congr 1
  exact decide_eq_decide.2 (by omega)
theorem turn_four (f : Nat → Nat) (W H : Nat) (y : Nat) (hy : y < H) (hf : f y < 2 ^ W) : turnF (turnF (turnF (turnF f H) W) H) W y = f y := by
  apply Nat.eq_of_testBit_eq
  intro b
  rw [turn_bit, turn_bit, turn_bit, turn_bit]
  by_cases hb : b < W
  · rw [decide_eq_true hb, decide_eq_true hy, decide_eq_true (by omega : W - 1 - b < W), decide_eq_true (by omega : H - 1 - y < H), Bool.true_and, Bool.true_and, Bool.true_and, Bool.true_and, show H - 1 - (H - 1 - y) = y by omega, show W - 1 - (W - 1 - b) = b by omega]
  · rw [decide_eq_false hb, Bool.false_and]
    exact (Nat.testBit_lt_two_pow (Nat.lt_of_lt_of_le hf (Nat.pow_le_pow_right (by decide) (by omega)))).symm

theorem turn_lt (f : Nat → Nat) (H x : Nat) : turnF f H x < 2 ^ H := by
  apply Nat.lt_pow_two_of_testBit
  intro i hi
  rw [turn_bit, decide_eq_false (by omega), Bool.false_and]
theorem sumN_same (f g : Nat → Nat) : ∀ n, (∀ y, y < n → f y = g y) → sumN f n = sumN g n
  | 0, _ => rfl
  | n + 1, h => by
    unfold sumN
    rw [sumN_same f g n (fun y hy => h y (by omega)), h n (by omega)]
theorem sumN_add (f g : Nat → Nat) : ∀ n, sumN (fun y => f y + g y) n = sumN f n + sumN g n
  | 0 => rfl
  | n + 1 => by
    unfold sumN
    rw [sumN_add f g n]
    omega
theorem sumN_zero : ∀ n, sumN (fun _ => 0) n = 0
  | 0 => rfl
  | n + 1 => by unfold sumN; rw [sumN_zero n]
theorem sumN_comm (f : Nat → Nat → Nat) (m : Nat) : ∀ n, sumN (fun x => sumN (fun y => f x y) m) n = sumN (fun y => sumN (fun x => f x y) n) m
  | 0 => (sumN_zero m).symm
  | n + 1 => by
    have e : (fun y => sumN (fun x => f x y) (n + 1)) = fun y => sumN (fun x => f x y) n + f n y := by funext y; rfl
    rw [e, sumN_add, ← sumN_comm f m n]
    rfl
theorem sumN_front (f : Nat → Nat) : ∀ n, sumN f (n + 1) = f 0 + sumN (fun y => f (y + 1)) n
  | 0 => by
    show 0 + f 0 = f 0 + 0
    omega
  | n + 1 => by
    rw [show sumN f (n + 1 + 1) = sumN f (n + 1) + f (n + 1) from rfl, sumN_front f n]
    show _ = f 0 + (sumN (fun y => f (y + 1)) n + f (n + 1))
    omega
theorem sumN_back (f : Nat → Nat) : ∀ n, sumN (fun y => f (n - 1 - y)) n = sumN f n
  | 0 => rfl
  | n + 1 => by
    rw [sumN_front]
    show f (n + 1 - 1 - 0) + sumN (fun y => f (n + 1 - 1 - (y + 1))) n = sumN f n + f n
    rw [sumN_same (fun y => f (n + 1 - 1 - (y + 1))) (fun y => f (n - 1 - y)) n (fun y _ => by show f _ = f _; congr 1; omega), sumN_back f n, show n + 1 - 1 - 0 = n by omega]
    omega
/-- A word's bits, as a sum. -/
def bitsN (x n : Nat) : Nat := sumN (fun b => (x.testBit b).toNat) n
theorem sumN_cut (f : Nat → Nat) (m : Nat) : ∀ k, (∀ y, m ≤ y → f y = 0) → sumN f (m + k) = sumN f m
  | 0, _ => rfl
  | k + 1, h => by
    show sumN f (m + k) + f (m + k) = _
    rw [sumN_cut f m k h, h (m + k) (by omega), Nat.add_zero]
theorem bitsN_cut (x m n : Nat) (h : x < 2 ^ m) (hmn : m ≤ n) : bitsN x n = bitsN x m := by
  obtain ⟨k, rfl⟩ : ∃ k, n = m + k := ⟨n - m, by omega⟩
  unfold bitsN
  apply sumN_cut
  intro y hy
  rw [Nat.testBit_lt_two_pow (Nat.lt_of_lt_of_le h (Nat.pow_le_pow_right (by decide) hy))]
  rfl
/-- As many dots, turned. -/
theorem turn_bits (f : Nat → Nat) (W H : Nat) (hW : W ≤ 64) (hH : H ≤ 64) (hf : ∀ y, y < H → f y < 2 ^ W) : sumN (fun x => bitsN (turnF f H x) 64) W = sumN (fun y => bitsN (f y) 64) H := by
  rw [sumN_same (fun x => bitsN (turnF f H x) 64) (fun x => sumN (fun b => ((f (H - 1 - b)).testBit x).toNat) H) W (fun x _ => by
    show bitsN (turnF f H x) 64 = _
    rw [bitsN_cut _ H 64 (turn_lt f H x) hH]
    apply sumN_same
    intro b hb
    show ((turnF f H x).testBit b).toNat = _
    rw [turn_bit, decide_eq_true hb, Bool.true_and])]
  rw [sumN_comm (fun x b => ((f (H - 1 - b)).testBit x).toNat) H W]
  rw [sumN_back (fun y => sumN (fun x => ((f y).testBit x).toNat) W) H]
  apply sumN_same
  intro y hy
  exact (bitsN_cut _ W 64 (hf y hy) hW).symm
theorem sumN_split (f : Nat → Nat) (a : Nat) : ∀ b, sumN f (a + b) = sumN f a + sumN (fun y => f (a + y)) b
  | 0 => rfl
  | b + 1 => by
    show sumN f (a + b) + f (a + b) = sumN f a + (sumN (fun y => f (a + y)) b + f (a + b))
    rw [sumN_split f a b]
    omega
theorem block_bits (x k : Nat) : sumN (fun b => (x.testBit (k + b)).toNat) 8 = bitsN (x / 2 ^ k % 2 ^ 8) 8 := by
  unfold bitsN
  apply sumN_same
  intro b hb
  show (x.testBit (k + b)).toNat = ((x / 2 ^ k % 2 ^ 8).testBit b).toNat
  rw [Nat.testBit_mod_two_pow, decide_eq_true hb, Bool.true_and, Nat.testBit_div_two_pow, Nat.add_comm]
theorem bits_blocks (x : Nat) : bitsN x 64 = 0 + bitsN (x / 2 ^ 0 % 2 ^ 8) 8 + bitsN (x / 2 ^ 8 % 2 ^ 8) 8 + bitsN (x / 2 ^ 16 % 2 ^ 8) 8 + bitsN (x / 2 ^ 24 % 2 ^ 8) 8 + bitsN (x / 2 ^ 32 % 2 ^ 8) 8 + bitsN (x / 2 ^ 40 % 2 ^ 8) 8 + bitsN (x / 2 ^ 48 % 2 ^ 8) 8 + bitsN (x / 2 ^ 56 % 2 ^ 8) 8 := by
  rw [← block_bits x 0, ← block_bits x 8, ← block_bits x 16, ← block_bits x 24, ← block_bits x 32, ← block_bits x 40, ← block_bits x 48, ← block_bits x 56]
  have h := fun k => sumN_split (fun b => (x.testBit b).toNat) k 8
  have e : bitsN x 64 = sumN (fun b => (x.testBit b).toNat) (56 + 8) := rfl
  rw [e, h 56, show 56 = 48 + 8 from rfl, h 48, show 48 = 40 + 8 from rfl, h 40, show 40 = 32 + 8 from rfl, h 32, show 32 = 24 + 8 from rfl, h 24, show 24 = 16 + 8 from rfl, h 16, show 16 = 8 + 8 from rfl, h 8, show (8 : Nat) = 0 + 8 from rfl, h 0]
  rfl
def orN (f : Nat → Nat) : Nat → Nat
  | 0 => 0
  | n + 1 => orN f n ||| f n
theorem orN_bit (f : Nat → Nat) (b : Nat) : ∀ n, (orN f n).testBit b = true ↔ ∃ y, y < n ∧ (f y).testBit b = true
  | 0 => by
    constructor
    · intro h
      unfold orN at h
      rw [Nat.zero_testBit] at h
      cases h
    · intro h
      obtain ⟨y, h1, _⟩ := h
      omega
  | n + 1 => by
    unfold orN
    rw [Nat.testBit_or, Bool.or_eq_true, orN_bit f b n]
    constructor
    · rintro (⟨y, h1, h2⟩ | h)
      · exact ⟨y, by omega, h2⟩
      · exact ⟨n, by omega, h⟩
    · rintro ⟨y, h1, h2⟩
      by_cases e : y = n
      · exact Or.inr (e ▸ h2)
      · exact Or.inl ⟨y, by omega, h2⟩
theorem some_bit {x : Nat} (h : x ≠ 0) : ∃ b, x.testBit b = true := by
  obtain ⟨b, hb⟩ := Nat.exists_testBit_of_ne_zero h
  exact ⟨b, hb⟩
theorem bit_ne {x b : Nat} (h : x.testBit b = true) : x ≠ 0 := fun e => by rw [e, Nat.zero_testBit] at h; cases h
theorem bit_lt {x b W : Nat} (h : x < 2 ^ W) (hb : x.testBit b = true) : b < W := by
  rcases Nat.lt_or_ge b W with h1 | h1
  · exact h1
  · rw [Nat.testBit_lt_two_pow (Nat.lt_of_lt_of_le h (Nat.pow_le_pow_right (by decide) h1))] at hb
    cases hb
def First (f : Nat → Nat) (n y : Nat) : Prop := f y ≠ 0 ∧ y < n ∧ ∀ j, j < y → f j = 0
def Last (f : Nat → Nat) (n y : Nat) : Prop := f y ≠ 0 ∧ y < n ∧ ∀ j, y < j → j < n → f j = 0
def LowB (x k : Nat) : Prop := x.testBit k = true ∧ ∀ j, j < k → x.testBit j = false
def HighB (x k : Nat) : Prop := x.testBit k = true ∧ ∀ j, k < j → x.testBit j = false
structure BoxIs (f : Nat → Nat) (n x0 y0 x1 y1 : Nat) : Prop where
  y0 : First f n y0
  y1 : Last f n y1
  x0 : LowB (orN f n) x0
  x1 : HighB (orN f n) x1
theorem turn_true {f : Nat → Nat} {H x b : Nat} : (turnF f H x).testBit b = true ↔ b < H ∧ (f (H - 1 - b)).testBit x = true := by
  rw [turn_bit, Bool.and_eq_true, decide_eq_true_iff]
/-- A row that is not empty is a bit of the turned picture, and the other way round. -/
theorem turn_row {f : Nat → Nat} {W H : Nat} (hf : ∀ y, y < H → f y < 2 ^ W) (b : Nat) : (orN (turnF f H) W).testBit b = true ↔ b < H ∧ f (H - 1 - b) ≠ 0 := by
  rw [orN_bit]
  constructor
  · rintro ⟨x, _, h⟩
    obtain ⟨h1, h2⟩ := turn_true.1 h
    exact ⟨h1, bit_ne h2⟩
  · rintro ⟨h1, h2⟩
    obtain ⟨x, hx⟩ := some_bit h2
    exact ⟨x, bit_lt (hf _ (by omega)) hx, turn_true.2 ⟨h1, hx⟩⟩
theorem turn_col {f : Nat → Nat} {H x : Nat} : turnF f H x ≠ 0 ↔ (orN f H).testBit x = true := by
  rw [orN_bit]
  constructor
  · intro h
    obtain ⟨b, hb⟩ := some_bit h
    obtain ⟨h1, h2⟩ := turn_true.1 hb
    exact ⟨H - 1 - b, by omega, h2⟩
  · rintro ⟨y, h1, h2⟩
    exact bit_ne (b := H - 1 - y) (turn_true.2 ⟨by omega, by rw [show H - 1 - (H - 1 - y) = y by omega]; exact h2⟩)
theorem box_turn {f : Nat → Nat} {W H x0 y0 x1 y1 u0 v0 u1 v1 : Nat} (hf : ∀ y, y < H → f y < 2 ^ W) (h : BoxIs f H x0 y0 x1 y1) (k : BoxIs (turnF f H) W u0 v0 u1 v1) : u0 = H - 1 - y1 ∧ u1 = H - 1 - y0 ∧ v0 = x0 ∧ v1 = x1 := by
  obtain ⟨⟨a1, a2, a3⟩, ⟨b1, b2, b3⟩, ⟨c1, c2⟩, d1, d2⟩ := h
  obtain ⟨⟨e1, e2, e3⟩, ⟨g1, g2, g3⟩, ⟨i1, i2⟩, j1, j2⟩ := k
  refine ⟨?_, ?_, ?_, ?_⟩
  · obtain ⟨p1, p2⟩ := (turn_row hf u0).1 i1
    have q : (orN (turnF f H) W).testBit (H - 1 - y1) = true := (turn_row hf _).2 ⟨by omega, by rw [show H - 1 - (H - 1 - y1) = y1 by omega]; exact b1⟩
    rcases Nat.lt_trichotomy u0 (H - 1 - y1) with h1 | h1 | h1
    · exact absurd (b3 (H - 1 - u0) (by omega) (by omega)) p2
    · exact h1
    · rw [i2 _ h1] at q
      cases q
  · obtain ⟨p1, p2⟩ := (turn_row hf u1).1 j1
    have q : (orN (turnF f H) W).testBit (H - 1 - y0) = true := (turn_row hf _).2 ⟨by omega, by rw [show H - 1 - (H - 1 - y0) = y0 by omega]; exact a1⟩
    rcases Nat.lt_trichotomy u1 (H - 1 - y0) with h1 | h1 | h1
    · rw [j2 _ h1] at q
      cases q
    · exact h1
    · exact absurd (a3 (H - 1 - u1) (by omega)) p2
  · have p := turn_col.1 e1
    have q := turn_col.2 c1
    rcases Nat.lt_trichotomy v0 x0 with h1 | h1 | h1
    · rw [c2 _ h1] at p
      cases p
    · exact h1
    · exact absurd (e3 _ h1) q
  · have p := turn_col.1 g1
    have q := turn_col.2 d1
    have hx : x1 < W := by
      obtain ⟨y, hy, hb⟩ := (orN_bit f x1 H).1 d1
      exact bit_lt (hf y hy) hb
    rcases Nat.lt_trichotomy v1 x1 with h1 | h1 | h1
    · exact absurd (g3 _ h1 hx) q
    · exact h1
    · rw [d2 _ h1] at p
      cases p
theorem box_none {f : Nat → Nat} {W H : Nat} (hf : ∀ y, y < H → f y < 2 ^ W) : orN f H = 0 ↔ orN (turnF f H) W = 0 := by
  constructor
  · intro h
    apply Nat.eq_of_testBit_eq
    intro b
    rw [Nat.zero_testBit]
    cases hb : (orN (turnF f H) W).testBit b with
    | false => rfl
    | true =>
      obtain ⟨h1, h2⟩ := (turn_row hf b).1 hb
      obtain ⟨x, hx⟩ := some_bit h2
      have := (orN_bit f x H).2 ⟨_, by omega, hx⟩
      rw [h, Nat.zero_testBit] at this
      cases this
  · intro h
    apply Nat.eq_of_testBit_eq
    intro x
    rw [Nat.zero_testBit]
    cases hx : (orN f H).testBit x with
    | false => rfl
    | true =>
      obtain ⟨y, h1, h2⟩ := (orN_bit f x H).1 hx
      have := (turn_row hf (H - 1 - y)).2 ⟨by omega, by rw [show H - 1 - (H - 1 - y) = y by omega]; exact bit_ne h2⟩
      rw [h, Nat.zero_testBit] at this
      cases this
theorem pop8_bits : ∀ b, b < 256 → pop8 b = bitsN b 8 := by decide +kernel
theorem pop_bits (x : Nat) : popN x = bitsN x 64 := by
  rw [bits_blocks]
  rw [← pop8_bits _ (Nat.mod_lt _ (by decide)), ← pop8_bits _ (Nat.mod_lt _ (by decide)), ← pop8_bits _ (Nat.mod_lt _ (by decide)), ← pop8_bits _ (Nat.mod_lt _ (by decide)), ← pop8_bits _ (Nat.mod_lt _ (by decide)), ← pop8_bits _ (Nat.mod_lt _ (by decide)), ← pop8_bits _ (Nat.mod_lt _ (by decide)), ← pop8_bits _ (Nat.mod_lt _ (by decide))]
  unfold popN bytesN
  simp only [List.map_cons, List.map_nil, List.sum_cons, List.sum_nil, Nat.pow_zero, Nat.div_one]
  rw [show (2 : Nat) ^ 8 = 256 by decide, show (2 : Nat) ^ 16 = 65536 by decide, show (2 : Nat) ^ 24 = 16777216 by decide, show (2 : Nat) ^ 32 = 4294967296 by decide, show (2 : Nat) ^ 40 = 1099511627776 by decide, show (2 : Nat) ^ 48 = 281474976710656 by decide, show (2 : Nat) ^ 56 = 72057594037927936 by decide]
  omega
end Go.Proofs.YtnbiioighjdkjaaDoor
