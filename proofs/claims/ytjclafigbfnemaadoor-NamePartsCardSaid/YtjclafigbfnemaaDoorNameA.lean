/- Chapter 3's own rune1: a rune by ranges. -/
import Derived.Test.YtjclafigbfnemaaDoorNameM
import Derived.Test.YtjclafigbfnemaaDoorOpen
import Derived.Test.YtjclafigbfnemaaDoorLow
import Derived.WalkKit
import Derived.WalkLawsBesides
import Derived.Laws.RangeAny
import Derived.Lib.Hide
import Derived.Deep.DeepCutAuto
namespace Go.Proofs.YtjclafigbfnemaaDoor
open Go.ChangeShapes Go.WideShapes Go.ChangeAt Go.RowKit
set_option linter.unusedSimpArgs false
set_option linter.unusedVariables false

theorem at_L (s : ByteArray) (i : Nat) (h : i < s.size) : (s[i]'h).toNat = btL s.data.toList i := by
  unfold btL
  rw [← get_L]
  have : s[i]'h = s.get! i := by
    cases s with
    | mk d =>
      show d[i] = d[i]!
      rw [getElem!_pos]
  rw [this]
/-- The number that a rune's bytes make, one by one. -/
def prL (l : List UInt8) (i base : Nat) : Nat → Nat
  | 0 => btL l i - base
  | k + 1 => prL l i base k * 64 + btL l (i + (k + 1)) - 128
theorem prs (l : List UInt8) (i base : Nat) : prL l i base 0 = btL l i - base ∧ prL l i base 1 = prL l i base 0 * 64 + btL l (i + 1) - 128 ∧ prL l i base 2 = prL l i base 1 * 64 + btL l (i + 2) - 128 ∧ prL l i base 3 = prL l i base 2 * 64 + btL l (i + 3) - 128 := ⟨rfl, rfl, rfl, rfl⟩
theorem pr_le {l : List UInt8} {i base k : Nat} (hb : btL l i < base + 32) (hk : k ≤ 3) : prL l i base k ≤ 16777215 := by
  have h1 := bt_lt l (i + 1)
  have h2 := bt_lt l (i + 2)
  have h3 := bt_lt l (i + 3)
  obtain ⟨p0, p1, p2, p3⟩ := prs l i base
  have q0 : prL l i base 0 ≤ 31 := by omega
  have q1 : prL l i base 1 ≤ 2111 := by omega
  have q2 : prL l i base 2 ≤ 135231 := by omega
  have q3 : prL l i base 3 ≤ 8654911 := by omega
  rcases (by omega : k = 0 ∨ k = 1 ∨ k = 2 ∨ k = 3) with rfl | rfl | rfl | rfl
  · omega
  · omega
  · omega
  · omega
/-- What chapter 3's own rune1 answers. -/
def r1L (l : List UInt8) (i : Nat) : Nat × Nat := if badL l i = true then (0, 0) else decL l i
theorem r1_bad {l : List UInt8} {i : Nat} (h : ¬ ∃ r w, Runed (l.length - i) (btL l i) (btL l (i + 1)) (btL l (i + 2)) (btL l (i + 3)) r w) : r1L l i = (0, 0) := by
  unfold r1L
  cases hq : badL l i
  · exact absurd ⟨_, _, good_of hq⟩ h
  · rfl
theorem r1_good {l : List UInt8} {i r w : Nat} (hi : i < l.length) (h : Runed (l.length - i) (btL l i) (btL l (i + 1)) (btL l (i + 2)) (btL l (i + 3)) r w) : r1L l i = (r, w) := by
  obtain ⟨h1, h2⟩ := of_good hi h
  unfold r1L
  rw [h2, if_neg (by simp), h1]

set_option maxRecDepth 100000 in
set_option maxHeartbeats 4000000 in
theorem rune1_1 (s : ByteArray) (i R N : Nat) (w : World) (hi : i < s.size) (hs : s.size ≤ 100000) (hr : r1L s.data.toList i = (R, N)) (hlo : 0 ≤ btL s.data.toList i) (hhi : btL s.data.toList i < 128) :
    Calls Tryd.prog 16 #[.string s, .int .i64 i] w fun e w' => e = .returned (.tuple #[.int .i64 R, .int .i64 N]) ∧ w = w' := by
  have hsz := size_L s
  have i0 : (0 : Int) ≤ (i : Int) := by omega
  have i1 : (i : Int) < (s.size : Int) := by omega
  have i2 : (s.size : Int) ≤ 100000 := by omega
  have hat : ∀ j (h : j < s.size), (s[j]'h).toNat = btL s.data.toList j := fun j h => at_L s j h
  obtain ⟨L, hL⟩ : ∃ L, s.data.toList = L := ⟨_, rfl⟩
  rw [hL] at hr hsz hat hlo hhi
  have HS := Lib.hid hsz
  have HR := Lib.hid hr
  have HAT := Lib.hid hat
  obtain ⟨c, hc⟩ : ∃ c, btL L i = c := ⟨_, rfl⟩
  have HC := Lib.hid hc
  have hc8 : c < 256 := by rw [← hc]; exact bt_lt L i
  rw [hc] at hlo hhi
  clear hL hr hsz hat hc
  go_enter Tryd.func16, Tryd.ntmps16
  go_upto_region 1 with fail
  go_cut [6] (fun v wx => v = .int .i64 (c : Nat) ∧ wx = w)
  case first =>
    go_wp2
    go_meet
    refine ⟨?_, rfl⟩
    rw [HAT.out i hi, HC.out]
    exact congrArg (Value.int .i64) (by unfold wrap64; omega)
  case rest =>
  obtain ⟨rfl, rfl⟩ := hcut
  obtain ⟨w0, rfl⟩ : ∃ W : World, W = wc := ⟨_, rfl⟩
  have hg := HR.out.symm.trans (r1_good (by rw [← HS.out]; exact hi) (Or.inl ⟨by rw [HC.out]; exact hhi, HC.out.symm, rfl⟩))
  simp only [Prod.mk.injEq] at hg
  have q1 : (c : Int) < 128 := by omega
  clear hlo hhi hc8 HC
  obtain ⟨rfl, rfl⟩ := hg
  go_wp2
  go_ret2
  exact ⟨rfl, rfl⟩
set_option maxRecDepth 100000 in
set_option maxHeartbeats 4000000 in
theorem rune1_n (s : ByteArray) (i R N : Nat) (w : World) (hi : i < s.size) (hs : s.size ≤ 100000) (hr : r1L s.data.toList i = (R, N)) (hlo : 128 ≤ btL s.data.toList i) (hhi : btL s.data.toList i < 194) :
    Calls Tryd.prog 16 #[.string s, .int .i64 i] w fun e w' => e = .returned (.tuple #[.int .i64 R, .int .i64 N]) ∧ w = w' := by
  have hsz := size_L s
  have i0 : (0 : Int) ≤ (i : Int) := by omega
  have i1 : (i : Int) < (s.size : Int) := by omega
  have i2 : (s.size : Int) ≤ 100000 := by omega
  have hat : ∀ j (h : j < s.size), (s[j]'h).toNat = btL s.data.toList j := fun j h => at_L s j h
  obtain ⟨L, hL⟩ : ∃ L, s.data.toList = L := ⟨_, rfl⟩
  rw [hL] at hr hsz hat hlo hhi
  have HS := Lib.hid hsz
  have HR := Lib.hid hr
  have HAT := Lib.hid hat
  obtain ⟨c, hc⟩ : ∃ c, btL L i = c := ⟨_, rfl⟩
  have HC := Lib.hid hc
  have hc8 : c < 256 := by rw [← hc]; exact bt_lt L i
  rw [hc] at hlo hhi
  clear hL hr hsz hat hc
  go_enter Tryd.func16, Tryd.ntmps16
  go_upto_region 1 with fail
  go_cut [6] (fun v wx => v = .int .i64 (c : Nat) ∧ wx = w)
  case first =>
    go_wp2
    go_meet
    refine ⟨?_, rfl⟩
    rw [HAT.out i hi, HC.out]
    exact congrArg (Value.int .i64) (by unfold wrap64; omega)
  case rest =>
  obtain ⟨rfl, rfl⟩ := hcut
  obtain ⟨w0, rfl⟩ : ∃ W : World, W = wc := ⟨_, rfl⟩
  have q1 : ¬ (c : Int) < 128 := by omega
  have hg := HR.out.symm.trans (r1_bad (by
    rintro ⟨r, v, h⟩
    unfold Runed at h
    rw [HC.out] at h
    have hn := HS.out
    have h1 := bt_lt L (i + 1)
    have h2 := bt_lt L (i + 2)
    have h3 := bt_lt L (i + 3)
    omega))
  simp only [Prod.mk.injEq] at hg
  obtain ⟨rfl, rfl⟩ := hg
  have q2 : ¬ (194 : Int) ≤ (c : Int) := by omega
  have q3 : ¬ (224 : Int) ≤ (c : Int) := by omega
  have q4 : ¬ (240 : Int) ≤ (c : Int) := by omega
  clear hlo hhi hc8
  go_wp2
  go_ret2
  exact ⟨rfl, rfl⟩
end Go.Proofs.YtjclafigbfnemaaDoor
