/- Chapter 3's own rune1. -/
import Derived.Test.YtjclafigbfnemaaDoorNameA2
import Derived.Test.YtjclafigbfnemaaDoorNameA3
import Derived.Test.YtjclafigbfnemaaDoorNameA4
namespace Go.Proofs.YtjclafigbfnemaaDoor
open Go.ChangeShapes Go.WideShapes Go.ChangeAt Go.RowKit
set_option linter.unusedSimpArgs false
set_option linter.unusedVariables false
set_option maxRecDepth 100000 in
set_option maxHeartbeats 4000000 in
theorem rune1_x (s : ByteArray) (i R N : Nat) (w : World) (hi : i < s.size) (hs : s.size ≤ 100000) (hr : r1L s.data.toList i = (R, N)) (hlo : 245 ≤ btL s.data.toList i) (hhi : btL s.data.toList i < 256) :
    Calls Tryd.prog 16 #[.string s, .int .i64 i] w fun e w' => e = .returned (.tuple #[.int .i64 R, .int .i64 N]) ∧ w = w' := by
  have hsz := size_L s
  have i0 : (0 : Int) ≤ (i : Int) := by omega
  have i1 : (i : Int) < (s.size : Int) := by omega
  have i2 : (s.size : Int) ≤ 100000 := by omega
  have hat : ∀ j (h : j < s.size), (s[j]'h).toNat = btL s.data.toList j := fun j h => at_L s j h
  obtain ⟨L, hL⟩ : ∃ L, s.data.toList = L := ⟨_, rfl⟩
  rw [hL] at hr hsz hat hlo hhi
  have HS := Lib.hid hsz
  have HR := Lib.hid hr
  have HAT := Lib.hid hat
  obtain ⟨c, hc⟩ : ∃ c, btL L i = c := ⟨_, rfl⟩
  have HC := Lib.hid hc
  have hc8 : c < 256 := by rw [← hc]; exact bt_lt L i
  rw [hc] at hlo hhi
  clear hL hr hsz hat hc
  go_enter Tryd.func16, Tryd.ntmps16
  go_upto_region 1 with fail
  go_cut [6] (fun v wx => v = .int .i64 (c : Nat) ∧ wx = w)
  case first =>
    go_wp2
    go_meet
    refine ⟨?_, rfl⟩
    rw [HAT.out i hi, HC.out]
    exact congrArg (Value.int .i64) (by unfold wrap64; omega)
  case rest =>
  obtain ⟨rfl, rfl⟩ := hcut
  obtain ⟨w0, rfl⟩ : ∃ W : World, W = wc := ⟨_, rfl⟩
  have q1 : ¬ (c : Int) < 128 := by omega
  have q2 : (194 : Int) ≤ (c : Int) := by omega
  have q3 : ¬ (c : Int) < 224 := by omega
  have q3b : (224 : Int) ≤ (c : Int) := by omega
  have q4 : ¬ (c : Int) < 240 := by omega
  have q4b : (240 : Int) ≤ (c : Int) := by omega
  have q5 : ¬ (c : Int) < 245 := by omega
  have hg := HR.out.symm.trans (r1_bad (by
    rintro ⟨r, v, h⟩
    unfold Runed at h
    rw [HC.out] at h
    have hn := HS.out
    have h1 := bt_lt L (i + 1)
    have h2 := bt_lt L (i + 2)
    have h3 := bt_lt L (i + 3)
    omega))
  simp only [Prod.mk.injEq] at hg
  obtain ⟨rfl, rfl⟩ := hg
  clear hlo hhi hc8
  go_wp2
  go_ret2
  exact ⟨rfl, rfl⟩
set_option maxRecDepth 100000 in
set_option maxHeartbeats 4000000 in
theorem rune1_any (s : ByteArray) (i R N : Nat) (w : World) (hi : i < s.size) (hs : s.size ≤ 100000) (hr : r1L s.data.toList i = (R, N)) :
    Calls Tryd.prog 16 #[.string s, .int .i64 i] w fun e w' => e = .returned (.tuple #[.int .i64 R, .int .i64 N]) ∧ w = w' := by
  have hc8 := bt_lt s.data.toList i
  rcases (by omega : (0 ≤ btL s.data.toList i ∧ btL s.data.toList i < 128) ∨ (128 ≤ btL s.data.toList i ∧ btL s.data.toList i < 194) ∨ (194 ≤ btL s.data.toList i ∧ btL s.data.toList i < 224) ∨ (224 ≤ btL s.data.toList i ∧ btL s.data.toList i < 240) ∨ (240 ≤ btL s.data.toList i ∧ btL s.data.toList i < 245) ∨ (245 ≤ btL s.data.toList i ∧ btL s.data.toList i < 256)) with ⟨a, b⟩ | ⟨a, b⟩ | ⟨a, b⟩ | ⟨a, b⟩ | ⟨a, b⟩ | ⟨a, b⟩
  · exact rune1_1 s i R N w hi hs hr a b
  · exact rune1_n s i R N w hi hs hr a b
  · exact rune1_2 s i R N w hi hs hr a b
  · exact rune1_3 s i R N w hi hs hr a b
  · exact rune1_4 s i R N w hi hs hr a b
  · exact rune1_x s i R N w hi hs hr a b
end Go.Proofs.YtjclafigbfnemaaDoor
