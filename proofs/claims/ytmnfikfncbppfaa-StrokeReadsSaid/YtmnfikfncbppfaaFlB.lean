/- Package point, at whole numbers. -/
import Derived.Test.YtmnfikfncbppfaaFlA
import Derived.Test.YtmnfikfncbppfaaChecked
import Derived.WalkKit
import Derived.ProofKit
import Derived.OpenShut
import Derived.WalkSpells
import Derived.WalkLawsBesides
import Derived.Lib.Hide
import Derived.IntWalk
import Derived.Outline
import Derived.Deep.QuietTactic
import Derived.BigQuiet
import Derived.Laws.Externs
namespace Go.Proofs.Ytmnfikfncbppfaa
open Go.ChangeShapes Go.WideShapes Go.ChangeAt Go.RowKit
set_option linter.unusedSimpArgs false
set_option linter.unusedVariables false

theorem c_min : F (-32768) = 13898108450065350656 := by decide +kernel
theorem c_max : F 32767 = 4674736138332667904 := by decide +kernel
theorem c_0 : F 0 = 0 := rfl
theorem c_1 : F 1 = 4607182418800017408 := by decide +kernel
def Sm (z : Int) : Prop := z.natAbs < 9007199254740992
theorem cmp_eq (x y : Int) : (some (compare x y) == some Ordering.eq) = decide (x = y) := by
  show (some (compareOfLessAndEq x y) == some Ordering.eq) = _
  unfold compareOfLessAndEq
  by_cases h : x < y
  · rw [if_pos h, decide_eq_false (by omega)]; rfl
  · rw [if_neg h]
    by_cases h2 : x = y
    · rw [if_pos h2, decide_eq_true h2]; rfl
    · rw [if_neg h2, decide_eq_false h2]; rfl
theorem cmp_lt (x y : Int) : (some (compare x y) == some Ordering.lt) = decide (x < y) := by
  show (some (compareOfLessAndEq x y) == some Ordering.lt) = _
  unfold compareOfLessAndEq
  by_cases h : x < y
  · rw [if_pos h, decide_eq_true h]; rfl
  · rw [if_neg h, decide_eq_false h]
    by_cases h2 : x = y
    · rw [if_pos h2]; rfl
    · rw [if_neg h2]; rfl
theorem cmp_gt (x y : Int) : (some (compare x y) == some Ordering.gt) = decide (y < x) := by
  show (some (compareOfLessAndEq x y) == some Ordering.gt) = _
  unfold compareOfLessAndEq
  by_cases h : x < y
  · rw [if_pos h, decide_eq_false (by omega)]; rfl
  · rw [if_neg h]
    by_cases h2 : x = y
    · rw [if_pos h2, decide_eq_false (by omega)]; rfl
    · rw [if_neg h2, decide_eq_true (by omega)]; rfl
theorem ord_c {a b : Nat} {x y : Int} (ha : IsI a x) (hb : IsI b y) (h1 : Sm x) (h2 : Sm y) : FloatKind.f64.format.order a b = some (compare x y) := order_I ha hb h1 h2
theorem ord_eq {a b : Nat} {x y : Int} (ha : IsI a x) (hb : IsI b y) (h1 : Sm x) (h2 : Sm y) : (FloatKind.f64.format.order a b == some .eq) = decide (x = y) := by rw [ord_c ha hb h1 h2, cmp_eq]
theorem ord_lt {a b : Nat} {x y : Int} (ha : IsI a x) (hb : IsI b y) (h1 : Sm x) (h2 : Sm y) : (FloatKind.f64.format.order a b == some .lt) = decide (x < y) := by rw [ord_c ha hb h1 h2, cmp_lt]
theorem ord_gt {a b : Nat} {x y : Int} (ha : IsI a x) (hb : IsI b y) (h1 : Sm x) (h2 : Sm y) : (FloatKind.f64.format.order a b == some .gt) = decide (y < x) := by rw [ord_c ha hb h1 h2, cmp_gt]
@[go_sem] theorem call_bits (b : Nat) (w : World) : (callFunc 31 #[.float .f64 b]).run Try.prog w = .ok (.value (.int .u64 b)) w := by
  rw [run_callFunc_extern Try.func31 (by kernel_rfl) (by kernel_rfl) (by kernel_rfl) (e := Extern.MathFloatBits.float64bits) (by kernel_rfl)]
  rfl
theorem trunc_run (b : Nat) (s : Bool) (m : Nat) (e : Int) (P : Program) (w : World) (h3 : FloatKind.f64.decode b = .number s m e) : (Extern.MathFloor.toIntegral "math.archTrunc" .zero #[.float .f64 b]).run P w = .ok (.float .f64 (FloatKind.f64.encode (Ieee.Datum.integral .zero (.number s m e)))) w := by
  have e : ∀ (h1 : Nat → Sem Value) (h2 : Array Value → Sem Value), Extern.MathFloor.toIntegral.match_2 (fun _ => Sem Value) #[.float .f64 b] h1 h2 = h1 b := fun _ _ => rfl
  unfold Extern.MathFloor.toIntegral
  rw [e]
  rw [h3]
  rfl
theorem sqrt_run (b r : Nat) (P : Program) (w : World) (h3 : FloatKind.f64.format.sqrt b = some r) : (Extern.MathSqrt.sqrt #[.float .f64 b]).run P w = .ok (.float .f64 r) w := by
  have e : ∀ (h1 : Nat → Sem Value) (h2 : Array Value → Sem Value), Extern.MathSqrt.sqrt.match_2 (fun _ => Sem Value) #[.float .f64 b] h1 h2 = h1 b := fun _ _ => rfl
  unfold Extern.MathSqrt.sqrt
  rw [e]
  rw [h3]
  rfl
theorem call_trunc (z : Int) (w : World) (hz : Sm z) : (callFunc 39 #[.float .f64 (F z)]).run Try.prog w = .ok (.value (.float .f64 (F z))) w := by
  obtain ⟨s, k, h, -⟩ := (IsI.f z).val hz
  have h2 := trunc_F hz
  rw [h] at h2
  rw [run_callFunc_extern Try.func39 (by kernel_rfl) (by kernel_rfl) (by kernel_rfl) (e := Extern.MathFloor.toIntegral "math.archTrunc" .zero) (by kernel_rfl), trunc_run (F z) _ _ _ _ w h, show FloatKind.f64.encode (Ieee.Datum.integral .zero (.number s (z.natAbs * 2 ^ k) (-(k : Int)))) = F z from h2]
  rfl
/-- Which whole numbers a part may be. -/
def mayZ (z : Int) : Bool := decide (-32768 ≤ z) && decide (z ≤ 32767)
theorem mayZ_bd {z : Int} (h : mayZ z = true) : -32768 ≤ z ∧ z ≤ 32767 := by
  unfold mayZ at h
  simpa using h
theorem mayZ_of {z : Int} (h : -32768 ≤ z ∧ z ≤ 32767) : mayZ z = true := by
  unfold mayZ
  simpa using h
theorem signbit_0 (w : World) : Calls Try.prog 36 #[.float .f64 0] w fun e' w' => e' = .returned (.bool false) ∧ w = w' := by
  go_enter Try.func36, Try.ntmps36
  go_wp2
  go_ret
  exact ⟨rfl, rfl⟩
theorem trunc_c (z : Int) (w : World) (hz : Sm z) : Calls Try.prog 37 #[.float .f64 (F z)] w fun e' w' => e' = .returned (.float .f64 (F z)) ∧ w = w' := by
  have HZ := Lib.hid hz
  have hcall := call_trunc z w hz
  go_enter Try.func37, Try.ntmps37
  go_wp2
  go_ret
  exact ⟨rfl, rfl⟩
theorem part_any (z : Int) (w : World) (hz : Sm z) : Calls Try.prog 33 #[.float .f64 (F z)] w fun e' w' => e' = .returned (.bool (mayZ z)) ∧ w = w' := by
  by_cases h0 : z = 0
  · subst h0
    have q0 : (FloatKind.f64.format.order 0 0 == some .eq) = true := ord_eq (IsI.f 0) (IsI.f 0) hz hz
    rw [c_0]
    go_enter Try.func33, Try.ntmps33
    go_wp2_with (go_at_call 36; ((with_reducible refine (signbit_0 _).mono ?_); rintro e' wN ⟨rfl, rfl⟩; skip))
    go_ret
    exact ⟨rfl, rfl⟩
  · have hm : Sm (-32768) := by unfold Sm; decide
    have hM : Sm 32767 := by unfold Sm; decide
    have h00 : Sm 0 := by unfold Sm; decide
    have q0 : (FloatKind.f64.format.order (F z) 0 == some .eq) = false := by
      have := ord_eq (IsI.f z) (IsI.f 0) hz h00
      rw [decide_eq_false h0] at this
      exact this
    have q1 := ord_gt (IsI.f z) (IsI.f (-32768)) hz hm
    have q2 := ord_eq (IsI.f z) (IsI.f (-32768)) hz hm
    have q3 := ord_lt (IsI.f z) (IsI.f 32767) hz hM
    have q4 := ord_eq (IsI.f z) (IsI.f 32767) hz hM
    have q5 := ord_eq (IsI.f z) (IsI.f z) hz hz
    rw [decide_eq_true rfl] at q5
    rw [c_min] at q1 q2
    rw [c_max] at q3 q4
    have e1 : (FloatKind.f64.format.order (F z) 13898108450065350656 == some .gt || FloatKind.f64.format.order (F z) 13898108450065350656 == some .eq) = decide (-32768 ≤ z) := by
      rw [q1, q2]
      by_cases h : -32768 ≤ z
      · rw [decide_eq_true h]
        by_cases h2 : z = -32768
        · simp [h2]
        · rw [decide_eq_true (by omega : -32768 < z)]; rfl
      · rw [decide_eq_false h, decide_eq_false (by omega), decide_eq_false (by omega)]; rfl
    have e2 : (FloatKind.f64.format.order (F z) 4674736138332667904 == some .lt || FloatKind.f64.format.order (F z) 4674736138332667904 == some .eq) = decide (z ≤ 32767) := by
      rw [q3, q4]
      by_cases h : z ≤ 32767
      · rw [decide_eq_true h]
        by_cases h2 : z = 32767
        · simp [h2]
        · rw [decide_eq_true (by omega : z < 32767)]; rfl
      · rw [decide_eq_false h, decide_eq_false (by omega), decide_eq_false (by omega)]; rfl
    have HZ := Lib.hid hz
    unfold mayZ
    clear q1 q2 q3 q4 hm hM h00 h0 hz
    obtain ⟨A, hA⟩ : ∃ A, decide (-32768 ≤ z) = A := ⟨_, rfl⟩
    obtain ⟨B, hB⟩ : ∃ B, decide (z ≤ 32767) = B := ⟨_, rfl⟩
    rw [hA] at e1 ⊢
    rw [hB] at e2 ⊢
    clear hA hB
    cases A <;> cases B
    all_goals (
      go_enter Try.func33, Try.ntmps33
      go_wp2_with (go_at_call 37; ((with_reducible refine (trunc_c _ _ HZ.out).mono ?_); rintro e' wN ⟨rfl, rfl⟩; skip))
      go_ret
      exact ⟨rfl, rfl⟩)
theorem part_b (z : Int) (A : Bool) (w : World) (hz : Sm z) (h : Hid (mayZ z = A)) : Calls Try.prog 33 #[.float .f64 (F z)] w fun e' w' => e' = .returned (.bool A) ∧ w = w' := by
  have := part_any z w hz
  rwa [h.out] at this
theorem may_any (x y : Int) (w : World) (hx : Sm x) (hy : Sm y) : Calls Try.prog 29 #[.complex .f64 (F x) (F y)] w fun e' w' => e' = .returned (.bool (mayZ x && mayZ y)) ∧ w = w' := by
  have HX := Lib.hid hx
  have HY := Lib.hid hy
  clear hx hy
  obtain ⟨A, hA⟩ : ∃ A, mayZ x = A := ⟨_, rfl⟩
  have HA := Lib.hid hA
  rw [hA]
  clear hA
  cases A
  all_goals (
    go_enter Try.func29, Try.ntmps29
    go_wp2_with (first
      | (go_at_call 33; ((with_reducible refine (part_b x _ _ HX.out HA).mono ?_); rintro e' wN ⟨rfl, rfl⟩; skip))
      | (go_at_call 33; ((with_reducible refine (part_any y _ HY.out).mono ?_); rintro e' wN ⟨rfl, rfl⟩; skip)))
    go_ret
    exact ⟨rfl, rfl⟩)
theorem may_b (x y : Int) (A : Bool) (w : World) (hx : Sm x) (hy : Sm y) (h : Hid ((mayZ x && mayZ y) = A)) : Calls Try.prog 29 #[.complex .f64 (F x) (F y)] w fun e' w' => e' = .returned (.bool A) ∧ w = w' := by
  have := may_any x y w hx hy
  rwa [h.out] at this
theorem plain_any (b : Nat) (z : Int) (w : World) (hb : IsI b z) (hz : Sm z) : Calls Try.prog 35 #[.float .f64 b] w fun e' w' => e' = .returned (.float .f64 (F z)) ∧ w = w' := by
  have h00 : Sm 0 := by unfold Sm; decide
  have q := ord_eq hb (IsI.f 0) hz h00
  rw [c_0] at q
  by_cases h0 : z = 0
  · subst h0
    rw [decide_eq_true rfl] at q
    rw [c_0]
    clear hb
    go_enter Try.func35, Try.ntmps35
    go_wp2
    go_ret
    exact ⟨rfl, rfl⟩
  · rw [decide_eq_false h0] at q
    have e := hb.ne h0
    subst e
    clear hb h0
    go_enter Try.func35, Try.ntmps35
    go_wp2
    go_ret
    exact ⟨rfl, rfl⟩
theorem sm_of {z : Int} (h : mayZ z = true) : Sm z := by
  have := mayZ_bd h
  unfold Sm
  omega
theorem settle_yes (a b : Nat) (x y : Int) (w : World) (ha : IsI a x) (hb : IsI b y) (hx : mayZ x = true) (hy : mayZ y = true) : Calls Try.prog 32 #[.complex .f64 a b] w fun e' w' => e' = .returned (.tuple #[.complex .f64 (F x) (F y), .bool true]) ∧ w = w' := by
  have HX := Lib.hid (sm_of hx)
  have HY := Lib.hid (sm_of hy)
  have HA := Lib.hid ha
  have HB := Lib.hid hb
  have HM : Hid ((mayZ x && mayZ y) = true) := Lib.hid (by rw [hx, hy]; rfl)
  clear hx hy ha hb
  go_enter Try.func32, Try.ntmps32
  go_wp2_with (first
    | (go_at_call 35; ((with_reducible refine (plain_any a x _ HA.out HX.out).mono ?_); rintro e' wN ⟨rfl, rfl⟩; skip))
    | (go_at_call 35; ((with_reducible refine (plain_any b y _ HB.out HY.out).mono ?_); rintro e' wN ⟨rfl, rfl⟩; skip))
    | (go_at_call 29; ((with_reducible refine (may_b x y true _ HX.out HY.out HM).mono ?_); rintro e' wN ⟨rfl, rfl⟩; skip)))
  go_ret2
  exact ⟨rfl, rfl⟩
/-- A product's parts. -/
theorem mul_bits {x y u v : Int} (hx : mayZ x = true) (hy : mayZ y = true) (hu : mayZ u = true) (hv : mayZ v = true) : ∃ re im, cMulBits (F x) (F y) (F u) (F v) = some (re, im) ∧ IsI re (x * u - y * v) ∧ IsI im (x * v + y * u) := by
  obtain ⟨x1, x2⟩ := mayZ_bd hx
  obtain ⟨y1, y2⟩ := mayZ_bd hy
  obtain ⟨u1, u2⟩ := mayZ_bd hu
  obtain ⟨v1, v2⟩ := mayZ_bd hv
  have bd : ∀ {p q : Int}, -32768 ≤ p → p ≤ 32767 → -32768 ≤ q → q ≤ 32767 → (p * q).natAbs ≤ 1073741824 := by
    intro p q a1 a2 a3 a4
    rw [Int.natAbs_mul]
    have := Nat.mul_le_mul (show p.natAbs ≤ 32768 by omega) (show q.natAbs ≤ 32768 by omega)
    omega
  have m1 := bd x1 x2 u1 u2
  have m2 := bd y1 y2 v1 v2
  have m3 := bd x1 x2 v1 v2
  have m4 := bd y1 y2 u1 u2
  obtain ⟨ac, e1, i1⟩ := mul_I (IsI.f x) (IsI.f u) (by omega) (by omega) (by omega)
  obtain ⟨bd', e2, i2⟩ := mul_I (IsI.f y) (IsI.f v) (by omega) (by omega) (by omega)
  obtain ⟨re, e3, i3⟩ := sub_I i1 i2 (by omega) (by omega) (by omega)
  obtain ⟨ad, e4, i4⟩ := mul_I (IsI.f x) (IsI.f v) (by omega) (by omega) (by omega)
  obtain ⟨bc, e5, i5⟩ := mul_I (IsI.f y) (IsI.f u) (by omega) (by omega) (by omega)
  obtain ⟨im, e6, i6⟩ := add_I i4 i5 (by omega) (by omega) (by omega)
  refine ⟨re, im, ?_, i3, i6⟩
  have f1 : floatBits .mul .f64 (F x) (F u) = some ac := e1
  have f2 : floatBits .mul .f64 (F y) (F v) = some bd' := e2
  have f3 : floatBits .sub .f64 ac bd' = some re := e3
  have f4 : floatBits .mul .f64 (F x) (F v) = some ad := e4
  have f5 : floatBits .mul .f64 (F y) (F u) = some bc := e5
  have f6 : floatBits .add .f64 ad bc = some im := e6
  unfold cMulBits
  simp only [f1, f2, f3, f4, f5, f6, Option.bind_some]
theorem turn_yes (x y u v : Int) (w : World) (hx : mayZ x = true) (hy : mayZ y = true) (hu : mayZ u = true) (hv : mayZ v = true) (h1 : mayZ (x * u - y * v) = true) (h2 : mayZ (x * v + y * u) = true) : Calls Try.prog 28 #[.complex .f64 (F x) (F y), .complex .f64 (F u) (F v)] w fun e' w' => e' = .returned (.tuple #[.complex .f64 (F (x * u - y * v)) (F (x * v + y * u)), .bool true]) ∧ w = w' := by
  obtain ⟨re, im, hbits, hre, him⟩ := mul_bits hx hy hu hv
  have hrun := run_complex_mul (P := Try.prog) w 41 _ _ _ _ _ _ hbits
  have HX := Lib.hid (sm_of hx)
  have HY := Lib.hid (sm_of hy)
  have HU := Lib.hid (sm_of hu)
  have HV := Lib.hid (sm_of hv)
  have HM1 : Hid ((mayZ x && mayZ y) = true) := Lib.hid (by rw [hx, hy]; rfl)
  have HM2 : Hid ((mayZ u && mayZ v) = true) := Lib.hid (by rw [hu, hv]; rfl)
  have HR := Lib.hid (And.intro (And.intro hre him) (And.intro h1 h2))
  clear hx hy hu hv hre him h1 h2 hbits
  go_enter Try.func28, Try.ntmps28
  go_wp2_with (first
    | (go_at_call 29; ((with_reducible refine (may_b x y true _ HX.out HY.out HM1).mono ?_); rintro e' wN ⟨rfl, rfl⟩; skip))
    | (go_at_call 29; ((with_reducible refine (may_b u v true _ HU.out HV.out HM2).mono ?_); rintro e' wN ⟨rfl, rfl⟩; skip))
    | (go_at_call 32; ((with_reducible refine (settle_yes re im _ _ _ HR.out.1.1 HR.out.1.2 HR.out.2.1 HR.out.2.2).mono ?_); rintro e' wN ⟨rfl, rfl⟩; skip)))
  go_ret2
  exact ⟨rfl, rfl⟩
theorem turn_no (x y u v : Int) (w : World) (hx : Sm x) (hy : Sm y) (h : (mayZ x && mayZ y) = false) : Calls Try.prog 28 #[.complex .f64 (F x) (F y), .complex .f64 (F u) (F v)] w fun e' w' => e' = .returned (.tuple #[.complex .f64 0 0, .bool false]) ∧ w = w' := by
  have HX := Lib.hid hx
  have HY := Lib.hid hy
  have HM1 := Lib.hid h
  clear hx hy h
  go_enter Try.func28, Try.ntmps28
  go_wp2_with (go_at_call 29; ((with_reducible refine (may_b x y false _ HX.out HY.out HM1).mono ?_); rintro e' wN ⟨rfl, rfl⟩; skip))
  go_ret2
  exact ⟨rfl, rfl⟩
theorem sum_bits {x y u v : Int} (hx : mayZ x = true) (hy : mayZ y = true) (hu : mayZ u = true) (hv : mayZ v = true) : cSumBits .add .f64 (F x) (F y) (F u) (F v) = some (F (x + u), F (y + v)) ∧ cSumBits .sub .f64 (F x) (F y) (F u) (F v) = some (F (x - u), F (y - v)) := by
  obtain ⟨x1, x2⟩ := mayZ_bd hx
  obtain ⟨y1, y2⟩ := mayZ_bd hy
  obtain ⟨u1, u2⟩ := mayZ_bd hu
  obtain ⟨v1, v2⟩ := mayZ_bd hv
  have f1 : floatBits .add .f64 (F x) (F u) = some (F (x + u)) := add_F (by omega) (by omega) (by omega)
  have f2 : floatBits .add .f64 (F y) (F v) = some (F (y + v)) := add_F (by omega) (by omega) (by omega)
  have f3 : floatBits .sub .f64 (F x) (F u) = some (F (x - u)) := sub_F (by omega) (by omega) (by omega)
  have f4 : floatBits .sub .f64 (F y) (F v) = some (F (y - v)) := sub_F (by omega) (by omega) (by omega)
  unfold cSumBits
  simp only [f1, f2, f3, f4, Option.bind_some, and_self]
/-- The root of a whole number. -/
def SQ (n : Int) : Nat := (DB.sqrt (F n)).getD 0
theorem sq_some {n : Int} (h : 0 ≤ n) (hb : Sm n) : DB.sqrt (F n) = some (SQ n) := by
  obtain ⟨s, k, hr, hs⟩ := (IsI.f n).val hb
  have hn := neg_F hb
  rw [hr] at hn
  simp only [Ieee.Datum.neg] at hn
  rw [decide_eq_false (by omega)] at hn
  subst hn
  have : ∃ d, (DB.read (F n)).root (DB.fractionBits + 2) = some d := by
    rw [hr]
    unfold Ieee.Datum.root
    by_cases h0 : n.natAbs * 2 ^ k = 0
    · exact ⟨_, if_pos h0⟩
    · simp only [if_neg h0, Bool.false_eq_true, if_false]
      exact ⟨_, rfl⟩
  obtain ⟨d, hd⟩ := this
  unfold SQ Ieee.Format.sqrt
  rw [hd]
  rfl
def far (x y u v : Int) : Int := (x - u) * (x - u) + (y - v) * (y - v)
theorem same_any (a b c d : Nat) (w : World) : Calls Try.prog 27 #[.complex .f64 a b, .complex .f64 c d] w fun e' w' => e' = .returned (.bool (decide (a = c) && decide (b = d))) ∧ w = w' := by
  go_enter Try.func27, Try.ntmps27
  by_cases h1 : a = c
  · subst h1
    by_cases h2 : b = d
    · subst h2
      go_wp2
      go_ret
      exact ⟨by simp, rfl⟩
    · have e2 : ((b : Int) == (d : Int)) = false := by simp; omega
      go_wp2
      go_ret
      exact ⟨by simp [h2], rfl⟩
  · have e1 : ((a : Int) == (c : Int)) = false := by simp; omega
    go_wp2
    go_ret
    exact ⟨by simp [h1], rfl⟩
end Go.Proofs.Ytmnfikfncbppfaa
