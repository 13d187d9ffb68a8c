/- A part of two bytes; sheets in memory; May, the project's and the document's own. -/
import Derived.Test.YtmnfikfncbppfaaSrA
import Derived.Test.YtmnfikfncbppfaaTagB
import Derived.Test.YtmnfikfncbppfaaFlat
namespace Go.Proofs.Ytmnfikfncbppfaa
open Go.ChangeShapes Go.WideShapes Go.ChangeAt Go.RowKit
set_option linter.unusedSimpArgs false
set_option linter.unusedVariables false

attribute [local go_sem ↓] Go.wp_at_zero Go.wp_at_succ
def ptz (a b : Nat) : Int := (((a * 256 + b : Nat) : Int) + 32768) % 65536 - 32768
theorem ptz_bd (a b : Nat) : -32768 ≤ ptz a b ∧ ptz a b ≤ 32767 := by unfold ptz; omega
theorem ptz_may (a b : Nat) : mayZ (ptz a b) = true := mayZ_of (ptz_bd a b)
theorem ptz_sm (a b : Nat) : Sm (ptz a b) := sm_of (ptz_may a b)
def ptV (p : Pt) : Value := .complex .f64 (F (ptz p.1 p.2.1)) (F (ptz p.2.2.1 p.2.2.2))
def eC (e : St × Value) : List Value := [.int .i64 ((e.1.1 / 16 : Nat) : Int), .int .i64 ((e.1.1 % 16 : Nat) : Int), e.2]
/-- A list of points, somewhere below B. -/
def PtsAt (w : World) (B : Nat) (q : Value) (ps : List Pt) : Prop := ∃ A c, q = .slice A ps.length c ∧ Sl w B A (ps.map ptV)
/-- A sheet's strokes, with their lists of points, somewhere below B. -/
def ShV (w : World) (B : Nat) (A : Option Addr) (es : List (St × Value)) : Prop := SlE 3 w B A (es.map eC) ∧ ∀ e ∈ es, PtsAt w B e.2 e.1.2
theorem PtsAt.below {w w' : World} {B : Nat} {q : Value} {ps : List Pt} (h : PtsAt w B q ps) (hb : Below B w w') : PtsAt w' B q ps := by
  obtain ⟨A, c, e, h⟩ := h
  exact ⟨A, c, e, h.below hb⟩
theorem PtsAt.mono {w : World} {B B' : Nat} {q : Value} {ps : List Pt} (h : PtsAt w B q ps) (hB : B ≤ B') : PtsAt w B' q ps := by
  obtain ⟨A, c, e, h⟩ := h
  exact ⟨A, c, e, h.mono hB⟩
theorem ShV.below {w w' : World} {B : Nat} {A : Option Addr} {es : List (St × Value)} (h : ShV w B A es) (hb : Below B w w') : ShV w' B A es := ⟨h.1.below hb, fun e he => (h.2 e he).below hb⟩
theorem ShV.mono {w : World} {B B' : Nat} {A : Option Addr} {es : List (St × Value)} (h : ShV w B A es) (hB : B ≤ B') : ShV w B' A es := ⟨h.1.mono hB, fun e he => (h.2 e he).mono hB⟩
theorem ShV.next {w w' : World} {A : Option Addr} {es : List (St × Value)} (h : ShV w w.heap.size A es) (hb : Below w.heap.size w w') : ShV w' w'.heap.size A es := (h.below hb).mono hb.size
theorem ShV.at_ {w : World} {B : Nat} {A : Option Addr} {es : List (St × Value)} (h : ShV w B A es) (hn : 0 < es.length) :
    ∃ b off, A = some ⟨b, off, none⟩ ∧ b < B ∧ ∀ (k : Nat) (e : St × Value), es[k]? = some e →
      w.cell? ⟨b, off + k * 3, none⟩ = some (.int .i64 ((e.1.1 / 16 : Nat) : Int)) ∧ w.cell? ⟨b, off + k * 3 + 1, none⟩ = some (.int .i64 ((e.1.1 % 16 : Nat) : Int)) ∧ w.cell? ⟨b, off + k * 3 + 2, none⟩ = some e.2 := by
  obtain ⟨b, off, e, hb, hc⟩ := SlE.at_ h.1 (by simpa using hn)
  refine ⟨b, off, e, hb, fun k x hk => ?_⟩
  have hx : (es.map eC)[k]? = some (eC x) := by simp [hk]
  exact ⟨hc k _ hx 0 _ rfl, hc k _ hx 1 _ rfl, hc k _ hx 2 _ rfl⟩
theorem number_2 (a b : Nat) (A : Option Addr) (c : Nat) (w : World) (h1 : Sl w w.heap.size A ([a, b].map byteV)) (ha : a < 256) (hb : b < 256) :
    Calls Try.prog 23 #[.slice A 2 c] w fun e' w' => e' = .returned (.int .i64 ((a * 256 + b : Nat) : Int)) ∧ w = w' := by
  have h := number_any [a, b] A c w h1 (by intro x hx; simp at hx; rcases hx with rfl | rfl <;> assumption) (by simp)
  have e : numB [a, b] = a * 256 + b := by simp [numB]
  rw [e] at h
  exact h
theorem part_c (a b : Nat) (A : Option Addr) (c : Nat) (w : World) (h1 : Sl w w.heap.size A ([a, b].map byteV)) (ha : a < 256) (hb : b < 256) :
    Calls Try.prog 17 #[.slice A 2 c] w fun e' w' => e' = .returned (.float .f64 (F (ptz a b))) ∧ w = w' := by
  have f1 := ofInt_c (ptz a b) (ptz_sm a b)
  obtain ⟨x, hx⟩ : ∃ x, a * 256 + b = x := ⟨_, rfl⟩
  have HN : Hid (a * 256 + b = x) := Lib.hid hx
  unfold ptz at f1 ⊢
  rw [hx] at f1 ⊢
  have hx2 : x < 65536 := by omega
  clear hx
  go_enter Try.func17, Try.ntmps17
  go_wp2_with (go_at_call 23; ((with_reducible refine (number_2 a b A c _ h1 ha hb).mono ?_); rintro e' wN ⟨rfl, rfl⟩; rw [HN.out]))
  go_ret
  refine ⟨?_, rfl⟩
  have ew : IntKind.i16.wrap (x : Int) = ((x : Int) + 32768) % 65536 - 32768 := by
    simp only [IntKind.wrap, IntKind.bits, IntKind.signed]
    simp
    split <;> omega
  show Ending.returned (.float .f64 (floatOfInt .f64 (IntKind.i16.wrap (x : Int)))) = _
  rw [ew, f1]
theorem mayT_eq (h : Nat) (ps : List Pt) (n : Nat) (hn : ps.length = n) : mayT (h, ps) = (decide (h / 16 ≤ 7) && decide (1 ≤ h % 16) && decide (h % 16 ≤ 9) && decide (1 ≤ n) && decide (n ≤ 10)) := by
  subst hn
  rfl
def iOf : Value → Int
  | .int _ q => q
  | _ => 0
set_option maxRecDepth 100000 in
set_option maxHeartbeats 4000000 in
theorem mayst_any (h : Nat) (ps : List Pt) (n : Nat) (A : Option Addr) (c : Nat) (w : World) (hn : ps.length = n) (hq : Sl w w.heap.size A (ps.map ptV)) (n1 : n ≤ 1000000) :
    Calls Try.prog 24 #[.agg #[.int .i64 ((h / 16 : Nat) : Int), .int .i64 ((h % 16 : Nat) : Int), .slice A n c]] w fun e' w' => e' = .returned (.bool (mayT (h, ps))) ∧ Below w.heap.size w w' := by
  rw [mayT_eq h ps n hn]
  obtain ⟨p, hp⟩ : ∃ p, h / 16 = p := ⟨_, rfl⟩
  obtain ⟨q, hq2⟩ : ∃ q, h % 16 = q := ⟨_, rfl⟩
  rw [hp, hq2]
  clear hp hq2
  have hB : Below w.heap.size w (w.alloc (.cells #[.int .i64 (p : Int), .int .i64 (q : Int), .slice A n c] 44)) := (Below.refl _ _).alloc (Nat.le_refl _) _
  by_cases g1 : p ≤ 7
  case neg =>
    rw [decide_eq_false g1]
    have i1 : (7 : Int) < (p : Int) := by omega
    have i2 : (0 : Int) ≤ (p : Int) := by omega
    clear g1 hq
    go_enter Try.func24, Try.ntmps24
    go_wp2
    go_ret
    exact ⟨rfl, hB⟩
  have i1 : ¬ (7 : Int) < (p : Int) := by omega
  have i2 : (0 : Int) ≤ (p : Int) := by omega
  rw [decide_eq_true g1]
  by_cases g2 : 1 ≤ q
  case neg =>
    rw [decide_eq_false g2]
    have j1 : (q : Int) < (1 : Int) := by omega
    clear g1 g2 hq
    go_enter Try.func24, Try.ntmps24
    go_wp2
    go_ret
    exact ⟨rfl, hB⟩
  have j1 : ¬ (q : Int) < (1 : Int) := by omega
  rw [decide_eq_true g2]
  by_cases g3 : q ≤ 9
  case neg =>
    rw [decide_eq_false g3]
    have k1 : (9 : Int) < (q : Int) := by omega
    clear g1 g2 g3 hq
    go_enter Try.func24, Try.ntmps24
    go_wp2
    go_ret
    exact ⟨rfl, hB⟩
  have k1 : ¬ (9 : Int) < (q : Int) := by omega
  rw [decide_eq_true g3]
  by_cases g4 : 1 ≤ n
  case neg =>
    rw [decide_eq_false g4]
    have l1 : (n : Int) < (1 : Int) := by omega
    clear g1 g2 g3 g4 hq
    go_enter Try.func24, Try.ntmps24
    go_wp2
    go_ret
    exact ⟨rfl, hB⟩
  have l1 : ¬ (n : Int) < (1 : Int) := by omega
  rw [decide_eq_true g4]
  by_cases g5 : n ≤ 10
  case neg =>
    rw [decide_eq_false g5]
    have m1 : (10 : Int) < (n : Int) := by omega
    clear g1 g2 g3 g4 g5 hq
    go_enter Try.func24, Try.ntmps24
    go_wp2
    go_ret
    exact ⟨rfl, hB⟩
  have m1 : ¬ (10 : Int) < (n : Int) := by omega
  rw [decide_eq_true g5]
  have HG := Lib.hid (And.intro g4 g5)
  clear g1 g2 g3
  have hq := hq.alloc_ (.cells #[.int .i64 (p : Int), .int .i64 (q : Int), .slice A n c] 44)
  have HL := Lib.hid hn
  go_enter Try.func24, Try.ntmps24
  go_wp2
  go_loop [36] (fun i => ∃ k : Nat, k ≤ n ∧ i = .int .i64 (k : Int)) (fun i => n - (iOf i).toNat)
  case atStart => exact ⟨0, Nat.zero_le _, rfl⟩
  case round =>
    obtain ⟨k, hk, rfl⟩ := hrel
    by_cases hlt : k < n
    · obtain ⟨b1, o1, rfl, lt1, q1⟩ := hq.at_ (by rw [List.length_map, HL.out]; omega)
      obtain ⟨x, hx⟩ : ∃ x, ps[k]? = some x := ⟨_, List.getElem?_eq_getElem (by rw [HL.out]; exact hlt)⟩
      obtain ⟨x1, x2, x3, x4⟩ := x
      have z1 := q1 k (ptV (x1, x2, x3, x4)) (by simp [hx])
      unfold ptV at z1
      dsimp only at z1
      have HM : Hid ((mayZ (ptz x1 x2) && mayZ (ptz x3 x4)) = true) := Lib.hid (by rw [ptz_may, ptz_may]; rfl)
      have i0 : (0 : Int) ≤ (k : Int) := by omega
      have i9 : (k : Int) < (n : Int) := by omega
      clear q1 hx
      go_wp2_with (go_at_call 29; ((with_reducible refine (may_b (ptz x1 x2) (ptz x3 x4) true _ (ptz_sm _ _) (ptz_sm _ _) HM).mono ?_); rintro e' wN ⟨rfl, rfl⟩; skip))
      go_round
      case rel => exact ⟨k + 1, by omega, by go_num⟩
      case measure => simp [iOf]; omega
    · have hkn : k = n := by omega
      subst hkn
      go_wp2
      go_ret
      exact ⟨rfl, hB⟩
end Go.Proofs.Ytmnfikfncbppfaa
