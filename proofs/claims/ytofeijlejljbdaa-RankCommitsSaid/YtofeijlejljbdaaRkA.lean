/- Founds in memory; rank.Newer, rank.Last, rank.Stale. -/
import Derived.Test.YtofeijlejljbdaaRkM
import Derived.Test.YtofeijlejljbdaaFlat
import Derived.Test.YtofeijlejljbdaaApp
import Derived.Test.YtofeijlejljbdaaTch
import Derived.Test.YtofeijlejljbdaaLow
import Derived.Test.YtofeijlejljbdaaSl2
namespace Go.Proofs.Ytofeijlejljbdaa
open Go.ChangeShapes Go.WideShapes Go.ChangeAt Go.RowKit
set_option linter.unusedSimpArgs false
set_option linter.unusedVariables false

def iOf : Value → Int
  | .int _ q => q
  | _ => 0
def fCs (x : Fd) : List Value := [.int .i64 x.b, .int .i64 x.g, .int .i64 x.k, .int .i64 x.p, .int .i64 x.s, .int .i64 x.e]
/-- A found's numbers are numbers of the kind. -/
def FdOk (x : Fd) : Prop := i64in x.b ∧ i64in x.g ∧ i64in x.k ∧ i64in x.p ∧ i64in x.s ∧ i64in x.e
def SlFd (w : World) (B : Nat) (A : Option Addr) (fs : List Fd) : Prop := SlE 6 w B A (fs.map fCs)
theorem SlFd.next {w w' : World} {A : Option Addr} {fs : List Fd} (h : SlFd w w.heap.size A fs) (hb : Below w.heap.size w w') : SlFd w' w'.heap.size A fs := SlE.next h hb
theorem SlFd.below {w w' : World} {B : Nat} {A : Option Addr} {fs : List Fd} (h : SlFd w B A fs) (hb : Below B w w') : SlFd w' B A fs := SlE.below h hb
theorem SlFd.mono {w : World} {B B' : Nat} {A : Option Addr} {fs : List Fd} (h : SlFd w B A fs) (hB : B ≤ B') : SlFd w B' A fs := SlE.mono h hB
theorem SlFd.nil_ {w : World} {B : Nat} {A : Option Addr} : SlFd w B A [] := Or.inl rfl
theorem SlFd.at_ {w : World} {B : Nat} {A : Option Addr} {fs : List Fd} (h : SlFd w B A fs) (hn : 0 < fs.length) :
    ∃ b off, A = some ⟨b, off, none⟩ ∧ b < B ∧ ∀ (k : Nat) (x : Fd), fs[k]? = some x →
      w.cell? ⟨b, off + k * 6, none⟩ = some (.int .i64 x.b) ∧ w.cell? ⟨b, off + k * 6 + 1, none⟩ = some (.int .i64 x.g) ∧ w.cell? ⟨b, off + k * 6 + 2, none⟩ = some (.int .i64 x.k) ∧ w.cell? ⟨b, off + k * 6 + 3, none⟩ = some (.int .i64 x.p) ∧ w.cell? ⟨b, off + k * 6 + 4, none⟩ = some (.int .i64 x.s) ∧ w.cell? ⟨b, off + k * 6 + 5, none⟩ = some (.int .i64 x.e) := by
  obtain ⟨b, off, e, hb, hc⟩ := SlE.at_ h (by simpa using hn)
  refine ⟨b, off, e, hb, fun k x hk => ?_⟩
  have hx : (fs.map fCs)[k]? = some (fCs x) := by simp [hk]
  exact ⟨hc k _ hx 0 _ rfl, hc k _ hx 1 _ rfl, hc k _ hx 2 _ rfl, hc k _ hx 3 _ rfl, hc k _ hx 4 _ rfl, hc k _ hx 5 _ rfl⟩
theorem flat_get : ∀ (L : List Fd) (k j : Nat) (x : Fd), L[k]? = some x → j < 6 → (L.flatMap fCs)[k * 6 + j]? = (fCs x)[j]?
  | y :: L, 0, j, x, h, hj => by
    simp at h
    subst h
    rw [List.flatMap_cons, List.getElem?_append_left (by simp [fCs]; omega)]
    simp
  | y :: L, k + 1, j, x, h, hj => by
    rw [List.flatMap_cons, List.getElem?_append_right (by simp [fCs]; omega), show (k + 1) * 6 + j - (fCs y).length = k * 6 + j by simp [fCs]; omega]
    exact flat_get L k j x (by simpa using h) hj
theorem flat_len (L : List Fd) : (L.flatMap fCs).length = L.length * 6 := by
  induction L with
  | nil => rfl
  | cons x L ih => rw [List.flatMap_cons, List.length_append, ih]; simp [fCs]; omega
theorem flat_one (L : List Fd) : ∀ u ∈ L.flatMap fCs, u.oneCell' = true := by
  intro u hu
  obtain ⟨x, _, hu⟩ := List.mem_flatMap.1 hu
  simp [fCs] at hu
  rcases hu with rfl | rfl | rfl | rfl | rfl | rfl <;> rfl
theorem flat_one1 (x : Fd) : ∀ u ∈ fCs x, u.oneCell' = true := by
  intro u hu
  simp [fCs] at hu
  rcases hu with rfl | rfl | rfl | rfl | rfl | rfl <;> rfl
/-- A row of the call's own that holds founds. -/
def RowFd (w : World) (base : Nat) (v : Value) (L : List Fd) : Prop := w.ownsRow base 30 6 v L.length (L.flatMap fCs)
theorem RowFd.nil_ (w : World) (base : Nat) : RowFd w base (.slice none 0 0) [] := World.ownsRow_nil w base _ _
theorem RowFd.below {w w' : World} {base : Nat} {v : Value} {L : List Fd} (h : RowFd w base v L) (hb : Below w.heap.size w w') : RowFd w' base v L :=
  World.ownsRow.kept h (row := none) ⟨hb.os, hb.tape, hb.output, hb.size, fun k hk _ => hb.block k hk⟩ (by cases v.ownBlock <;> simp)
theorem RowFd.base {w : World} {B B' : Nat} {v : Value} {L : List Fd} (h : RowFd w B v L) (hB : B' ≤ B) : RowFd w B' v L := by
  obtain ⟨h1, h2⟩ := h
  refine ⟨h1, ?_⟩
  rcases h2 with h2 | ⟨g, cap, cur, hv, hb, h⟩
  · exact Or.inl h2
  · exact Or.inr ⟨g, cap, cur, hv, by omega, h⟩
theorem RowFd.sl {w : World} {base : Nat} {v : Value} {L : List Fd} (h : RowFd w base v L) : ∃ A c, v = .slice A L.length c ∧ SlFd w w.heap.size A L ∧ L.length ≤ c ∧ c ≤ maxLen := by
  obtain ⟨hl, h2⟩ := h
  rcases h2 with ⟨rfl, h0⟩ | ⟨g, cap, cur, hv, hb, hh, hnc, hcm, hsz, ht⟩
  · obtain rfl := List.eq_nil_of_length_eq_zero h0
    exact ⟨none, 0, rfl, SlFd.nil_, Nat.le_refl _, by unfold maxLen; omega⟩
  · refine ⟨_, cap, hv, Or.inr ⟨g, 0, rfl, ?_, fun k x hx j u hu => ?_⟩, hnc, hcm⟩
    · rcases Nat.lt_or_ge g w.heap.size with hx | hx
      · exact hx
      · rw [Array.getElem?_eq_none hx] at hh
        cases hh
    · rw [List.getElem?_map] at hx
      obtain ⟨y, hy, rfl⟩ := Option.map_eq_some_iff.1 hx
      have hj : j < 6 := (List.getElem?_eq_some_iff.1 hu).1
      have hk : k < L.length := (List.getElem?_eq_some_iff.1 hy).1
      have e := flat_get L k j y hy hj
      rw [hu, ← ht, List.getElem?_take_of_lt (by omega)] at e
      rw [Joins.cell_of_block hh, Nat.zero_add]
      simpa using e

theorem take_next {α : Type} {fs : List α} {k : Nat} {x : α} (h : fs[k]? = some x) : fs.take (k + 1) = fs.take k ++ [x] := by
  obtain ⟨hlt, rfl⟩ := List.getElem?_eq_some_iff.1 h
  rw [List.take_succ_eq_append_getElem hlt]
theorem lastZ_take {fs : List Fd} {k : Nat} {x : Fd} (h : fs[k]? = some x) : lastZ (fs.take (k + 1)) = lastS (lastZ (fs.take k)) x := by
  rw [take_next h]
  unfold lastZ
  rw [List.foldl_append]
  rfl

def newerZ (e s e' s' : Int) : Bool := if e = e' then decide (s' < s) else decide (e' < e)
theorem newer_eq (x y : Fd) : newer x y = newerZ x.e x.s y.e y.s := rfl
set_option maxRecDepth 100000 in
set_option maxHeartbeats 4000000 in
theorem newer_any (k p s e k' p' s' e' : Int) (w : World) : Calls Try.prog 19 #[.agg #[.int .i64 k, .int .i64 p, .int .i64 s, .int .i64 e], .agg #[.int .i64 k', .int .i64 p', .int .i64 s', .int .i64 e']] w fun e2 w' => e2 = .returned (.bool (newerZ e s e' s')) ∧ Below w.heap.size w w' := by
  have hB : Below w.heap.size w ((w.alloc (.cells #[.int .i64 k, .int .i64 p, .int .i64 s, .int .i64 e] 26)).alloc (.cells #[.int .i64 k', .int .i64 p', .int .i64 s', .int .i64 e'] 26)) := ((Below.refl _ _).alloc (Nat.le_refl _) _).alloc (by simp) _
  by_cases he : e = e'
  · subst he
    rcases (by cases hq : decide (s' < s) <;> simp : decide (s' < s) = true ∨ decide (s' < s) = false) with hs | hs
    all_goals
      have hr : newerZ e s e s' = decide (s' < s) := by unfold newerZ; rw [if_pos rfl]
      rw [hr, hs]
      clear hr
      go_enter Try.func19, Try.ntmps19
      go_wp2
      go_ret
      exact ⟨rfl, hB⟩
  · rcases (by cases hq : decide (e' < e) <;> simp : decide (e' < e) = true ∨ decide (e' < e) = false) with hs | hs
    all_goals
      have hr : newerZ e s e' s' = decide (e' < e) := by unfold newerZ; rw [if_neg he]
      rw [hr, hs]
      clear hr
      go_enter Try.func19, Try.ntmps19
      go_wp2
      go_ret
      exact ⟨rfl, hB⟩
set_option maxRecDepth 100000 in
set_option maxHeartbeats 4000000 in
theorem last_any (fs : List Fd) (A : Option Addr) (c : Nat) (w : World) (h : SlFd w w.heap.size A fs) (n1 : fs.length ≤ 1000000) : Calls Try.prog 12 #[.slice A fs.length c] w fun e' w' => e' = .returned (.int .i64 (lastZ fs)) ∧ Below w.heap.size w w' := by
  go_enter Try.func12, Try.ntmps12
  go_wp2
  go_loopw [3, 8] (fun s3 s8 wr => ∃ (k : Nat) (m : Int), k ≤ fs.length ∧ s8 = .int .i64 (k : Int) ∧ s3 = .int .i64 m ∧ Hid (lastZ (fs.take k) = m) ∧ Below w.heap.size w wr) (fun _ s8 _ => fs.length - (iOf s8).toNat)
  case atStart => exact ⟨0, 0, Nat.zero_le _, rfl, rfl, Lib.hid rfl, Below.refl _ _⟩
  case round =>
    obtain ⟨k, m, hk, rfl, rfl, HM, hB⟩ := hrel
    by_cases hlt : k < fs.length
    · obtain ⟨b1, o1, rfl, l1, q1⟩ := (h.below hB).at_ (by omega)
      obtain ⟨x, hx⟩ : ∃ x, fs[k]? = some x := ⟨_, List.getElem?_eq_getElem hlt⟩
      obtain ⟨x0, x1, x2, x3, x4, x5⟩ := q1 k x hx
      have hsz := hB.size
      have l1' : b1 < wr.heap.size := by omega
      have i0 : (0 : Int) ≤ (k : Int) := by omega
      have i1 : (k : Int) < (fs.length : Int) := by omega
      have HL : Hid (lastZ (fs.take (k + 1)) = lastS m x) := Lib.hid (by rw [lastZ_take hx, HM.out])
      have HBN : Below w.heap.size w (wr.alloc (.cells #[.int .i64 x.b, .int .i64 x.g, .int .i64 x.k, .int .i64 x.p, .int .i64 x.s, .int .i64 x.e] 30)) := hB.alloc hsz _
      clear q1 hx
      by_cases hk3 : x.k = 3
      · have hk3b : (x.k == 3) = true := by simpa using hk3
        rcases (by omega : m < x.e ∨ x.e ≤ m) with hm | hm
        · have HL2 : Hid (lastZ (fs.take (k + 1)) = x.e) := Lib.hid (by rw [HL.out]; unfold lastS; rw [if_pos hk3]; omega)
          clear HL hk3
          go_wp2
          all_goals
            go_roundw
            case rel => exact ⟨k + 1, x.e, by omega, by go_num, by (try rfl); (try (simp; omega)), HL2, HBN⟩
            case measure => simp [iOf]; omega
        · have HL2 : Hid (lastZ (fs.take (k + 1)) = m) := Lib.hid (by rw [HL.out]; unfold lastS; rw [if_pos hk3]; omega)
          clear HL hk3
          go_wp2
          all_goals
            go_roundw
            case rel => exact ⟨k + 1, m, by omega, by go_num, by (try rfl); (try (simp; omega)), HL2, HBN⟩
            case measure => simp [iOf]; omega
      · have hk3b : (x.k == 3) = false := by simpa using hk3
        have HL2 : Hid (lastZ (fs.take (k + 1)) = m) := Lib.hid (by rw [HL.out]; unfold lastS; rw [if_neg hk3])
        clear HL hk3
        go_wp2
        go_roundw
        case rel => exact ⟨k + 1, m, by omega, by go_num, rfl, HL2, HBN⟩
        case measure => simp [iOf]; omega
    · obtain rfl : k = fs.length := by omega
      obtain rfl : m = lastZ fs := by rw [← HM.out, List.take_length]
      clear HM
      go_wp2
      go_ret
      exact ⟨rfl, hB⟩
end Go.Proofs.Ytofeijlejljbdaa
