/- Pages of a new epoch; the one of a page. -/
import Derived.Test.YtofeijlejljbdaaRankOrder
namespace Go.Proofs.Ytofeijlejljbdaa
open Go.ChangeShapes Go.WideShapes Go.ChangeAt Go.RowKit
set_option linter.unusedSimpArgs false
set_option linter.unusedVariables false

def bitB (bits : Int) (i : Nat) : Bool := decide (bits / 2 ^ i % 2 = 1)
def newF (zs : List Int) (bits e : Int) (i : Nat) : Fd := ⟨(i : Int), 0, if bitB bits i = true then 2 else 1, lowI (zs.getD i 0) 20, (i : Int), e⟩
def newsF (zs : List Int) (bits e : Int) (n : Nat) : List Fd := (List.range n).map (newF zs bits e)
theorem newsF_len (zs : List Int) (bits e : Int) (n : Nat) : (newsF zs bits e n).length = n := by simp [newsF]
theorem newsF_next (zs : List Int) (bits e : Int) (n : Nat) : newsF zs bits e (n + 1) = newsF zs bits e n ++ [newF zs bits e n] := by
  unfold newsF
  rw [List.range_succ, List.map_append]
  rfl
theorem newF_k (zs : List Int) (bits e : Int) (i : Nat) : (newF zs bits e i).k = 1 ∨ (newF zs bits e i).k = 2 := by
  show (if bitB bits i = true then (2 : Int) else 1) = 1 ∨ (if bitB bits i = true then (2 : Int) else 1) = 2
  split
  · exact Or.inr rfl
  · exact Or.inl rfl
theorem newsF_mem {zs : List Int} {bits e : Int} {n : Nat} {x : Fd} (h : x ∈ newsF zs bits e n) : ∃ i, i < n ∧ x = newF zs bits e i := by
  unfold newsF at h
  obtain ⟨i, hi, rfl⟩ := List.mem_map.1 h
  exact ⟨i, by simpa using hi, rfl⟩
theorem news_ok {zs : List Int} {bits e : Int} {n : Nat} (he : i64in e) (hn : n ≤ 8) : ∀ x ∈ newsF zs bits e n, FdOk x := by
  intro x hx
  obtain ⟨i, hi, rfl⟩ := newsF_mem hx
  have hb := lowI_bd (zs.getD i 0) 20 (by omega)
  refine ⟨by show i64in (i : Int); unfold i64in; omega, by show i64in 0; unfold i64in; omega, ?_, by show i64in (lowI _ 20); unfold i64in; omega, by show i64in (i : Int); unfold i64in; omega, he⟩
  rcases newF_k zs bits e i with h | h
  · rw [h]; unfold i64in; omega
  · rw [h]; unfold i64in; omega
def comE (n : Nat) (e : Int) : Fd := ⟨(n : Int), 0, 3, 0, (n : Int), e⟩
theorem last_news {fs : List Fd} {zs : List Int} {bits e : Int} {n : Nat} : lastZ (fs ++ newsF zs bits e n) = lastZ fs := by
  induction n with
  | zero => simp [newsF]
  | succ n ih =>
    rw [newsF_next, ← List.append_assoc, lastZ_snoc, ih, if_neg]
    rcases newF_k zs bits e n with h | h <;> omega
theorem last_com {fs : List Fd} {zs : List Int} {bits e : Int} {n : Nat} (he : e = lastZ fs + 1) : lastZ (fs ++ newsF zs bits e n ++ [comE n e]) = e := by
  rw [lastZ_snoc, last_news, if_pos (show (comE n e).k = 3 from rfl)]
  show max (lastZ fs) e = e
  omega
theorem ahead_all {fs L L' : List Fd} {zs : List Int} {bits e : Int} {n : Nat} (he : e = lastZ fs + 1) (h : IsAll fs L) (h' : IsAll (fs ++ newsF zs bits e n) L') : L' = L := by
  refine h'.congr h (fun p => ?_)
  rw [last_news]
  clear h' h
  induction n with
  | zero => simp [newsF]
  | succ n ih =>
    rw [newsF_next, ← List.append_assoc, newestZ_snoc, ih]
    unfold stepN
    rw [if_neg]
    rintro ⟨hc, _⟩
    unfold counts at hc
    simp only [Bool.and_eq_true, decide_eq_true_eq] at hc
    have : (newF zs bits e n).e = e := rfl
    omega
theorem stale_com {fs : List Fd} {zs : List Int} {bits e : Int} {n : Nat} (he : e = lastZ fs + 1) (hs : staleZ fs = []) : staleZ (fs ++ newsF zs bits e n ++ [comE n e]) = [] := by
  unfold staleZ at hs ⊢
  rw [last_com he, List.filter_eq_nil_iff]
  rw [List.filter_eq_nil_iff] at hs
  intro x hx
  have : x.e ≤ e := by
    rcases List.mem_append.1 hx with hx | hx
    · rcases List.mem_append.1 hx with hx | hx
      · have := hs x hx
        simp at this
        omega
      · obtain ⟨i, _, rfl⟩ := newsF_mem hx
        exact Int.le_refl _
    · obtain rfl : x = comE n e := by simpa using hx
      exact Int.le_refl _
  simp
  omega
def lastI (zs : List Int) (p : Int) : Nat → Int
  | 0 => -1
  | i + 1 => if lowI (zs.getD i 0) 20 = p then (i : Int) else lastI zs p i
theorem lastI_bd (zs : List Int) (p : Int) : ∀ n, -1 ≤ lastI zs p n ∧ lastI zs p n < n
  | 0 => by unfold lastI; omega
  | n + 1 => by
    have := lastI_bd zs p n
    unfold lastI
    split <;> omega
theorem news_last (zs : List Int) (bits e p : Int) (o : Option Fd) : ∀ n, (newsF zs bits e n).foldl (lastOf p) o = if lastI zs p n < 0 then o else some (newF zs bits e (lastI zs p n).toNat)
  | 0 => by
    unfold lastI
    rw [if_pos (by omega)]
    rfl
  | n + 1 => by
    rw [newsF_next, List.foldl_append, news_last zs bits e p o n]
    show lastOf p _ (newF zs bits e n) = _
    unfold lastOf
    rw [show lastI zs p (n + 1) = (if lowI (zs.getD n 0) 20 = p then (n : Int) else lastI zs p n) from rfl]
    by_cases h : (newF zs bits e n).p = p
    · have h2 : lowI (zs.getD n 0) 20 = p := h
      rw [if_pos h, if_pos h2, if_neg (by omega)]
      simp
    · have h2 : ¬ lowI (zs.getD n 0) 20 = p := h
      rw [if_neg h, if_neg h2]
theorem newest_com {fs : List Fd} {zs : List Int} {bits e : Int} {n : Nat} (he : e = lastZ fs + 1) (hs : staleZ fs = []) (p : Int) : newestZ (lastZ (fs ++ newsF zs bits e n ++ [comE n e])) (fs ++ newsF zs bits e n ++ [comE n e]) p = if lastI zs p n < 0 then newestZ (lastZ fs) fs p else some (newF zs bits e (lastI zs p n).toNat) := by
  have hle : ∀ x ∈ fs, x.e ≤ lastZ fs := by
    intro x hx
    unfold staleZ at hs
    rw [List.filter_eq_nil_iff] at hs
    have := hs x hx
    simp at this
    omega
  rw [last_com he, newestZ_snoc]
  have h1 : ∀ o, stepN e p o (comE n e) = o := by
    intro o
    unfold stepN
    rw [if_neg]
    rintro ⟨hc, _⟩
    unfold counts at hc
    have hk : (comE n e).k = 3 := rfl
    simp only [Bool.and_eq_true, Bool.or_eq_true, decide_eq_true_eq] at hc
    omega
  rw [h1]
  unfold newestZ
  rw [List.foldl_append, newestZ_mono fs none hle (by omega)]
  rw [commits_newest (lastZ fs) e p he (newsF zs bits e n) _ 0 ?_ ?_, news_last]
  · intro x hx
    left
    exact hle x (newestZ_some hx).1
  · intro i hi
    have e1 : (newsF zs bits e n)[i] = newF zs bits e i := by simp [newsF]
    rw [e1]
    exact ⟨rfl, by show (i : Int) = 0 + (i : Int); omega, newF_k zs bits e i⟩
def atZ (L : List Fd) (p : Int) : Option Fd := L.find? (fun x => decide (x.p = p))
theorem at_live {fs L : List Fd} (h : IsAll fs L) (p : Int) : atZ L p = liveOf (newestZ (lastZ fs) fs) p := by
  unfold atZ
  cases hl : liveOf (newestZ (lastZ fs) fs) p with
  | none =>
    rw [List.find?_eq_none]
    intro x hx hp
    have hp := of_decide_eq_true hp
    have h1 := (h.2 x).1 hx
    rw [hp] at h1
    rw [liveOf_some.2 h1] at hl
    cases hl
  | some y =>
    have h1 := liveOf_some.1 hl
    have hyp := (newestZ_some h1.1).2.2.1
    have hym : y ∈ L := (h.2 y).2 (by rw [hyp]; exact h1)
    cases hf : L.find? (fun x => decide (x.p = p)) with
    | none =>
      rw [List.find?_eq_none] at hf
      exact absurd (decide_eq_true hyp) (hf y hym)
    | some x =>
      have hxp : x.p = p := by have hq := List.find?_some hf; simpa using hq
      have h2 := (h.2 x).1 (List.mem_of_find?_eq_some hf)
      rw [hxp] at h2
      rw [← h1.1, ← h2.1]
theorem at_com {fs L Lb : List Fd} {zs : List Int} {bits e : Int} {n : Nat} (he : e = lastZ fs + 1) (hs : staleZ fs = []) (h : IsAll fs L) (hb : IsAll (fs ++ newsF zs bits e n ++ [comE n e]) Lb) (p : Int) :
    atZ Lb p = if lastI zs p n < 0 then atZ L p else if bitB bits (lastI zs p n).toNat = true then none else some (newF zs bits e (lastI zs p n).toNat) := by
  rw [at_live hb, at_live h]
  unfold liveOf
  rw [newest_com he hs]
  by_cases hl : lastI zs p n < 0
  · rw [if_pos hl, if_pos hl]
  · rw [if_neg hl, if_neg hl]
    dsimp only
    by_cases hbt : bitB bits (lastI zs p n).toNat = true
    · rw [if_pos hbt, if_neg]
      show ¬ (if bitB bits (lastI zs p n).toNat = true then (2 : Int) else 1) = 1
      rw [if_pos hbt]
      decide
    · rw [if_neg hbt, if_pos]
      show (if bitB bits (lastI zs p n).toNat = true then (2 : Int) else 1) = 1
      rw [if_neg hbt]
theorem at_take {L : List Fd} {p : Int} {k : Nat} {x : Fd} (hk : L[k]? = some x) (h : atZ (L.take k) p = none) : (x.p = p → atZ L p = some x) ∧ (¬ x.p = p → atZ (L.take (k + 1)) p = none) := by
  unfold atZ at h ⊢
  constructor
  · intro hp
    rw [← List.take_append_drop k L, List.find?_append, h]
    have hlt := (List.getElem?_eq_some_iff.1 hk).1
    rw [List.drop_eq_getElem_cons hlt]
    have e : L[k] = x := (List.getElem?_eq_some_iff.1 hk).2
    rw [e]
    simp [hp]
  · intro hp
    rw [take_next hk, List.find?_append, h]
    simp [hp]
set_option maxRecDepth 100000 in
set_option maxHeartbeats 4000000 in
theorem at_yes (L : List Fd) (n : Nat) (A : Option Addr) (c : Nat) (p : Int) (y : Fd) (hy : Hid (atZ L p = some y)) (w : World) (hn : L.length = n) (h : SlFd w w.heap.size A L) (n1 : n ≤ 1000000) : Calls Try.prog 16 #[.slice A n c, .int .i64 p] w fun e' w' => e' = .returned (.tuple #[(.agg #[.int .i64 y.b, .int .i64 y.g, .int .i64 y.k, .int .i64 y.p, .int .i64 y.s, .int .i64 y.e]), .bool true]) ∧ Below w.heap.size w w' := by
  subst hn
  have H0 := h.next ((Below.refl _ _).alloc (Nat.le_refl _) (.cells #[.int .i64 0, .int .i64 0, .int .i64 0, .int .i64 0, .int .i64 0, .int .i64 0] 30))
  have HB0 : Below w.heap.size w (w.alloc (.cells #[.int .i64 0, .int .i64 0, .int .i64 0, .int .i64 0, .int .i64 0, .int .i64 0] 30)) := (Below.refl _ _).alloc (Nat.le_refl _) _
  have hZ : Blk (w.alloc (.cells #[.int .i64 0, .int .i64 0, .int .i64 0, .int .i64 0, .int .i64 0, .int .i64 0] 30)) w.heap.size 30 #[.int .i64 0, .int .i64 0, .int .i64 0, .int .i64 0, .int .i64 0, .int .i64 0] := Blk.new_ _ _ _
  go_enter Try.func16, Try.ntmps16
  go_wp2_with fail
  clear h
  generalize w.alloc (.cells #[.int .i64 0, .int .i64 0, .int .i64 0, .int .i64 0, .int .i64 0, .int .i64 0] 30) = wz at H0 HB0 hZ ⊢
  go_loopw [6] (fun s6 wr => ∃ (k : Nat), k ≤ L.length ∧ s6 = .int .i64 (k : Int) ∧ Hid (atZ (L.take k) p = none) ∧ Below wz.heap.size wz wr) (fun s6 _ => L.length - (iOf s6).toNat)
  case atStart => exact ⟨0, Nat.zero_le _, rfl, Lib.hid rfl, Below.refl _ _⟩
  case round =>
    obtain ⟨k, hk, rfl, HK, hBr⟩ := hrel
    have hB := btr HB0 HB0.size hBr
    have hZr := blk_below hZ hBr
    by_cases hlt : k < L.length
    · obtain ⟨b1, o1, rfl, l1, q1⟩ := (H0.below hBr).at_ (by omega)
      obtain ⟨x, hx⟩ : ∃ x, L[k]? = some x := ⟨_, List.getElem?_eq_getElem hlt⟩
      obtain ⟨x0, x1, x2, x3, x4, x5⟩ := q1 k x hx
      have hat := at_take hx HK.out
      have hsz := hBr.size
      have l1' : b1 < wr.heap.size := by omega
      have i0 : (0 : Int) ≤ (k : Int) := by omega
      have i1 : (k : Int) < (L.length : Int) := by omega
      clear q1
      by_cases hp : x.p = p
      · have hpb : (x.p == p) = true := by simpa using hp
        have hfx := hat.1 hp
        obtain rfl : x = y := by rw [hy.out] at hfx; exact (Option.some.inj hfx).symm
        clear hfx
        have f0 := hZr.free
        have z0 : wr.cell? ⟨w.heap.size, 0, none⟩ = some (.int .i64 0) := hZr.cell_ 0
        have z1 : wr.cell? ⟨w.heap.size, 1, none⟩ = some (.int .i64 0) := hZr.cell_ 1
        have z2 : wr.cell? ⟨w.heap.size, 2, none⟩ = some (.int .i64 0) := hZr.cell_ 2
        have z3 : wr.cell? ⟨w.heap.size, 3, none⟩ = some (.int .i64 0) := hZr.cell_ 3
        have z4 : wr.cell? ⟨w.heap.size, 4, none⟩ = some (.int .i64 0) := hZr.cell_ 4
        have z5 : wr.cell? ⟨w.heap.size, 5, none⟩ = some (.int .i64 0) := hZr.cell_ 5
        clear hat hp hx
        go_wp2_with fail
        change bodyPost _ _ _ _ _ (st6 wr w.heap.size (.int .i64 x.b) (.int .i64 x.g) (.int .i64 x.k) (.int .i64 x.p) (.int .i64 x.s) (.int .i64 x.e))
        have HW := st6_blk hZr (.int .i64 x.b) (.int .i64 x.g) (.int .i64 x.k) (.int .i64 x.p) (.int .i64 x.s) (.int .i64 x.e)
        have HBW := st6_below hB (Nat.le_refl _) (.int .i64 x.b) (.int .i64 x.g) (.int .i64 x.k) (.int .i64 x.p) (.int .i64 x.s) (.int .i64 x.e)
        generalize st6 wr w.heap.size (.int .i64 x.b) (.int .i64 x.g) (.int .i64 x.k) (.int .i64 x.p) (.int .i64 x.s) (.int .i64 x.e) = wf at HW HBW ⊢
        have e0 := HW.cell_ 0
        have e1 := HW.cell_ 1
        have e2 := HW.cell_ 2
        have e3 := HW.cell_ 3
        have e4 := HW.cell_ 4
        have e5 := HW.cell_ 5
        simp at e0 e1 e2 e3 e4 e5
        exact bodyPost_ret (v := .tuple #[(.agg #[.int .i64 x.b, .int .i64 x.g, .int .i64 x.k, .int .i64 x.p, .int .i64 x.s, .int .i64 x.e]), .bool true]) (by simp [results, Try.results16, go_sem, e0, e1, e2, e3, e4, e5]) rfl ⟨rfl, HBW⟩
      · have hpb : (x.p == p) = false := by simpa using hp
        have HK2 : Hid (atZ (L.take (k + 1)) p = none) := Lib.hid (hat.2 hp)
        clear hat hp hx
        go_wp2
        go_roundw
        case rel => exact ⟨k + 1, by omega, by go_num, HK2, hBr⟩
        case measure => simp [iOf]; omega
    · have hno : atZ L p = none := by have := HK.out; rwa [List.take_of_length_le (by omega)] at this
      rw [hy.out] at hno
      cases hno
set_option maxRecDepth 100000 in
set_option maxHeartbeats 4000000 in
theorem at_no (L : List Fd) (n : Nat) (A : Option Addr) (c : Nat) (p : Int) (hy : Hid (atZ L p = none)) (w : World) (hn : L.length = n) (h : SlFd w w.heap.size A L) (n1 : n ≤ 1000000) : Calls Try.prog 16 #[.slice A n c, .int .i64 p] w fun e' w' => e' = .returned (.tuple #[.agg #[.int .i64 0, .int .i64 0, .int .i64 0, .int .i64 0, .int .i64 0, .int .i64 0], .bool false]) ∧ Below w.heap.size w w' := by
  subst hn
  have H0 := h.next ((Below.refl _ _).alloc (Nat.le_refl _) (.cells #[.int .i64 0, .int .i64 0, .int .i64 0, .int .i64 0, .int .i64 0, .int .i64 0] 30))
  have HB0 : Below w.heap.size w (w.alloc (.cells #[.int .i64 0, .int .i64 0, .int .i64 0, .int .i64 0, .int .i64 0, .int .i64 0] 30)) := (Below.refl _ _).alloc (Nat.le_refl _) _
  have hZ : Blk (w.alloc (.cells #[.int .i64 0, .int .i64 0, .int .i64 0, .int .i64 0, .int .i64 0, .int .i64 0] 30)) w.heap.size 30 #[.int .i64 0, .int .i64 0, .int .i64 0, .int .i64 0, .int .i64 0, .int .i64 0] := Blk.new_ _ _ _
  go_enter Try.func16, Try.ntmps16
  go_wp2_with fail
  clear h
  generalize w.alloc (.cells #[.int .i64 0, .int .i64 0, .int .i64 0, .int .i64 0, .int .i64 0, .int .i64 0] 30) = wz at H0 HB0 hZ ⊢
  go_loopw [6] (fun s6 wr => ∃ (k : Nat), k ≤ L.length ∧ s6 = .int .i64 (k : Int) ∧ Hid (atZ (L.take k) p = none) ∧ Below wz.heap.size wz wr) (fun s6 _ => L.length - (iOf s6).toNat)
  case atStart => exact ⟨0, Nat.zero_le _, rfl, Lib.hid rfl, Below.refl _ _⟩
  case round =>
    obtain ⟨k, hk, rfl, HK, hBr⟩ := hrel
    have hB := btr HB0 HB0.size hBr
    have hZr := blk_below hZ hBr
    by_cases hlt : k < L.length
    · obtain ⟨b1, o1, rfl, l1, q1⟩ := (H0.below hBr).at_ (by omega)
      obtain ⟨x, hx⟩ : ∃ x, L[k]? = some x := ⟨_, List.getElem?_eq_getElem hlt⟩
      obtain ⟨x0, x1, x2, x3, x4, x5⟩ := q1 k x hx
      have hat := at_take hx HK.out
      have hsz := hBr.size
      have l1' : b1 < wr.heap.size := by omega
      have i0 : (0 : Int) ≤ (k : Int) := by omega
      have i1 : (k : Int) < (L.length : Int) := by omega
      clear q1
      by_cases hp : x.p = p
      · have hpb : (x.p == p) = true := by simpa using hp
        have hfx := hat.1 hp
        rw [hy.out] at hfx
        cases hfx
      · have hpb : (x.p == p) = false := by simpa using hp
        have HK2 : Hid (atZ (L.take (k + 1)) p = none) := Lib.hid (hat.2 hp)
        clear hat hp hx
        go_wp2
        go_roundw
        case rel => exact ⟨k + 1, by omega, by go_num, HK2, hBr⟩
        case measure => simp [iOf]; omega
    · have hno : atZ L p = none := by have := HK.out; rwa [List.take_of_length_le (by omega)] at this
      have f0 := hZr.free
      have z0 : wr.cell? ⟨w.heap.size, 0, none⟩ = some (.int .i64 0) := hZr.cell_ 0
      have z1 : wr.cell? ⟨w.heap.size, 1, none⟩ = some (.int .i64 0) := hZr.cell_ 1
      have z2 : wr.cell? ⟨w.heap.size, 2, none⟩ = some (.int .i64 0) := hZr.cell_ 2
      have z3 : wr.cell? ⟨w.heap.size, 3, none⟩ = some (.int .i64 0) := hZr.cell_ 3
      have z4 : wr.cell? ⟨w.heap.size, 4, none⟩ = some (.int .i64 0) := hZr.cell_ 4
      have z5 : wr.cell? ⟨w.heap.size, 5, none⟩ = some (.int .i64 0) := hZr.cell_ 5
      go_wp2_with fail
      change bodyPost _ _ _ _ _ (st6 wr w.heap.size (.int .i64 0) (.int .i64 0) (.int .i64 0) (.int .i64 0) (.int .i64 0) (.int .i64 0))
      have HW := st6_blk hZr (.int .i64 0) (.int .i64 0) (.int .i64 0) (.int .i64 0) (.int .i64 0) (.int .i64 0)
      have HBW := st6_below hB (Nat.le_refl _) (.int .i64 0) (.int .i64 0) (.int .i64 0) (.int .i64 0) (.int .i64 0) (.int .i64 0)
      generalize st6 wr w.heap.size (.int .i64 0) (.int .i64 0) (.int .i64 0) (.int .i64 0) (.int .i64 0) (.int .i64 0) = wf at HW HBW ⊢
      have e0 := HW.cell_ 0
      have e1 := HW.cell_ 1
      have e2 := HW.cell_ 2
      have e3 := HW.cell_ 3
      have e4 := HW.cell_ 4
      have e5 := HW.cell_ 5
      simp at e0 e1 e2 e3 e4 e5
      exact bodyPost_ret (v := .tuple #[.agg #[.int .i64 0, .int .i64 0, .int .i64 0, .int .i64 0, .int .i64 0, .int .i64 0], .bool false]) (by simp [results, Try.results16, go_sem, e0, e1, e2, e3, e4, e5]) rfl ⟨rfl, HBW⟩
end Go.Proofs.Ytofeijlejljbdaa
