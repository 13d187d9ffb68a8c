/- WearShifts, plainly: lists that are turned element by element; what more wear of all, and of those that do not count, leaves. -/
import Derived.Test.YtlingchcfdielaaWearC
import Derived.Test.YtlingchcfdielaaWearM
import Derived.Test.YtlingchcfdielaaLowList
import Derived.Test.YtlingchcfdielaaApp
namespace Go.Proofs.Ytlingchcfdielaa
open Go.ChangeShapes Go.WideShapes Go.ChangeAt Go.RowKit
set_option linter.unusedSimpArgs false
set_option linter.unusedVariables false

/-- The list with its first k elements turned. -/
def updL (f : Nat → Int → Int) (l : List Int) (k : Nat) : List Int := (List.range l.length).map fun j => if j < k then f j (l.getD j 0) else l.getD j 0
theorem updL_len (f : Nat → Int → Int) (l : List Int) (k : Nat) : (updL f l k).length = l.length := by simp [updL]
theorem updL_getD (f : Nat → Int → Int) (l : List Int) (k j : Nat) (hj : j < l.length) : (updL f l k).getD j 0 = if j < k then f j (l.getD j 0) else l.getD j 0 := by
  simp [updL, hj]
theorem updL_zero (f : Nat → Int → Int) (l : List Int) : updL f l 0 = l := by
  refine List.ext_getElem (by simp [updL]) fun j h1 h2 => ?_
  simp [updL, h2]
theorem updL_set (f : Nat → Int → Int) (l : List Int) (k : Nat) (hk : k < l.length) : (updL f l k).set k (f k (l.getD k 0)) = updL f l (k + 1) := by
  refine List.ext_getElem (by simp [updL]) fun j h1 h2 => ?_
  rw [List.getElem_set]
  by_cases h : k = j
  · subst h
    simp [updL]
  · rw [if_neg h]
    simp only [updL, List.getElem_map, List.getElem_range]
    by_cases h3 : j < k
    · rw [if_pos h3, if_pos (by omega)]
    · rw [if_neg h3, if_neg (by omega)]
theorem updL_mem {f : Nat → Int → Int} {l : List Int} {k : Nat} {z : Int} (h : z ∈ updL f l k) : ∃ j, j < l.length ∧ (z = f j (l.getD j 0) ∨ z = l.getD j 0) := by
  unfold updL at h
  obtain ⟨j, hj, rfl⟩ := List.mem_map.1 h
  refine ⟨j, by simpa using hj, ?_⟩
  split
  · exact Or.inl rfl
  · exact Or.inr rfl

theorem ext_same {ws ys : List Int} {good : List Bool} {s : Int} (hl : ws.length = ys.length) (h : ∀ x y, x < mlen ws good → y < mlen ws good → good.getD x false = true → good.getD y false = true → (s * ws.getD x 0 < s * ws.getD y 0 ↔ s * ys.getD x 0 < s * ys.getD y 0)) :
    ext ws good s (mlen ws good) = ext ys good s (mlen ys good) := by
  rw [show mlen ys good = mlen ws good by unfold mlen; rw [hl]]
  exact ext_congr _ h
theorem same_all {ws ys : List Int} {good : List Bool} {M : Int} (hl : ws.length = ys.length) (h : ∀ x, x < mlen ws good → good.getD x false = true → ys.getD x 0 = ws.getD x 0 + M) :
    leastI ys good = leastI ws good ∧ mostI ys good = mostI ws good ∧ spreadI ys good = spreadI ws good := by
  have e1 : ext ws good 1 (mlen ws good) = ext ys good 1 (mlen ys good) := ext_same hl fun x y hx hy gx gy => by rw [h x hx gx, h y hy gy]; omega
  have e2 : ext ws good (-1) (mlen ws good) = ext ys good (-1) (mlen ys good) := ext_same hl fun x y hx hy gx gy => by rw [h x hx gx, h y hy gy]; omega
  refine ⟨e1.symm, e2.symm, ?_⟩
  unfold spreadI
  rw [← e1, ← e2]
  by_cases hn : ext ws good 1 (mlen ws good) < 0
  · rw [if_pos hn, if_pos hn]
  · rw [if_neg hn, if_neg hn]
    have hn2 : ¬ ext ws good (-1) (mlen ws good) < 0 := fun h' => hn ((ext_set_neg ws ws good 1 (-1) _).2 h')
    have b1 := ext_best ws good 1 _ hn
    have b2 := ext_best ws good (-1) _ hn2
    have c1 := ext_bd ws good 1 (mlen ws good)
    have c2 := ext_bd ws good (-1) (mlen ws good)
    rw [h _ (by omega) b1.1, h _ (by omega) b2.1]
    omega
theorem own_sliceI {w : World} {base : Nat} {e : TypeId} {v : Value} {n : Nat} {bs : List Int} (h : w.ownsRow base e 1 v n (bs.map (Value.int .i64))) : ∃ (A : Option Addr) (c : Nat), v = .slice A n c ∧ bs.length = n ∧ n ≤ c ∧ c ≤ maxLen ∧ Sl w w.heap.size A (bs.map (Value.int .i64)) := by
  have hl : bs.length = n := by
    have := h.1
    simp at this
    omega
  rcases h.2 with ⟨hv, h0⟩ | ⟨g, cap, cur, hv, hbg, hh, hnc, hm, hsz, ht⟩
  · subst h0
    exact ⟨none, 0, hv, hl, Nat.le_refl _, by unfold maxLen; omega, Or.inl (by rw [List.eq_nil_of_length_eq_zero hl]; rfl)⟩
  · subst hv
    exact ⟨some ⟨g, 0, none⟩, cap, rfl, hl, hnc, hm, Sl.of_own h⟩
theorem own_len {w : World} {base : Nat} {e : TypeId} {size n m : Nat} {v : Value} {xs : List Value} (h : n = m) (ho : w.ownsRow base e size v n xs) : w.ownsRow base e size v m xs := by rw [← h]; exact ho
theorem own_below {w w' : World} {base : Nat} {e : TypeId} {size n : Nat} {v : Value} {xs : List Value} (h : w.ownsRow base e size v n xs) (hb : Below w.heap.size w w') : w'.ownsRow base e size v n xs :=
  h.kept (row := none) ⟨hb.os, hb.tape, hb.output, hb.size, fun k hk _ => hb.block k hk⟩ (by cases v.ownBlock <;> simp)
theorem own_kept2 {w w' : World} {base : Nat} {e : TypeId} {n : Nat} {v u : Value} {xs : List Value} (h : w.ownsRow base e 1 v n xs) (hg : w.grownBy w' u.ownBlock) (hd : ∀ g, v.ownBlock = some g → u.ownBlock ≠ some g) : w'.ownsRow base e 1 v n xs := by
  refine h.kept hg ?_
  cases hv : v.ownBlock with
  | none => exact Or.inl rfl
  | some g => exact Or.inr (fun he => hd g hv he.symm)
theorem apart_new {w : World} {base : Nat} {e : TypeId} {n : Nat} {v u' : Value} {xs : List Value} (h : w.ownsRow base e 1 v n xs) (hu : u'.ownBlock = none ∨ u'.ownBlock = some w.heap.size) : ∀ g, v.ownBlock = some g → u'.ownBlock ≠ some g := by
  intro g hg he
  have := (h.lt g hg).2
  rcases hu with hu | hu
  · rw [hu] at he
    cases he
  · rw [hu] at he
    cases he
    omega
theorem out_of {good : List Bool} {j : Nat} (hc : ¬ (j < good.length ∧ good.getD j false = true)) : ¬ j < good.length ∨ good.getD j false = false := by
  by_cases h1 : j < good.length
  · right
    cases hg : good.getD j false
    · rfl
    · exact absurd ⟨h1, hg⟩ hc
  · exact Or.inl h1
theorem apart_sym {v u : Value} (h : ∀ g, v.ownBlock = some g → u.ownBlock ≠ some g) : ∀ g, u.ownBlock = some g → v.ownBlock ≠ some g := fun g hu hv => h g hv hu
theorem Spread_n (R : Value) (ws : List Int) (n : Nat) (hl : ws.length = n) (good : List Bool) (A1 A2 : Option Addr) (c1 c2 : Nat) (hR : (.int .i64 (spreadI ws good)) = R) (w : World)
    (h1 : Sl w w.heap.size A1 (ws.map (Value.int .i64))) (h2 : Sl w w.heap.size A2 (good.map Value.bool)) (n1 : n ≤ 1000000) (n2 : good.length ≤ 1000000) (hw : ∀ z ∈ ws, 0 ≤ z ∧ z ≤ 2147483648) :
    Calls Try.prog 8 #[.slice A1 n c1, .slice A2 good.length c2] w fun e w' => e = .returned R ∧ Below w.heap.size w w' := by
  subst hl hR
  exact Spread_any ws good A1 A2 c1 c2 w h1 h2 n1 n2 hw
theorem Least_n (R : Value) (ws : List Int) (n : Nat) (hl : ws.length = n) (good : List Bool) (A1 A2 : Option Addr) (c1 c2 : Nat) (hR : (.int .i64 (leastI ws good)) = R) (w : World)
    (h1 : Sl w w.heap.size A1 (ws.map (Value.int .i64))) (h2 : Sl w w.heap.size A2 (good.map Value.bool)) (n1 : n ≤ 1000000) (n2 : good.length ≤ 1000000) (hw : ∀ z ∈ ws, 0 ≤ z ∧ z ≤ 2147483648) :
    Calls Try.prog 10 #[.slice A1 n c1, .slice A2 good.length c2] w fun e w' => e = .returned R ∧ Below w.heap.size w w' := by
  subst hl hR
  exact Least_any ws good A1 A2 c1 c2 w h1 h2 n1 n2 hw
theorem Most_n (R : Value) (ws : List Int) (n : Nat) (hl : ws.length = n) (good : List Bool) (A1 A2 : Option Addr) (c1 c2 : Nat) (hR : (.int .i64 (mostI ws good)) = R) (w : World)
    (h1 : Sl w w.heap.size A1 (ws.map (Value.int .i64))) (h2 : Sl w w.heap.size A2 (good.map Value.bool)) (n1 : n ≤ 1000000) (n2 : good.length ≤ 1000000) (hw : ∀ z ∈ ws, 0 ≤ z ∧ z ≤ 2147483648) :
    Calls Try.prog 12 #[.slice A1 n c1, .slice A2 good.length c2] w fun e w' => e = .returned R ∧ Below w.heap.size w w' := by
  subst hl hR
  exact Most_any ws good A1 A2 c1 c2 w h1 h2 n1 n2 hw
theorem Due_n (R : Value) (ws : List Int) (n : Nat) (hl : ws.length = n) (good : List Bool) (A1 A2 : Option Addr) (c1 c2 : Nat) (t : Int) (hR : (.bool (decide (t < spreadI ws good))) = R) (w : World)
    (h1 : Sl w w.heap.size A1 (ws.map (Value.int .i64))) (h2 : Sl w w.heap.size A2 (good.map Value.bool)) (n1 : n ≤ 1000000) (n2 : good.length ≤ 1000000) (hw : ∀ z ∈ ws, 0 ≤ z ∧ z ≤ 2147483648) :
    Calls Try.prog 14 #[.slice A1 n c1, .slice A2 good.length c2, .int .i64 t] w fun e w' => e = .returned R ∧ Below w.heap.size w w' := by
  subst hl hR
  exact Due_any ws good A1 A2 c1 c2 t w h1 h2 n1 n2 hw
end Go.Proofs.Ytlingchcfdielaa
