/- Victim, plainly: of what is picked none is better; as many more of all change no pick. Rows of a call's own, apart. -/
import Derived.Test.YtlabkkmpllccoaaVictimCold
import Derived.Test.YtlabkkmpllccoaaWearM
import Derived.Test.YtlabkkmpllccoaaLowList12
import Derived.Test.YtlabkkmpllccoaaApp
import Derived.Deep.DrawnRows
namespace Go.Proofs.Ytlabkkmpllccoaa
open Go.ChangeShapes Go.WideShapes Go.ChangeAt Go.RowKit
set_option linter.unusedSimpArgs false
set_option linter.unusedVariables false

theorem pick_spec (live ws : List Int) (may : List Bool) : ∀ k, (pickF live ws may k = -1 ∧ ∀ j, j < k → may.getD j false = false) ∨
    ∃ p, p < k ∧ pickF live ws may k = (p : Int) ∧ may.getD p false = true ∧ ∀ j, j < k → may.getD j false = true → (live.getD p 0 < live.getD j 0 ∨ (live.getD p 0 = live.getD j 0 ∧ (ws.getD p 0 < ws.getD j 0 ∨ (ws.getD p 0 = ws.getD j 0 ∧ p ≤ j))))
  | 0 => Or.inl ⟨rfl, fun j hj => by omega⟩
  | k + 1 => by
    rcases pick_spec live ws may k with ⟨he, hn⟩ | ⟨p, hp, he, hm, hb⟩
    · cases hk : may.getD k false
      · left
        refine ⟨?_, fun j hj => ?_⟩
        · unfold pickF
          rw [if_neg (by rw [hk]; simp)]
          exact he
        · rcases Nat.lt_or_ge j k with h | h
          · exact hn j h
          · rw [show j = k by omega]
            exact hk
      · right
        refine ⟨k, by omega, ?_, hk, fun j hj hmj => ?_⟩
        · unfold pickF
          rw [if_pos ⟨hk, Or.inl (by omega)⟩]
        · rcases Nat.lt_or_ge j k with h | h
          · rw [hn j h] at hmj
            cases hmj
          · rw [show j = k by omega]
            omega
    · right
      by_cases hc : may.getD k false = true ∧ (live.getD k 0 < live.getD p 0 ∨ (live.getD k 0 = live.getD p 0 ∧ ws.getD k 0 < ws.getD p 0))
      · refine ⟨k, by omega, ?_, hc.1, fun j hj hmj => ?_⟩
        · unfold pickF
          rw [he]
          rw [if_pos ⟨hc.1, Or.inr (by simpa using hc.2)⟩]
        · rcases Nat.lt_or_ge j k with h | h
          · have := hb j h hmj
            have := hc.2
            omega
          · rw [show j = k by omega]
            omega
      · refine ⟨p, by omega, ?_, hm, fun j hj hmj => ?_⟩
        · unfold pickF
          rw [he]
          rw [if_neg (by
            rintro ⟨h1, h2⟩
            refine hc ⟨h1, ?_⟩
            simp only [Int.toNat_natCast] at h2
            omega)]
        · rcases Nat.lt_or_ge j k with h | h
          · exact hb j h hmj
          · have : j = k := by omega
            subst this
            have h3 : ¬ (live.getD j 0 < live.getD p 0 ∨ (live.getD j 0 = live.getD p 0 ∧ ws.getD j 0 < ws.getD p 0)) := fun h' => hc ⟨hmj, h'⟩
            omega
theorem pick_congr {live ws live' ws' : List Int} {may : List Bool} : ∀ k, (∀ x y, x < k → y < k → (live.getD x 0 < live.getD y 0 ↔ live'.getD x 0 < live'.getD y 0) ∧ (live.getD x 0 = live.getD y 0 ↔ live'.getD x 0 = live'.getD y 0) ∧ (ws.getD x 0 < ws.getD y 0 ↔ ws'.getD x 0 < ws'.getD y 0)) →
    pickF live ws may k = pickF live' ws' may k
  | 0, _ => rfl
  | k + 1, h => by
    have ih := pick_congr (live := live) (ws := ws) (live' := live') (ws' := ws') (may := may) k fun x y hx hy => h x y (by omega) (by omega)
    unfold pickF
    rw [← ih]
    rcases pick_bd live ws may k with e | e
    · rw [e]
      simp
    · obtain ⟨a, b, c⟩ := h k (pickF live ws may k).toNat (by omega) (by omega)
      simp only [a, b, c]
theorem pick_lone {live ws : List Int} {may : List Bool} {n x : Nat} (hx : x < n) (hm : may.getD x false = true) (h0 : live.getD x 0 = 0) (h1 : ∀ j, j < n → j ≠ x → 1 ≤ live.getD j 0) : pickF live ws may n = (x : Int) := by
  rcases pick_spec live ws may n with ⟨_, hn⟩ | ⟨p, hp, he, _, hb⟩
  · rw [hn x hx] at hm
    cases hm
  · have := hb x hx hm
    by_cases hpx : p = x
    · rw [he, hpx]
    · have := h1 p hp hpx
      omega
theorem pick_not {live ws : List Int} {may : List Bool} {n x : Nat} (hm : may.getD x false = false) : pickF live ws may n ≠ (x : Int) := by
  rcases pick_spec live ws may n with ⟨he, _⟩ | ⟨p, hp, he, hm2, _⟩
  · rw [he]
    omega
  · rw [he]
    intro h
    have : p = x := by omega
    subst this
    rw [hm] at hm2
    cases hm2
theorem ext_same {ws ys : List Int} {good : List Bool} {s : Int} (hl : ws.length = ys.length) (h : ∀ x y, x < mlen ws good → y < mlen ws good → good.getD x false = true → good.getD y false = true → (s * ws.getD x 0 < s * ws.getD y 0 ↔ s * ys.getD x 0 < s * ys.getD y 0)) :
    ext ws good s (mlen ws good) = ext ys good s (mlen ys good) := by
  rw [show mlen ys good = mlen ws good by unfold mlen; rw [hl]]
  exact ext_congr _ h
theorem same_all {ws ys : List Int} {good : List Bool} {M : Int} (hl : ws.length = ys.length) (h : ∀ x, x < mlen ws good → good.getD x false = true → ys.getD x 0 = ws.getD x 0 + M) :
    leastI ys good = leastI ws good ∧ mostI ys good = mostI ws good ∧ spreadI ys good = spreadI ws good := by
  have e1 : ext ws good 1 (mlen ws good) = ext ys good 1 (mlen ys good) := ext_same hl fun x y hx hy gx gy => by rw [h x hx gx, h y hy gy]; omega
  have e2 : ext ws good (-1) (mlen ws good) = ext ys good (-1) (mlen ys good) := ext_same hl fun x y hx hy gx gy => by rw [h x hx gx, h y hy gy]; omega
  refine ⟨e1.symm, e2.symm, ?_⟩
  unfold spreadI
  rw [← e1, ← e2]
  by_cases hn : ext ws good 1 (mlen ws good) < 0
  · rw [if_pos hn, if_pos hn]
  · rw [if_neg hn, if_neg hn]
    have hn2 : ¬ ext ws good (-1) (mlen ws good) < 0 := fun h' => hn ((ext_set_neg ws ws good 1 (-1) _).2 h')
    have b1 := ext_best ws good 1 _ hn
    have b2 := ext_best ws good (-1) _ hn2
    have c1 := ext_bd ws good 1 (mlen ws good)
    have c2 := ext_bd ws good (-1) (mlen ws good)
    rw [h _ (by omega) b1.1, h _ (by omega) b2.1]
    omega
theorem own_sliceI {w : World} {base : Nat} {e : TypeId} {v : Value} {n : Nat} {bs : List Int} (h : w.ownsRow base e 1 v n (bs.map (Value.int .i64))) : ∃ (A : Option Addr) (c : Nat), v = .slice A n c ∧ bs.length = n ∧ n ≤ c ∧ c ≤ maxLen ∧ Sl w w.heap.size A (bs.map (Value.int .i64)) := by
  have hl : bs.length = n := by
    have := h.1
    simp at this
    omega
  rcases h.2 with ⟨hv, h0⟩ | ⟨g, cap, cur, hv, hbg, hh, hnc, hm, hsz, ht⟩
  · subst h0
    exact ⟨none, 0, hv, hl, Nat.le_refl _, by unfold maxLen; omega, Or.inl (by rw [List.eq_nil_of_length_eq_zero hl]; rfl)⟩
  · subst hv
    exact ⟨some ⟨g, 0, none⟩, cap, rfl, hl, hnc, hm, Sl.of_own h⟩
theorem own_len {w : World} {base : Nat} {e : TypeId} {size n m : Nat} {v : Value} {xs : List Value} (h : n = m) (ho : w.ownsRow base e size v n xs) : w.ownsRow base e size v m xs := by rw [← h]; exact ho
theorem own_below {w w' : World} {base : Nat} {e : TypeId} {size n : Nat} {v : Value} {xs : List Value} (h : w.ownsRow base e size v n xs) (hb : Below w.heap.size w w') : w'.ownsRow base e size v n xs :=
  h.kept (row := none) ⟨hb.os, hb.tape, hb.output, hb.size, fun k hk _ => hb.block k hk⟩ (by cases v.ownBlock <;> simp)
theorem own_kept2 {w w' : World} {base : Nat} {e : TypeId} {n : Nat} {v u : Value} {xs : List Value} (h : w.ownsRow base e 1 v n xs) (hg : w.grownBy w' u.ownBlock) (hd : ∀ g, v.ownBlock = some g → u.ownBlock ≠ some g) : w'.ownsRow base e 1 v n xs := by
  refine h.kept hg ?_
  cases hv : v.ownBlock with
  | none => exact Or.inl rfl
  | some g => exact Or.inr (fun he => hd g hv he.symm)
theorem apart_new {w : World} {base : Nat} {e : TypeId} {n : Nat} {v u' : Value} {xs : List Value} (h : w.ownsRow base e 1 v n xs) (hu : u'.ownBlock = none ∨ u'.ownBlock = some w.heap.size) : ∀ g, v.ownBlock = some g → u'.ownBlock ≠ some g := by
  intro g hg he
  have := (h.lt g hg).2
  rcases hu with hu | hu
  · rw [hu] at he
    cases he
  · rw [hu] at he
    cases he
    omega
theorem apart_sym {v u : Value} (h : ∀ g, v.ownBlock = some g → u.ownBlock ≠ some g) : ∀ g, u.ownBlock = some g → v.ownBlock ≠ some g := fun g hu hv => h g hv hu
theorem apart_app {w : World} {base : Nat} {e : TypeId} {n : Nat} {v u u' : Value} {xs : List Value} (h : w.ownsRow base e 1 v n xs) (hd : ∀ g, v.ownBlock = some g → u.ownBlock ≠ some g) (hu : u'.ownBlock = u.ownBlock ∨ u'.ownBlock = some w.heap.size) :
    ∀ g, v.ownBlock = some g → u'.ownBlock ≠ some g := by
  rcases hu with hu | hu
  · rw [hu]
    exact hd
  · exact apart_new h (Or.inr hu)
theorem own_one (w : World) (base : Nat) (e : TypeId) (u : Value) (hb : base ≤ w.heap.size) : (w.alloc (.cells #[u] e)).ownsRow base e 1 (.slice (some ⟨w.heap.size, 0, none⟩) 1 1) 1 [u] := by
  refine ⟨by simp, Or.inr ⟨w.heap.size, 1, #[u], rfl, hb, heap_alloc_new w _, by omega, by unfold maxLen; omega, by simp, by simp⟩⟩
/-- All lists of one length: what is shifted. -/
theorem shift_pick {L W A B : List Int} {may : List Bool} {n : Nat} {M : Int} (hA : ∀ j, j < n → A.getD j 0 = L.getD j 0 + 1) (hB : ∀ j, j < n → B.getD j 0 = W.getD j 0 + M) : pickF A B may n = pickF L W may n := by
  refine (pick_congr n fun x y hx hy => ?_).symm
  rw [hA x hx, hA y hy, hB x hx, hB y hy]
  omega
theorem len3 {a b : List Int} {c : List Bool} {n : Nat} (h1 : a.length = n) (h2 : b.length = n) (h3 : c.length = n) : mlen3 a b c = n := by unfold mlen3; omega
theorem cold_n {a b : List Int} {c : List Bool} {n : Nat} (h1 : a.length = n) (h2 : b.length = n) (h3 : c.length = n) (t : Int) :
    coldI a b c t = if t < spreadI b c then (if leastI b c < 0 ∨ a.getD (leastI b c).toNat 0 ≤ 0 then -1 else leastI b c) else -1 := by
  unfold coldI
  rw [len3 h1 h2 h3]
  rw [List.take_of_length_le (by omega), List.take_of_length_le (by omega)]
theorem Pick_n (R : Value) (n : Nat) (live ws : List Int) (may : List Bool) (l1 : live.length = n) (l2 : ws.length = n) (l3 : may.length = n) (A1 A2 A3 : Option Addr) (c1 c2 c3 : Nat) (hR : Value.int .i64 (pickF live ws may n) = R) (w : World)
    (h1 : Sl w w.heap.size A1 (live.map (Value.int .i64))) (h2 : Sl w w.heap.size A2 (ws.map (Value.int .i64))) (h3 : Sl w w.heap.size A3 (may.map Value.bool)) (hn : n ≤ 1000000) :
    Calls Try.prog 8 #[.slice A1 n c1, .slice A2 n c2, .slice A3 n c3] w fun e w' => e = .returned R ∧ Below w.heap.size w w' := by
  have q := pick_any live ws may A1 A2 A3 c1 c2 c3 w h1 h2 h3 (by omega) (by omega) (by omega)
  rw [len3 l1 l2 l3, l1, l2, l3, hR] at q
  exact q
theorem Free_n (R : Value) (n : Nat) (ws : List Int) (may : List Bool) (l2 : ws.length = n) (l3 : may.length = n) (A2 A3 : Option Addr) (c2 c3 : Nat) (hR : Value.int .i64 (leastI ws may) = R) (w : World)
    (h2 : Sl w w.heap.size A2 (ws.map (Value.int .i64))) (h3 : Sl w w.heap.size A3 (may.map Value.bool)) (hn : n ≤ 1000000) (hw : ∀ z ∈ ws, 0 ≤ z ∧ z ≤ 2147483648) :
    Calls Try.prog 10 #[.slice A2 n c2, .slice A3 n c3] w fun e w' => e = .returned R ∧ Below w.heap.size w w' := by
  have q := Free_any ws may A2 A3 c2 c3 w h2 h3 (by omega) (by omega) hw
  rw [l2, l3, hR] at q
  exact q
theorem LeastV_n (R : Value) (n : Nat) (ws : List Int) (may : List Bool) (l2 : ws.length = n) (l3 : may.length = n) (A2 A3 : Option Addr) (c2 c3 : Nat) (hR : Value.int .i64 (leastI ws may) = R) (w : World)
    (h2 : Sl w w.heap.size A2 (ws.map (Value.int .i64))) (h3 : Sl w w.heap.size A3 (may.map Value.bool)) (hn : n ≤ 1000000) (hw : ∀ z ∈ ws, 0 ≤ z ∧ z ≤ 2147483648) :
    Calls Try.prog 15 #[.slice A2 n c2, .slice A3 n c3] w fun e w' => e = .returned R ∧ Below w.heap.size w w' := by
  have q := Least_any ws may A2 A3 c2 c3 w h2 h3 (by omega) (by omega) hw
  rw [l2, l3, hR] at q
  exact q
theorem DueV_n (R : Value) (n : Nat) (ws : List Int) (may : List Bool) (l2 : ws.length = n) (l3 : may.length = n) (A2 A3 : Option Addr) (c2 c3 : Nat) (t : Int) (hR : Value.bool (decide (t < spreadI ws may)) = R) (w : World)
    (h2 : Sl w w.heap.size A2 (ws.map (Value.int .i64))) (h3 : Sl w w.heap.size A3 (may.map Value.bool)) (hn : n ≤ 1000000) (hw : ∀ z ∈ ws, 0 ≤ z ∧ z ≤ 2147483648) :
    Calls Try.prog 14 #[.slice A2 n c2, .slice A3 n c3, .int .i64 t] w fun e w' => e = .returned R ∧ Below w.heap.size w w' := by
  have q := Due_any ws may A2 A3 c2 c3 t w h2 h3 (by omega) (by omega) hw
  rw [l2, l3, hR] at q
  exact q
theorem Cold_n (R : Value) (n : Nat) (live ws : List Int) (may : List Bool) (l1 : live.length = n) (l2 : ws.length = n) (l3 : may.length = n) (A1 A2 A3 : Option Addr) (c1 c2 c3 : Nat) (t : Int) (hR : Value.int .i64 (coldI live ws may t) = R) (w : World)
    (h1 : Sl w w.heap.size A1 (live.map (Value.int .i64))) (h2 : Sl w w.heap.size A2 (ws.map (Value.int .i64))) (h3 : Sl w w.heap.size A3 (may.map Value.bool)) (hn : n ≤ 1000000)
    (k2 : n ≤ c2) (k2' : c2 ≤ maxLen) (k3 : n ≤ c3) (k3' : c3 ≤ maxLen) (hw : ∀ z ∈ ws, 0 ≤ z ∧ z ≤ 2147483648) (hl : ∀ z ∈ live, 0 ≤ z) :
    Calls Try.prog 12 #[.slice A1 n c1, .slice A2 n c2, .slice A3 n c3, .int .i64 t] w fun e w' => e = .returned R ∧ Below w.heap.size w w' := by
  have q := Cold_any live ws may A1 A2 A3 c1 c2 c3 t w h1 h2 h3 (by omega) (by omega) (by omega) (by omega) k2' (by omega) k3' hw hl
  rw [l1, l2, l3, hR] at q
  exact q
theorem low_n (m : Int) (hm1 : 1 ≤ m) (hm2 : m ≤ 4611686018427387904) (n : Nat) (ys : List Int) (l1 : ys.length = n) (A : Option Addr) (c : Nat) (w : World) (h1 : Sl w w.heap.size A (ys.map (Value.int .i64))) (n1 : n ≤ 1000000) :
    Calls Try.prog 7 #[.slice A n c, .int .i64 m] w fun e w' =>
      ∃ (A' : Option Addr) (c' : Nat), e = .returned (.slice A' n c') ∧ n ≤ c' ∧ c' ≤ maxLen ∧ Sl w' w'.heap.size A' ((lowL m ys).map (Value.int .i64)) ∧ Below w.heap.size w w' := by
  have q := low_list m hm1 hm2 ys A c w h1 (by omega)
  rw [l1] at q
  refine q.mono fun e w' ⟨zs, A', c', hz, he, h2, h3, h4, h5⟩ => ?_
  have hl : zs.length = n := by rw [hz]; simp [lowL, l1]
  rw [hl] at he h2
  exact ⟨A', c', he, h2, h3, by rw [← hz]; exact h4, h5⟩
theorem build_one (z : Int) (w : World) : (Instr.buildSlice 22 1 #[(0, .int .i64 z)]).run Try.prog w = .ok (.slice (some ⟨w.heap.size, 0, none⟩) 1 1) (w.alloc (.cells #[.int .i64 z] 3)) := by kernel_rfl
theorem step_build1 {w : World} {ops : Array Oper} {o : Oper} {a : Act} {K : Act → World → Prop} {Q : Exit → Act → World → Prop} {E : Prop} (hgd : o.guard = none) (x : Operand) (hop : o.op = Op.buildSlice 22 1 #[(0, x)])
    (z : Int) (hx : a.eval x = .int .i64 z) (base : Nat) (hb : base ≤ w.heap.size)
    (hK : ∀ w' u, w'.ownsRow base 3 1 u 1 [.int .i64 z] → w.grownBy w' none → (u.ownBlock = none ∨ u.ownBlock = some w.heap.size) → u = .slice (some ⟨w.heap.size, 0, none⟩) 1 1 → K (a.put o.dst u) w') :
    if Region.wanted o (yielded ops a.tmps) = true then Oper.wp Try.prog o a w K Q else E := by
  have hw : Region.wanted o (yielded ops a.tmps) = true := by simp [Region.wanted, hgd]
  rw [if_pos hw]
  have hrun := build_one z w
  unfold Oper.wp
  simp [execOp, hop, hx, hrun, Result.andThen]
  exact hK _ _ (own_one w base 3 _ hb) (World.grownBy_alloc w _ none) (Or.inr rfl) rfl
end Go.Proofs.Ytlabkkmpllccoaa
