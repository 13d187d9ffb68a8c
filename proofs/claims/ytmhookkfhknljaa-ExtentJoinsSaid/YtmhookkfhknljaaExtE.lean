/- Join. -/
import Derived.Test.YtmhookkfhknljaaExtC
namespace Go.Proofs.Ytmhookkfhknljaa
open Go.ChangeShapes Go.WideShapes Go.ChangeAt Go.RowKit
set_option linter.unusedSimpArgs false
set_option linter.unusedVariables false

/-- What was joined of the first j parts. -/
def joinT (bss : List (List Nat)) (s j : Nat) : List Nat := ((bss.take j).flatten).take s
theorem join_step {bss : List (List Nat)} {s j n : Nat} {P : List Nat} (hP : bss[j]? = some P) (hl : P.length = n) (x : Nat) (hx : x = min n (s - (joinT bss s j).length)) : joinT bss s (j + 1) = joinT bss s j ++ P.take x := by
  obtain ⟨hj, he⟩ := List.getElem?_eq_some_iff.1 hP
  unfold joinT at *
  rw [take_flat hj s, he]
  congr 1
  subst hx
  rcases Nat.le_total n (s - (List.take s (List.take j bss).flatten).length) with h | h
  · rw [Nat.min_eq_left h, List.take_of_length_le (by omega), List.take_of_length_le (by omega)]
  · rw [Nat.min_eq_right h]
theorem join_le (bss : List (List Nat)) (s j : Nat) : (joinT bss s j).length ≤ s := by unfold joinT; simp; omega
set_option maxRecDepth 100000 in
set_option maxHeartbeats 4000000 in
theorem join_any (n m s : Nat) (A : Option Addr) (k : Nat) (vals : List Value) (bss : List (List Nat)) (D : List Nat) (ok : Bool) (w : World) (hv : vals.length = m) (hA : Sl w w.heap.size A vals) (hp : PartsR w n vals bss) (hn : 1 ≤ n) (hn2 : n ≤ 64) (hm2 : m ≤ 100) (hs : s ≤ 100000)
    (hD : bss.flatten.take s = D) (hok : (!decide (bss.flatten.length < s)) = ok) :
    Calls Try.prog 9 #[.slice A m k, .int .i64 s] w fun e' w' => ∃ v, e' = .returned (.tuple #[v, .bool ok]) ∧ Below w.heap.size w w' ∧ (ok = true → w'.ownsRow w.heap.size 5 1 v s (D.map byteV)) := by
  have hbl : bss.length = m := by rw [← hp.1, hv]
  have HV := Lib.hid hv
  have HP := Lib.hid hp
  have HBL := Lib.hid hbl
  have HD := Lib.hid hD
  have HOK := Lib.hid hok
  have s0 : (0 : Int) ≤ (s : Int) := by omega
  have s1 : ¬ (s : Int) < 0 := by omega
  clear hv hp hbl hD hok
  go_enter Try.func9, Try.ntmps9
  go_wp2_with fail
  go_loopw [6, 13] (fun v i wr => ∃ (j t : Nat) (T : List Nat), j ≤ m ∧ i = .int .i64 j ∧ Hid (joinT bss s j = T) ∧ wr.ownsRow w.heap.size 5 1 v t (T.map byteV) ∧ Below w.heap.size w wr) (fun _ i _ => m - (intOf i).toNat)
  case atStart => exact ⟨0, 0, [], Nat.zero_le _, rfl, Lib.hid (by simp [joinT]), World.ownsRow_nil _ _ _ _, Below.refl _ _⟩
  case round =>
    obtain ⟨j, t, T, hj, rfl, HT, ho, hB⟩ := hrel
    obtain ⟨A6, c6, hv6, hl6, hc6, hc6', hS6⟩ := own_sliceV ho
    subst hv6
    have hTl : T.length = t := by simpa using hl6
    have hts : t ≤ s := by rw [← hTl, ← HT.out]; exact join_le bss s j
    have HTL := Lib.hid hTl
    clear hl6 hc6 hc6' hS6 hTl
    by_cases hlt : j < m
    · have Hr := hA.next hB
      have Pr := HP.out.next hB
      obtain ⟨P, hP⟩ : ∃ P, bss[j]? = some P := ⟨_, List.getElem?_eq_getElem (by rw [HBL.out]; exact hlt)⟩
      obtain ⟨hPl, A2, hv2, hS2⟩ := Pr.2 j P hP
      obtain ⟨b2, o2, rfl, l2, q2⟩ := hS2.at_ (by rw [List.length_map]; omega)
      obtain ⟨b1, o1, rfl, l1, q1⟩ := Hr.at_ (by rw [HV.out]; omega)
      have c1 := q1 j _ hv2
      obtain ⟨x, hx⟩ : ∃ x, s - t = x := ⟨_, rfl⟩
      have hxi : (s : Int) - (t : Int) = (x : Int) := by omega
      have hst := fun y hy => join_step (s := s) hP hPl y hy
      rw [HT.out, HTL.out, hx] at hst
      have HST := Lib.hid hst
      have HPL := Lib.hid hPl
      have i0 : (0 : Int) ≤ (j : Int) := by omega
      have i1 : (j : Int) < (m : Int) := by omega
      have x0 : (0 : Int) ≤ (x : Int) := by omega
      clear q1 q2 hP hPl hv2 hst hx Pr Hr
      by_cases hxn : n ≤ x
      · have t1 : (n : Int) ≤ (x : Int) := by omega
        have t2 : ¬ (x : Int) < (n : Int) := by omega
        have hS := hS2
        go_wp2_with (at_builtin; obtain ⟨ti0, hi, hz0, hz1, hz2⟩ := info_parts infoByte; refine wpList_app _ rfl (.tmp 17) (.tmp 26) _ rfl w.heap.size 5 ti0 _ 1 1 Try.underlying24 hi hz0 hz1 hz2 rfl (by decide) _ t (T.map byteV) rfl ho _ n _ (P.map byteV) rfl (Rd.of_sl hS (by rw [List.length_map]; exact HPL.out)) (oneB _) (by unfold maxLen; omega) (by omega) hB.size ?_; intro v' w' ho' hg' hv'; clear hi hz0 hz1 hz2)
        all_goals
          go_roundw
          case rel =>
            have h1 := HST.out n (by omega)
            rw [List.take_of_length_le (by rw [HPL.out]; exact Nat.le_refl _)] at h1
            exact ⟨j + 1, t + n, T ++ P, by omega, by go_num, Lib.hid h1, by rw [List.map_append]; exact ho', hB.grown hg' hB.size (fun g hg => (ho.lt g hg).1)⟩
          case measure => simp [intOf]; omega
      · have t1 : (x : Int) < (n : Int) := by omega
        have t4 : ¬ (n : Int) ≤ (x : Int) := by omega
        have hS : Sl wr wr.heap.size (some ⟨b2, o2, none⟩) ((P.take x).map byteV) := by rw [List.map_take]; exact sl_take hS2 x
        have hPx : (P.take x).length = x := by rw [List.length_take, HPL.out]; omega
        have HPX := Lib.hid hPx
        clear hPx
        go_wp2_with (at_builtin; obtain ⟨ti0, hi, hz0, hz1, hz2⟩ := info_parts infoByte; refine wpList_app _ rfl (.tmp 17) (.tmp 26) _ rfl w.heap.size 5 ti0 _ 1 1 Try.underlying24 hi hz0 hz1 hz2 rfl (by decide) _ t (T.map byteV) rfl ho _ x _ ((P.take x).map byteV) rfl (Rd.of_sl hS (by rw [List.length_map]; exact HPX.out)) (oneB _) (by unfold maxLen; omega) (by omega) hB.size ?_; intro v' w' ho' hg' hv'; clear hi hz0 hz1 hz2)
        all_goals
          go_roundw
          case rel =>
            have h1 := HST.out x (by omega)
            exact ⟨j + 1, t + x, T ++ P.take x, by omega, by go_num, Lib.hid h1, by rw [List.map_append]; exact ho', hB.grown hg' hB.size (fun g hg => (ho.lt g hg).1)⟩
          case measure => simp [intOf]; omega
    · have hjm : j = m := by omega
      subst hjm
      have hTD : T = D := by
        rw [← HT.out, ← HD.out]
        unfold joinT
        rw [show bss.take j = bss from List.take_of_length_le (by rw [HBL.out]; exact Nat.le_refl _)]
      have hFl : t = min s bss.flatten.length := by rw [← HTL.out, hTD, ← HD.out, List.length_take]
      have hok := HOK.out
      subst hTD
      clear hlt
      by_cases hts2 : t < s
      · have t1 : (t : Int) < (s : Int) := by omega
        rw [decide_eq_true (show bss.flatten.length < s by omega)] at hok
        subst hok
        clear hFl hts2
        go_wp2
        go_ret2
        exact ⟨_, rfl, hB, fun h => by simp at h⟩
      · have t1 : ¬ (t : Int) < (s : Int) := by omega
        have hst : t = s := by omega
        rw [decide_eq_false (show ¬ bss.flatten.length < s by omega)] at hok
        subst hok
        clear hFl hts2
        obtain rfl := hst
        go_wp2
        go_ret2
        exact ⟨_, rfl, hB, by first | exact ho | exact fun _ => ho⟩
end Go.Proofs.Ytmhookkfhknljaa
