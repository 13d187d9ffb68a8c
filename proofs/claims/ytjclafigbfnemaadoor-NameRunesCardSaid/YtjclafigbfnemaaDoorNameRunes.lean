/- NameRunes: the walk. -/
import Derived.Test.YtjclafigbfnemaaDoorNameAw
namespace Go.Proofs.YtjclafigbfnemaaDoor
open Go.ChangeShapes Go.WideShapes Go.ChangeAt Go.RowKit
set_option linter.unusedSimpArgs false
set_option linter.unusedVariables false
set_option maxRecDepth 100000 in
set_option maxHeartbeats 4000000 in
theorem nrunes_walk (a : ByteArray) (w : World) (hT : Tabs w) :
    Calls Tryd.prog 4 #[.string a] w fun e w' => e = .returned (.bool true) ∧ Below w.heap.size w w' := by
  have HT := Lib.hid hT
  have HB : Below w.heap.size w w := Below.refl _ _
  clear hT
  by_cases ha : 200 < a.size
  · have ga : (200 : Int) < (a.size : Int) := by omega
    clear ha
    go_enter Tryd.func4, Tryd.ntmps4
    go_wp2_with (go_at_call 7; ((with_reducible refine (awake_any _ HT.out).mono ?_); rintro e' wN ⟨rfl, hb⟩; have HT := Lib.hid (HT.out.next hb); have HB := btr HB HB.size hb; clear hb))
    go_ret
    exact ⟨rfl, HB⟩
  have ga : ¬ (200 : Int) < (a.size : Int) := by omega
  have HS : Hid (a.size ≤ 100000) := Lib.hid (by omega)
  have hsz := size_L a
  obtain ⟨V, hV⟩ : ∃ V, validL a.data.toList = V := ⟨_, rfl⟩
  obtain ⟨n, hn⟩ : ∃ n, runesN a.data.toList = n := ⟨_, rfl⟩
  obtain ⟨k, hk⟩ : ∃ n, cntL a.data.toList = n := ⟨_, rfl⟩
  obtain ⟨M, hM⟩ : ∃ V, nameB a.data.toList = V := ⟨_, rfl⟩
  have HV := Lib.hid hV
  have HN := Lib.hid hn
  have HM := Lib.hid hM
  have HK := Lib.hid hk
  have hnk : n = if V = true then k else 0 := by rw [← hn, ← hV, ← hk]; rfl
  have hm : M = true → V = true ∧ 1 ≤ k ∧ k ≤ a.size ∧ a.size ≤ 20 := fun h => by
    rw [h] at hM
    obtain ⟨m1, m2, _, _, m5⟩ := name_iff.1 hM
    rw [may_split, Bool.and_eq_true] at m5
    have c1 := cnt_pos m1
    have c2 := cnt_le a.data.toList a.data.toList.length 0
    rw [show cntFrom a.data.toList a.data.toList.length 0 = k from hk] at c2
    rw [hk] at c1
    exact ⟨by rw [← hV]; exact m5.1, c1, by omega, by omega⟩
  clear hV hn hM hk ha hsz
  cases V
  · have hm0 : M = false := by
      cases M
      · rfl
      · have := (hm rfl).1
        cases this
    subst hm0
    rw [if_neg (by simp)] at hnk
    subst hnk
    clear hm
    go_enter Tryd.func4, Tryd.ntmps4
    go_wp2_with (first
      | (go_at_call 8; ((with_reducible refine (runes_any a _ _ _ HS.out HT.out HV.out HN.out).mono ?_); rintro e' wN ⟨rfl, hb⟩; have HT := Lib.hid (HT.out.next hb); have HB := btr HB HB.size hb; clear hb))
      | (go_at_call 13; ((with_reducible refine (valid_any a _ _ HS.out HT.out HV.out).mono ?_); rintro e' wN ⟨rfl, hb⟩; have HT := Lib.hid (HT.out.next hb); have HB := btr HB HB.size hb; clear hb))
      | (go_at_call 14; ((with_reducible refine (count_any a _ _ HS.out HK.out).mono ?_); rintro e' wN ⟨rfl, hb⟩; have HT := Lib.hid (HT.out.next hb); have HB := btr HB HB.size hb; clear hb))
      | (go_at_call 10; ((with_reducible refine (may_any a _ _ HS.out HT.out HM.out).mono ?_); rintro e' wN ⟨rfl, hb⟩; have HT := Lib.hid (HT.out.next hb); have HB := btr HB HB.size hb; clear hb))
      | (go_at_call 7; ((with_reducible refine (awake_any _ HT.out).mono ?_); rintro e' wN ⟨rfl, hb⟩; have HT := Lib.hid (HT.out.next hb); have HB := btr HB HB.size hb; clear hb)))
    go_ret
    exact ⟨rfl, HB⟩
  · rw [if_pos rfl] at hnk
    subst hnk
    cases M
    · clear hm
      go_enter Tryd.func4, Tryd.ntmps4
      go_wp2_with (first
      | (go_at_call 8; ((with_reducible refine (runes_any a _ _ _ HS.out HT.out HV.out HN.out).mono ?_); rintro e' wN ⟨rfl, hb⟩; have HT := Lib.hid (HT.out.next hb); have HB := btr HB HB.size hb; clear hb))
      | (go_at_call 13; ((with_reducible refine (valid_any a _ _ HS.out HT.out HV.out).mono ?_); rintro e' wN ⟨rfl, hb⟩; have HT := Lib.hid (HT.out.next hb); have HB := btr HB HB.size hb; clear hb))
      | (go_at_call 14; ((with_reducible refine (count_any a _ _ HS.out HK.out).mono ?_); rintro e' wN ⟨rfl, hb⟩; have HT := Lib.hid (HT.out.next hb); have HB := btr HB HB.size hb; clear hb))
      | (go_at_call 10; ((with_reducible refine (may_any a _ _ HS.out HT.out HM.out).mono ?_); rintro e' wN ⟨rfl, hb⟩; have HT := Lib.hid (HT.out.next hb); have HB := btr HB HB.size hb; clear hb))
      | (go_at_call 7; ((with_reducible refine (awake_any _ HT.out).mono ?_); rintro e' wN ⟨rfl, hb⟩; have HT := Lib.hid (HT.out.next hb); have HB := btr HB HB.size hb; clear hb)))
      go_ret
      exact ⟨rfl, HB⟩
    · obtain ⟨_, m1, m2, m3⟩ := hm rfl
      have q1 : (1 : Int) ≤ (n : Int) := by omega
      have q2 : (n : Int) ≤ (a.size : Int) := by omega
      have q3 : (a.size : Int) ≤ 20 := by omega
      clear hm m1 m2 m3
      go_enter Tryd.func4, Tryd.ntmps4
      go_wp2_with (first
      | (go_at_call 8; ((with_reducible refine (runes_any a _ _ _ HS.out HT.out HV.out HN.out).mono ?_); rintro e' wN ⟨rfl, hb⟩; have HT := Lib.hid (HT.out.next hb); have HB := btr HB HB.size hb; clear hb))
      | (go_at_call 13; ((with_reducible refine (valid_any a _ _ HS.out HT.out HV.out).mono ?_); rintro e' wN ⟨rfl, hb⟩; have HT := Lib.hid (HT.out.next hb); have HB := btr HB HB.size hb; clear hb))
      | (go_at_call 14; ((with_reducible refine (count_any a _ _ HS.out HK.out).mono ?_); rintro e' wN ⟨rfl, hb⟩; have HT := Lib.hid (HT.out.next hb); have HB := btr HB HB.size hb; clear hb))
      | (go_at_call 10; ((with_reducible refine (may_any a _ _ HS.out HT.out HM.out).mono ?_); rintro e' wN ⟨rfl, hb⟩; have HT := Lib.hid (HT.out.next hb); have HB := btr HB HB.size hb; clear hb))
      | (go_at_call 7; ((with_reducible refine (awake_any _ HT.out).mono ?_); rintro e' wN ⟨rfl, hb⟩; have HT := Lib.hid (HT.out.next hb); have HB := btr HB HB.size hb; clear hb)))
      go_ret
      exact ⟨rfl, HB⟩
end Go.Proofs.YtjclafigbfnemaaDoor
