/- Which names may be. -/
import Derived.Test.YtjclafigbfnemaaDoorNameB
namespace Go.Proofs.YtjclafigbfnemaaDoor
open Go.ChangeShapes Go.WideShapes Go.ChangeAt Go.RowKit
set_option linter.unusedSimpArgs false
set_option linter.unusedVariables false

theorem name_parts {l : List UInt8} {V P S A : Bool} (h1 : 1 ≤ l.length) (h2 : l.length ≤ 20) (hV : validL l = V) (hP : (btL l 0 == 32) = P) (hS : (btL l (l.length - 1) == 32) = S) (hA : allFrom l l.length 0 = A) :
    nameB l = (!P && (!S && (V && A))) := by
  unfold nameB
  rw [decide_eq_true h1, decide_eq_true h2, hP, hS, may_split, hA, show okFrom l l.length 0 = V from hV]
  simp
theorem name_short {l : List UInt8} (h : ¬ (1 ≤ l.length ∧ l.length ≤ 20)) : nameB l = false := by
  cases hq : nameB l
  · rfl
  · have := name_iff.1 hq
    exact absurd ⟨this.1, this.2.1⟩ h
set_option maxRecDepth 100000 in
set_option maxHeartbeats 4000000 in
theorem may_any (s : ByteArray) (B : Bool) (w : World) (hs : s.size ≤ 100000) (hT : Tabs w) (hB : nameB s.data.toList = B) :
    Calls Tryd.prog 10 #[.string s] w fun e w' => e = .returned (.bool B) ∧ Below w.heap.size w w' := by
  have hsz := size_L s
  have HS : Hid (s.size ≤ 100000) := Lib.hid hs
  have HT := Lib.hid hT
  by_cases h1 : s.size < 1
  · rw [name_short (by omega)] at hB
    subst hB
    have q1 : (s.size : Int) < 1 := by omega
    clear hs hT hsz h1
    go_enter Tryd.func10, Tryd.ntmps10
    go_wp2
    go_ret
    exact ⟨rfl, Below.refl _ _⟩
  have q1 : ¬ (s.size : Int) < 1 := by omega
  by_cases h2 : 20 < s.size
  · rw [name_short (by omega)] at hB
    subst hB
    have q2 : (20 : Int) < (s.size : Int) := by omega
    clear hs hT hsz h1 h2
    go_enter Tryd.func10, Tryd.ntmps10
    go_wp2
    go_ret
    exact ⟨rfl, Below.refl _ _⟩
  have q2 : ¬ (20 : Int) < (s.size : Int) := by omega
  obtain ⟨V, hV⟩ : ∃ V, validL s.data.toList = V := ⟨_, rfl⟩
  obtain ⟨P, hP⟩ : ∃ V, (btL s.data.toList 0 == 32) = V := ⟨_, rfl⟩
  obtain ⟨F, hF⟩ : ∃ V, (btL s.data.toList (s.data.toList.length - 1) == 32) = V := ⟨_, rfl⟩
  obtain ⟨A, hA⟩ : ∃ V, allFrom s.data.toList s.data.toList.length 0 = V := ⟨_, rfl⟩
  rw [name_parts (by omega) (by omega) hV hP hF hA] at hB
  rw [← pre_L (by omega)] at hP
  rw [← suf_L (by omega)] at hF
  have HV := Lib.hid hV
  have HP := Lib.hid hP
  have HF := Lib.hid hF
  obtain ⟨L, hL⟩ : ∃ L, s.data.toList = L := ⟨_, rfl⟩
  rw [hL] at hA hsz
  have HL := Lib.hid hL
  have hA0 : allFrom L L.length 0 = A := hA
  clear hV hP hF hL hs hT h1 hA
  cases V
  · have hb : B = false := by rw [← hB]; simp
    subst hb
    clear hB hA0
    go_enter Tryd.func10, Tryd.ntmps10
    go_wp2_with (first
      | (go_at_call 13; refine (valid_any s _ _ HS.out HT.out HV.out).mono ?_; rintro e' w1 ⟨rfl, hb⟩)
      | (go_at_call 17; refine (prefix_any s _ _ HP.out).mono ?_; rintro e' w2 ⟨rfl, rfl⟩)
      | (go_at_call 18; refine (suffix_any s _ _ HS.out HF.out).mono ?_; rintro e' w3 ⟨rfl, rfl⟩))
    go_ret
    exact ⟨rfl, hb⟩
  cases P
  case true =>
    have hb : B = false := by rw [← hB]; simp
    subst hb
    clear hB hA0
    go_enter Tryd.func10, Tryd.ntmps10
    go_wp2_with (first
      | (go_at_call 13; refine (valid_any s _ _ HS.out HT.out HV.out).mono ?_; rintro e' w1 ⟨rfl, hb⟩)
      | (go_at_call 17; refine (prefix_any s _ _ HP.out).mono ?_; rintro e' w2 ⟨rfl, rfl⟩)
      | (go_at_call 18; refine (suffix_any s _ _ HS.out HF.out).mono ?_; rintro e' w3 ⟨rfl, rfl⟩))
    go_ret
    exact ⟨rfl, hb⟩
  cases F
  case true =>
    have hb : B = false := by rw [← hB]; simp
    subst hb
    clear hB hA0
    go_enter Tryd.func10, Tryd.ntmps10
    go_wp2_with (first
      | (go_at_call 13; refine (valid_any s _ _ HS.out HT.out HV.out).mono ?_; rintro e' w1 ⟨rfl, hb⟩)
      | (go_at_call 17; refine (prefix_any s _ _ HP.out).mono ?_; rintro e' w2 ⟨rfl, rfl⟩)
      | (go_at_call 18; refine (suffix_any s _ _ HS.out HF.out).mono ?_; rintro e' w3 ⟨rfl, rfl⟩))
    go_ret
    exact ⟨rfl, hb⟩
  have hb : B = A := by rw [← hB]; simp
  subst hb
  clear hB
  go_enter Tryd.func10, Tryd.ntmps10
  go_wp2_with (first
      | (go_at_call 13; refine (valid_any s _ _ HS.out HT.out HV.out).mono ?_; rintro e' w1 ⟨rfl, hb⟩)
      | (go_at_call 17; refine (prefix_any s _ _ HP.out).mono ?_; rintro e' w2 ⟨rfl, rfl⟩)
      | (go_at_call 18; refine (suffix_any s _ _ HS.out HF.out).mono ?_; rintro e' w3 ⟨rfl, rfl⟩))
  obtain ⟨w0, rfl⟩ : ∃ W : World, W = w1 := ⟨_, rfl⟩
  go_loopw [4] (fun v wr => ∃ p b : Nat, wr = w0.iter s p ∧ Hid (allFrom L b p = B ∧ L.length ≤ p + b)) (fun _ wr => s.size - wr.iterPos w0.heap.size)
  case atStart => exact ⟨0, L.length, rfl, Lib.hid ⟨hA0, by omega⟩⟩
  case round =>
    obtain ⟨p, b, rfl, HI⟩ := hrel
    obtain ⟨i1, i2⟩ := HI.out
    clear hA0
    by_cases hp : p < s.size
    · have hnx : ∀ ty, (Instr.next (.pointer (some ⟨w0.heap.size, 0, none⟩)) true ty).run Tryd.prog (w0.iter s p) = _ := fun ty => run_next_any w0 s p ty hp
      obtain ⟨b', rfl⟩ : ∃ b', b = b' + 1 := ⟨b - 1, by omega⟩
      rw [allFrom, if_pos (by omega)] at i1
      have hd : Utf8.decode s p = decL L p := by rw [decode_L, HL.out]
      have hr := Lib.rune_le s p
      have hw := Lib.width_pos s p
      rw [hd] at hnx hr hw
      obtain ⟨R, N, hrn⟩ : ∃ R N, decL L p = (R, N) := ⟨_, _, rfl⟩
      rw [hrn] at hnx hr hw i1
      simp only [] at hnx hr hw i1
      obtain ⟨m, hm⟩ : ∃ m, mayR R = m := ⟨_, rfl⟩
      rw [hm] at i1
      have HM := Lib.hid hm
      have HR1 : Hid (R ≤ 1114111) := Lib.hid hr
      have HW : Hid (1 ≤ N) := Lib.hid hw
      clear hd hr hw hrn hm
      cases m
      · rw [if_neg (by simp)] at i1
        subst i1
        go_wp2_with (go_at_call 19; refine (mayRune_any R _ _ HR1.out HM.out).mono ?_; rintro e' w4 ⟨rfl, rfl⟩)
        go_ret
        exact ⟨rfl, hb.alloc hb.size _⟩
      · rw [if_pos rfl] at i1
        have HK : Hid (allFrom L b' (p + N) = B ∧ L.length ≤ p + N + b') := Lib.hid ⟨i1, by have := HW.out; omega⟩
        clear i1
        go_wp2_with (go_at_call 19; refine (mayRune_any R _ _ HR1.out HM.out).mono ?_; rintro e' w4 ⟨rfl, rfl⟩)
        go_roundw
        case rel => exact ⟨p + N, b', rfl, HK⟩
        case measure =>
          have := HW.out
          simp
          omega
    · have hnx : ∀ ty, (Instr.next (.pointer (some ⟨w0.heap.size, 0, none⟩)) true ty).run Tryd.prog (w0.iter s p) = _ := fun ty => run_next_end w0 s p ty hp
      have hv : B = true := by
        rw [← i1]
        cases b with
        | zero => rfl
        | succ b => rw [allFrom, if_neg (by omega)]
      subst hv
      clear i1 i2
      go_wp2
      go_ret
      exact ⟨rfl, hb.alloc hb.size _⟩
set_option maxRecDepth 100000 in
set_option maxHeartbeats 4000000 in
theorem rmay_any3 (s : ByteArray) (B : Bool) (w : World) (hs : s.size ≤ 100000) (hB : nameB s.data.toList = B) :
    Calls Tryd.prog 11 #[.string s] w fun e w' => e = .returned (.bool B) ∧ w = w' := by
  have hsz := size_L s
  have HS : Hid (s.size ≤ 100000) := Lib.hid hs
  by_cases h1 : s.size < 1
  · rw [name_short (by omega)] at hB
    subst hB
    have q1 : (s.size : Int) < 1 := by omega
    clear hs hsz h1
    go_enter Tryd.func11, Tryd.ntmps11
    go_wp2
    go_ret
    exact ⟨rfl, rfl⟩
  have q1 : ¬ (s.size : Int) < 1 := by omega
  by_cases h2 : 20 < s.size
  · rw [name_short (by omega)] at hB
    subst hB
    have q2 : (20 : Int) < (s.size : Int) := by omega
    clear hs hsz h1 h2
    go_enter Tryd.func11, Tryd.ntmps11
    go_wp2
    go_ret
    exact ⟨rfl, rfl⟩
  have q2 : ¬ (20 : Int) < (s.size : Int) := by omega
  have a0 : 0 < s.size := by omega
  have a1 : s.size - 1 < s.size := by omega
  obtain ⟨V, hV⟩ : ∃ V, validL s.data.toList = V := ⟨_, rfl⟩
  obtain ⟨P, hP⟩ : ∃ V, (btL s.data.toList 0 == 32) = V := ⟨_, rfl⟩
  obtain ⟨F, hF⟩ : ∃ V, (btL s.data.toList (s.data.toList.length - 1) == 32) = V := ⟨_, rfl⟩
  obtain ⟨A, hA⟩ : ∃ V, mayFrom s.data.toList s.data.toList.length 0 = V := ⟨_, rfl⟩
  have hB2 : (!P && (!F && A)) = B := by
    have := name_parts (by omega) (by omega) hV hP hF rfl
    rw [← hB, this, ← hA, may_split, show okFrom s.data.toList s.data.toList.length 0 = V from hV]
  have at0 : (((s[0]'a0).toNat : Int) == 32) = P := by
    rw [at_L s 0 a0, ← hP, Bool.eq_iff_iff, beq_iff_eq, beq_iff_eq]
    omega
  have at1 : (((s[s.size - 1]'a1).toNat : Int) == 32) = F := by
    rw [at_L s _ a1, ← hF, hsz, Bool.eq_iff_iff, beq_iff_eq, beq_iff_eq]
    omega
  obtain ⟨L, hL⟩ : ∃ L, s.data.toList = L := ⟨_, rfl⟩
  rw [hL] at hA hsz
  have HLS := Lib.hid hL
  have AT0 := Lib.hid at0
  have AT1 := Lib.hid at1
  have HB2 := Lib.hid hB2
  have hA0 : mayFrom L L.length 0 = A := hA
  have HA := Lib.hid hA0
  have HSZ := Lib.hid hsz
  clear hV hP hF hL hs h1 hA hB hB2 at0 at1 hA0 hsz h2
  have z0 : (0 : Int) < (s.size : Int) := by omega
  have z1 : (0 : Int) ≤ (s.size : Int) - 1 := by omega
  go_enter Tryd.func11, Tryd.ntmps11
  go_upto_region 1 with fail
  go_cut [26] (fun v wx => v = .bool (P || F) ∧ wx = w)
  case first =>
    go_wp2
    all_goals (go_meet; refine ⟨?_, rfl⟩; (rw [← AT0.out, ← AT1.out] <;> first | rfl | simp [*]))
  case rest =>
  obtain ⟨rfl, rfl⟩ := hcut
  cases hD : (P || F)
  case true =>
    have hb : B = false := by
      rw [← HB2.out]
      cases P
      · simp only [Bool.false_or] at hD
        rw [hD]
        rfl
      · rfl
    subst hb
    clear hD
    go_wp2
    go_ret
    exact ⟨rfl, rfl⟩
  have hb : A = B := by
    rw [← HB2.out]
    cases P
    · simp only [Bool.false_or] at hD
      rw [hD]
      rfl
    · cases hD
  subst hb
  clear hD HB2
  go_wp2_with fail
  go_loop [3] (fun i => ∃ p b : Nat, i = .int .i64 p ∧ Hid (mayFrom L b p = A ∧ L.length ≤ p + b ∧ p ≤ L.length)) (fun i => s.size - (intOf i).toNat)
  case atStart => exact ⟨0, L.length, rfl, Lib.hid ⟨HA.out, by omega, by omega⟩⟩
  case round =>
    obtain ⟨p, b, rfl, HI⟩ := hrel
    obtain ⟨i2, i3, i5⟩ := HI.out
    have hsz := HSZ.out
    by_cases hlt : p < L.length
    · obtain ⟨b', rfl⟩ : ∃ b', b = b' + 1 := ⟨b - 1, by omega⟩
      have hp2 : p < s.size := by omega
      have j0 : (p : Int) < (s.size : Int) := by omega
      rw [mayFrom, if_pos hlt] at i2
      obtain ⟨R, N, hrn⟩ : ∃ R N, r1L L p = (R, N) := ⟨_, _, rfl⟩
      have HRN : Hid (r1L s.data.toList p = (R, N)) := Lib.hid (by rw [HLS.out]; exact hrn)
      unfold r1L at hrn
      by_cases hb : badL L p = true
      · rw [if_pos hb] at hrn i2
        simp only [Prod.mk.injEq] at hrn
        obtain ⟨rfl, rfl⟩ := hrn
        subst i2
        clear i3 i5 hb hlt hsz HA
        go_wp2_with (go_at_call 16; refine (rune1_any s p _ _ _ hp2 HS.out HRN.out).mono ?_; rintro e' w1 ⟨rfl, rfl⟩)
        go_ret
        exact ⟨rfl, rfl⟩
      · rw [if_neg hb] at hrn i2
        have hb' : badL L p = false := by simpa using hb
        have hw := runed_w (good_of hb') (by omega)
        rw [hrn] at hw i2
        simp only [] at hw i2
        have n0 : ((N : Int) == 0) = false := by simp; omega
        have k1 : p + N ≤ 100000 := by have := HS.out; omega
        have k3 : 1 ≤ N := hw.1
        have hle : p + N ≤ L.length := by omega
        clear i5 hb hb' hw hrn HA
        by_cases hm : mayR R = true
        · rw [if_pos hm] at i2
          have HK : Hid (mayFrom L b' (p + N) = A ∧ L.length ≤ p + N + b' ∧ p + N ≤ L.length) := Lib.hid ⟨i2, by omega, hle⟩
          have hr : (32 ≤ R ∧ R < 127 ∧ R ≠ 47) ∨ (32 ≤ R ∧ 160 ≤ R ∧ R ≠ 47) := by
            unfold mayR at hm
            simp only [Bool.and_eq_true, Bool.not_eq_true', Bool.or_eq_false_iff, Bool.and_eq_false_iff, decide_eq_false_iff_not, beq_eq_false_iff_ne] at hm
            omega
          clear i2 i3 hm hlt hsz hle
          rcases hr with ⟨r1, r2, r3⟩ | ⟨r1, r2, r3⟩
          · have t1 : ¬ (R : Int) < 32 := by omega
            have t2 : ¬ (127 : Int) ≤ (R : Int) := by omega
            have t3 : ((R : Int) == 47) = false := by simp; omega
            clear r1 r2 r3
            go_wp2_with (go_at_call 16; refine (rune1_any s p _ _ _ hp2 HS.out HRN.out).mono ?_; rintro e' w1 ⟨rfl, rfl⟩)
            go_round
            case rel => exact ⟨p + N, b', by go_num, HK⟩
            case measure => simp [intOf]; omega
          · have t1 : ¬ (R : Int) < 32 := by omega
            have t2 : (127 : Int) ≤ (R : Int) := by omega
            have t4 : ¬ (R : Int) < 160 := by omega
            have t3 : ((R : Int) == 47) = false := by simp; omega
            clear r1 r2 r3
            go_wp2_with (go_at_call 16; refine (rune1_any s p _ _ _ hp2 HS.out HRN.out).mono ?_; rintro e' w1 ⟨rfl, rfl⟩)
            go_round
            case rel => exact ⟨p + N, b', by go_num, HK⟩
            case measure => simp [intOf]; omega
        · rw [if_neg hm] at i2
          subst i2
          have hr : R < 32 ∨ (32 ≤ R ∧ R < 127 ∧ R = 47) ∨ (127 ≤ R ∧ R < 160) := by
            unfold mayR at hm
            simp only [Bool.and_eq_true, Bool.not_eq_true', Bool.or_eq_false_iff, Bool.and_eq_false_iff, decide_eq_false_iff_not, beq_eq_false_iff_ne] at hm
            omega
          clear i3 hm hlt hsz hle
          rcases hr with r1 | ⟨r1, r2, rfl⟩ | ⟨r1, r2⟩
          · have t1 : (R : Int) < 32 := by omega
            clear r1
            go_wp2_with (go_at_call 16; refine (rune1_any s p _ _ _ hp2 HS.out HRN.out).mono ?_; rintro e' w1 ⟨rfl, rfl⟩)
            go_ret
            exact ⟨rfl, rfl⟩
          · clear r1 r2
            go_wp2_with (go_at_call 16; refine (rune1_any s p _ _ _ hp2 HS.out HRN.out).mono ?_; rintro e' w1 ⟨rfl, rfl⟩)
            go_ret
            exact ⟨rfl, rfl⟩
          · have t1 : ¬ (R : Int) < 32 := by omega
            have t2 : (127 : Int) ≤ (R : Int) := by omega
            have t4 : (R : Int) < 160 := by omega
            clear r1 r2
            go_wp2_with (go_at_call 16; refine (rune1_any s p _ _ _ hp2 HS.out HRN.out).mono ?_; rintro e' w1 ⟨rfl, rfl⟩)
            go_ret
            exact ⟨rfl, rfl⟩
    · have j0 : ¬ (p : Int) < (s.size : Int) := by omega
      have hv : A = true := by
        rw [← i2]
        cases b with
        | zero => rfl
        | succ b => rw [mayFrom, if_neg hlt]
      subst hv
      clear i2 i3 i5 hlt hsz
      go_wp2
      go_ret
      exact ⟨rfl, rfl⟩
end Go.Proofs.YtjclafigbfnemaaDoor
