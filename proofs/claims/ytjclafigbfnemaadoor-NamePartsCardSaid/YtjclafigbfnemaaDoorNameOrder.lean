/- NameOrder: the walk. -/
import Derived.Test.YtjclafigbfnemaaDoorNameAw
namespace Go.Proofs.YtjclafigbfnemaaDoor
open Go.ChangeShapes Go.WideShapes Go.ChangeAt Go.RowKit
set_option linter.unusedSimpArgs false
set_option linter.unusedVariables false

theorem less_irrefl : ∀ x : List UInt8, Op.bytesLess x x = false
  | [] => rfl
  | a :: x => by
    have := less_irrefl x
    simp [Op.bytesLess, this, UInt8.lt_irrefl]
theorem less_asymm : ∀ x y : List UInt8, Op.bytesLess x y = true → Op.bytesLess y x = false
  | _, [], h => by simp [Op.bytesLess] at h
  | [], _ :: _, _ => rfl
  | a :: x, b :: y, h => by
    simp only [Op.bytesLess, Bool.or_eq_true, Bool.and_eq_true, decide_eq_true_eq, beq_iff_eq, Bool.or_eq_false_iff, Bool.and_eq_false_iff, decide_eq_false_iff_not, beq_eq_false_iff_ne] at h ⊢
    rcases h with h | ⟨rfl, h⟩
    · exact ⟨UInt8.lt_asymm h, Or.inl (UInt8.ne_of_lt h).symm⟩
    · exact ⟨UInt8.lt_irrefl _, Or.inr (less_asymm x y h)⟩
theorem less_tri : ∀ x y : List UInt8, Op.bytesLess x y = false → Op.bytesLess y x = false → x = y
  | [], [], _, _ => rfl
  | [], _ :: _, h, _ => by simp [Op.bytesLess] at h
  | _ :: _, [], _, h => by simp [Op.bytesLess] at h
  | a :: x, b :: y, h, k => by
    simp only [Op.bytesLess, Bool.or_eq_false_iff, Bool.and_eq_false_iff, decide_eq_false_iff_not, beq_eq_false_iff_ne] at h k
    have e : a = b := UInt8.le_antisymm (UInt8.not_lt.1 k.1) (UInt8.not_lt.1 h.1)
    subst e
    have h2 := h.2.resolve_left (fun h' => h' rfl)
    have k2 := k.2.resolve_left (fun h' => h' rfl)
    rw [less_tri x y h2 k2]
theorem less_trans : ∀ x y z : List UInt8, Op.bytesLess x y = true → Op.bytesLess y z = true → Op.bytesLess x z = true
  | _, [], _, h, _ => by simp [Op.bytesLess] at h
  | _, _ :: _, [], _, h => by simp [Op.bytesLess] at h
  | [], _ :: _, _ :: _, _, _ => rfl
  | a :: x, b :: y, c :: z, h, k => by
    simp only [Op.bytesLess, Bool.or_eq_true, Bool.and_eq_true, decide_eq_true_eq, beq_iff_eq] at h k ⊢
    rcases h with h | ⟨rfl, h⟩
    · rcases k with k | ⟨rfl, k⟩
      · exact Or.inl (UInt8.lt_trans h k)
      · exact Or.inl h
    · rcases k with k | ⟨rfl, k⟩
      · exact Or.inl k
      · exact Or.inr ⟨rfl, less_trans x y z h k⟩
theorem less_prefix : ∀ (x : List UInt8) (c : Nat), c < x.length → Op.bytesLess (x.take c) x = true
  | [], c, h => by simp at h
  | a :: x, 0, _ => rfl
  | a :: x, c + 1, h => by
    have := less_prefix x c (by simpa using h)
    simp [Op.bytesLess, this]

theorem ext_L (a : ByteArray) (i j : Nat) : (a.extract i j).data.toList = (a.data.toList.drop i).take (j - i) := by
  rw [ByteArray.data_extract, Array.toList_extract, List.extract_eq_take_drop]
set_option maxRecDepth 100000 in
set_option maxHeartbeats 4000000 in
theorem order_walk (a b c : ByteArray) (cut : Int) (w : World) (hct : i64in cut) (hT : Tabs w) :
    Calls Tryd.prog 6 #[.string a, .string b, .string c, .int .i64 cut] w fun e w' => e = .returned (.bool true) ∧ Below w.heap.size w w' := by
  have HT := Lib.hid hT
  have HB : Below w.heap.size w w := Below.refl _ _
  clear hT
  by_cases ha : 200 < a.size
  · have ga : (200 : Int) < (a.size : Int) := by omega
    clear ha
    go_enter Tryd.func6, Tryd.ntmps6
    go_wp2_with (go_at_call 7; ((with_reducible refine (awake_any _ HT.out).mono ?_); rintro e' wN ⟨rfl, hb⟩; have HT := Lib.hid (HT.out.next hb); have HB := btr HB HB.size hb; clear hb))
    go_ret
    exact ⟨rfl, HB⟩
  have ga : ¬ (200 : Int) < (a.size : Int) := by omega
  by_cases hb : 200 < b.size
  · have gb : (200 : Int) < (b.size : Int) := by omega
    clear hb
    go_enter Tryd.func6, Tryd.ntmps6
    go_wp2_with (go_at_call 7; ((with_reducible refine (awake_any _ HT.out).mono ?_); rintro e' wN ⟨rfl, hb⟩; have HT := Lib.hid (HT.out.next hb); have HB := btr HB HB.size hb; clear hb))
    go_ret
    exact ⟨rfl, HB⟩
  have gb : ¬ (200 : Int) < (b.size : Int) := by omega
  by_cases hc : 200 < c.size
  · have gc : (200 : Int) < (c.size : Int) := by omega
    clear hc
    go_enter Tryd.func6, Tryd.ntmps6
    go_wp2_with (go_at_call 7; ((with_reducible refine (awake_any _ HT.out).mono ?_); rintro e' wN ⟨rfl, hb⟩; have HT := Lib.hid (HT.out.next hb); have HB := btr HB HB.size hb; clear hb))
    go_ret
    exact ⟨rfl, HB⟩
  have gc : ¬ (200 : Int) < (c.size : Int) := by omega
  have HS : Hid (a.size ≤ 100000) := Lib.hid (by omega)
  obtain ⟨X, hX⟩ : ∃ V, Op.bytesLess a.toList b.toList = V := ⟨_, rfl⟩
  obtain ⟨Y, hY⟩ : ∃ V, Op.bytesLess b.toList a.toList = V := ⟨_, rfl⟩
  obtain ⟨C1, hC1⟩ : ∃ V, Op.bytesLess b.toList c.toList = V := ⟨_, rfl⟩
  obtain ⟨C2, hC2⟩ : ∃ V, Op.bytesLess a.toList c.toList = V := ⟨_, rfl⟩
  have hAA := less_irrefl a.toList
  have hXY : X = true → Y = false := fun h => by rw [← hY]; exact less_asymm _ _ (by rw [hX, h])
  have hE : (a.toList == b.toList) = (!X && !Y) := by
    rw [Bool.eq_iff_iff, beq_iff_eq, Bool.and_eq_true, Bool.not_eq_true', Bool.not_eq_true']
    constructor
    · intro h
      rw [← hX, ← hY, h]
      exact ⟨less_irrefl _, less_irrefl _⟩
    · rintro ⟨rfl, rfl⟩
      exact less_tri _ _ hX hY
  have hCC : X = true → C1 = true → C2 = true := fun h1 h2 => by rw [← hC2]; exact less_trans _ _ _ (by rw [hX, h1]) (by rw [hC1, h2])
  have HX := Lib.hid hX
  have HY := Lib.hid hY
  have HC1 := Lib.hid hC1
  have HC2 := Lib.hid hC2
  have HAA := Lib.hid hAA
  clear hX hY hC1 hC2 hAA ha hb hc
  go_enter Tryd.func6, Tryd.ntmps6
  go_upto_region 4 with (first
      | (go_at_call 12; ((with_reducible refine (less_any a b _ _ HX.out).mono ?_); rintro e' wN ⟨rfl, rfl⟩))
      | (go_at_call 12; ((with_reducible refine (less_any b a _ _ HY.out).mono ?_); rintro e' wN ⟨rfl, rfl⟩))
      | (go_at_call 12; ((with_reducible refine (less_any b c _ _ HC1.out).mono ?_); rintro e' wN ⟨rfl, rfl⟩))
      | (go_at_call 12; ((with_reducible refine (less_any a c _ _ HC2.out).mono ?_); rintro e' wN ⟨rfl, rfl⟩))
      | (go_at_call 12; ((with_reducible refine (less_any a a _ _ HAA.out).mono ?_); rintro e' wN ⟨rfl, rfl⟩)))
  go_cut [67] (fun v wx => v = .bool false ∧ wx = w)
  case first =>
    have HCC := Lib.hid hCC
    have HXY := Lib.hid hXY
    clear hCC hXY
    cases X
    · simp only [Bool.not_false, Bool.true_and] at hE
      cases Y
      · simp only [Bool.not_false] at hE
        go_wp2_with (first
      | (go_at_call 12; ((with_reducible refine (less_any a b _ _ HX.out).mono ?_); rintro e' wN ⟨rfl, rfl⟩))
      | (go_at_call 12; ((with_reducible refine (less_any b a _ _ HY.out).mono ?_); rintro e' wN ⟨rfl, rfl⟩))
      | (go_at_call 12; ((with_reducible refine (less_any b c _ _ HC1.out).mono ?_); rintro e' wN ⟨rfl, rfl⟩))
      | (go_at_call 12; ((with_reducible refine (less_any a c _ _ HC2.out).mono ?_); rintro e' wN ⟨rfl, rfl⟩))
      | (go_at_call 12; ((with_reducible refine (less_any a a _ _ HAA.out).mono ?_); rintro e' wN ⟨rfl, rfl⟩)))
        go_meet
        exact ⟨rfl, rfl⟩
      · simp only [Bool.not_true] at hE
        go_wp2_with (first
      | (go_at_call 12; ((with_reducible refine (less_any a b _ _ HX.out).mono ?_); rintro e' wN ⟨rfl, rfl⟩))
      | (go_at_call 12; ((with_reducible refine (less_any b a _ _ HY.out).mono ?_); rintro e' wN ⟨rfl, rfl⟩))
      | (go_at_call 12; ((with_reducible refine (less_any b c _ _ HC1.out).mono ?_); rintro e' wN ⟨rfl, rfl⟩))
      | (go_at_call 12; ((with_reducible refine (less_any a c _ _ HC2.out).mono ?_); rintro e' wN ⟨rfl, rfl⟩))
      | (go_at_call 12; ((with_reducible refine (less_any a a _ _ HAA.out).mono ?_); rintro e' wN ⟨rfl, rfl⟩)))
        go_meet
        exact ⟨rfl, rfl⟩
    · have hy := HXY.out rfl
      subst hy
      simp only [Bool.not_true, Bool.false_and] at hE
      cases C1
      · go_wp2_with (first
      | (go_at_call 12; ((with_reducible refine (less_any a b _ _ HX.out).mono ?_); rintro e' wN ⟨rfl, rfl⟩))
      | (go_at_call 12; ((with_reducible refine (less_any b a _ _ HY.out).mono ?_); rintro e' wN ⟨rfl, rfl⟩))
      | (go_at_call 12; ((with_reducible refine (less_any b c _ _ HC1.out).mono ?_); rintro e' wN ⟨rfl, rfl⟩))
      | (go_at_call 12; ((with_reducible refine (less_any a c _ _ HC2.out).mono ?_); rintro e' wN ⟨rfl, rfl⟩))
      | (go_at_call 12; ((with_reducible refine (less_any a a _ _ HAA.out).mono ?_); rintro e' wN ⟨rfl, rfl⟩)))
        go_meet
        exact ⟨rfl, rfl⟩
      · have hc := HCC.out rfl rfl
        subst hc
        go_wp2_with (first
      | (go_at_call 12; ((with_reducible refine (less_any a b _ _ HX.out).mono ?_); rintro e' wN ⟨rfl, rfl⟩))
      | (go_at_call 12; ((with_reducible refine (less_any b a _ _ HY.out).mono ?_); rintro e' wN ⟨rfl, rfl⟩))
      | (go_at_call 12; ((with_reducible refine (less_any b c _ _ HC1.out).mono ?_); rintro e' wN ⟨rfl, rfl⟩))
      | (go_at_call 12; ((with_reducible refine (less_any a c _ _ HC2.out).mono ?_); rintro e' wN ⟨rfl, rfl⟩))
      | (go_at_call 12; ((with_reducible refine (less_any a a _ _ HAA.out).mono ?_); rintro e' wN ⟨rfl, rfl⟩)))
        go_meet
        exact ⟨rfl, rfl⟩
  case rest =>
  clear hE hXY hCC
  obtain ⟨rfl, rfl⟩ := hcut
  obtain ⟨w0, rfl⟩ : ∃ W : World, W = wc := ⟨_, rfl⟩
  by_cases h0 : a.size = 0
  · have hem : a.toList.isEmpty = true := by
      rw [ByteArray.toList_eq, List.isEmpty_iff]
      exact List.eq_nil_of_length_eq_zero (by rw [← size_L]; exact h0)
    clear h0
    go_wp2_with (go_at_call 7; ((with_reducible refine (awake_any _ HT.out).mono ?_); rintro e' wN ⟨rfl, hb⟩; have HT := Lib.hid (HT.out.next hb); have HB := btr HB HB.size hb; clear hb))
    go_ret
    exact ⟨rfl, HB⟩
  have hem : a.toList.isEmpty = false := by
    rw [ByteArray.toList_eq, List.isEmpty_eq_false_iff]
    intro h
    rw [size_L, h] at h0
    exact h0 rfl
  have k1 : (1 : Int) ≤ (a.size : Int) := by omega
  obtain ⟨k, hk, hk2⟩ : ∃ k : Nat, lowI cut (a.size : Int) = (k : Int) ∧ k < a.size := by
    have := lowI_bd cut (a.size : Int) k1
    exact ⟨(lowI cut (a.size : Int)).toNat, by omega, by omega⟩
  have HK := Lib.hid hk
  have hlw := low_wrap cut (a.size : Int) k1 (by omega)
  have HLW := Lib.hid hlw
  clear hk hlw
  go_upto_region 8 with fail
  go_cut [3] (fun v wx => v = .int .i64 (k : Nat) ∧ wx = w0)
  case first =>
    go_wp2
    go_meet
    exact ⟨congrArg (Value.int .i64) (HLW.out.trans HK.out), rfl⟩
  case rest =>
  obtain ⟨rfl, rfl⟩ := hcut
  have i0 : (0 : Int) ≤ (k : Int) := by omega
  have i1 : (k : Int) ≤ (a.size : Int) := by omega
  have hel : (a.extract 0 k).data.toList = a.data.toList.take k := by rw [ext_L]; simp
  have hes : (a.extract 0 k).size = k := by rw [size_L, hel, List.length_take, ← size_L]; omega
  have HES : Hid ((a.extract 0 k).size ≤ 100000) := Lib.hid (by omega)
  have hls : Op.bytesLess (a.extract 0 k).toList a.toList = true := by
    rw [ByteArray.toList_eq, ByteArray.toList_eq, hel]
    exact less_prefix _ _ (by rw [← size_L]; exact hk2)
  have HLS := Lib.hid hls
  obtain ⟨V1, hV1⟩ : ∃ V, validL (a.extract 0 k).data.toList = V := ⟨_, rfl⟩
  obtain ⟨n1, hn1⟩ : ∃ n, runesN (a.extract 0 k).data.toList = n := ⟨_, rfl⟩
  obtain ⟨V2, hV2⟩ : ∃ V, validL a.data.toList = V := ⟨_, rfl⟩
  obtain ⟨n2, hn2⟩ : ∃ n, runesN a.data.toList = n := ⟨_, rfl⟩
  have hle : V1 = true → V2 = true → n1 ≤ n2 := fun h1 h2 => by
    rw [← hn1, ← hn2]
    unfold runesN
    rw [hV1, h1, hV2, h2, if_pos rfl, if_pos rfl, hel]
    exact cnt_less (by rw [← size_L]; omega) (by rw [← hel, hV1, h1])
  have HV1 := Lib.hid hV1
  have HN1 := Lib.hid hn1
  have HV2 := Lib.hid hV2
  have HN2 := Lib.hid hn2
  clear hel hes hls hV1 hn1 hV2 hn2 hem h0 hk2
  cases V1
  · clear hle
    go_wp2_with (first
    | (go_at_call 8; ((with_reducible refine (runes_any (a.extract 0 k) _ _ _ HES.out HT.out HV1.out HN1.out).mono ?_); rintro e' wN ⟨rfl, hb⟩; have HT := Lib.hid (HT.out.next hb); have HB := btr HB HB.size hb; clear hb))
    | (go_at_call 8; ((with_reducible refine (runes_any a _ _ _ HS.out HT.out HV2.out HN2.out).mono ?_); rintro e' wN ⟨rfl, hb⟩; have HT := Lib.hid (HT.out.next hb); have HB := btr HB HB.size hb; clear hb))
    | (go_at_call 12; ((with_reducible refine (less_any (a.extract 0 k) a _ _ HLS.out).mono ?_); rintro e' wN ⟨rfl, rfl⟩))
    | (go_at_call 7; ((with_reducible refine (awake_any _ HT.out).mono ?_); rintro e' wN ⟨rfl, hb⟩; have HT := Lib.hid (HT.out.next hb); have HB := btr HB HB.size hb; clear hb)))
    go_ret
    exact ⟨rfl, HB⟩
  cases V2
  · clear hle
    go_wp2_with (first
    | (go_at_call 8; ((with_reducible refine (runes_any (a.extract 0 k) _ _ _ HES.out HT.out HV1.out HN1.out).mono ?_); rintro e' wN ⟨rfl, hb⟩; have HT := Lib.hid (HT.out.next hb); have HB := btr HB HB.size hb; clear hb))
    | (go_at_call 8; ((with_reducible refine (runes_any a _ _ _ HS.out HT.out HV2.out HN2.out).mono ?_); rintro e' wN ⟨rfl, hb⟩; have HT := Lib.hid (HT.out.next hb); have HB := btr HB HB.size hb; clear hb))
    | (go_at_call 12; ((with_reducible refine (less_any (a.extract 0 k) a _ _ HLS.out).mono ?_); rintro e' wN ⟨rfl, rfl⟩))
    | (go_at_call 7; ((with_reducible refine (awake_any _ HT.out).mono ?_); rintro e' wN ⟨rfl, hb⟩; have HT := Lib.hid (HT.out.next hb); have HB := btr HB HB.size hb; clear hb)))
    go_ret
    exact ⟨rfl, HB⟩
  have q1 : (n1 : Int) ≤ (n2 : Int) := by have := hle rfl rfl; omega
  clear hle
  go_wp2_with (first
    | (go_at_call 8; ((with_reducible refine (runes_any (a.extract 0 k) _ _ _ HES.out HT.out HV1.out HN1.out).mono ?_); rintro e' wN ⟨rfl, hb⟩; have HT := Lib.hid (HT.out.next hb); have HB := btr HB HB.size hb; clear hb))
    | (go_at_call 8; ((with_reducible refine (runes_any a _ _ _ HS.out HT.out HV2.out HN2.out).mono ?_); rintro e' wN ⟨rfl, hb⟩; have HT := Lib.hid (HT.out.next hb); have HB := btr HB HB.size hb; clear hb))
    | (go_at_call 12; ((with_reducible refine (less_any (a.extract 0 k) a _ _ HLS.out).mono ?_); rintro e' wN ⟨rfl, rfl⟩))
    | (go_at_call 7; ((with_reducible refine (awake_any _ HT.out).mono ?_); rintro e' wN ⟨rfl, hb⟩; have HT := Lib.hid (HT.out.next hb); have HB := btr HB HB.size hb; clear hb)))
  go_ret
  exact ⟨rfl, HB⟩
end Go.Proofs.YtjclafigbfnemaaDoor
