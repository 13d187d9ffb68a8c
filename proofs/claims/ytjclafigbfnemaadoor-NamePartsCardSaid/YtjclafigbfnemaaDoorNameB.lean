/- What names' functions answer, by contracts. -/
import Derived.Test.YtjclafigbfnemaaDoorNameR
import Derived.Test.YtjclafigbfnemaaDoorShelf
import Derived.Test.YtjclafigbfnemaaDoorSl
import Derived.Shelf.Unicode.DecodeSlow
namespace Go.Proofs.YtjclafigbfnemaaDoor
open Go.ChangeShapes Go.WideShapes Go.ChangeAt Go.RowKit
set_option linter.unusedSimpArgs false
set_option linter.unusedVariables false

def Tabs (w : World) : Prop := Lib.Utf8Tabs (Tryd.laysValid_ren.g 3) (Tryd.laysValid_ren.g 4) w
theorem Tabs.next {w w' : World} (h : Tabs w) (hb : Below w.heap.size w w') : Tabs w' := Utf8Tabs_below h hb
theorem valid_any (s : ByteArray) (V : Bool) (w : World) (hs : s.size ≤ 100000) (hT : Tabs w) (hV : validL s.data.toList = V) :
    Calls Tryd.prog 13 #[.string s] w fun e w' => e = .returned (.bool V) ∧ Below w.heap.size w w' := by
  have c : Calls Tryd.prog 13 #[.string s] w _ := Any.utf8_ValidString Tryd.laysValid s w (by omega) hT
  exact c.mono fun e w' h => ⟨by rw [h.1, valid_L, hV], h.2⟩
theorem count_any (s : ByteArray) (n : Nat) (w : World) (hs : s.size ≤ 100000) (hn : cntL s.data.toList = n) :
    Calls Tryd.prog 14 #[.string s] w fun e w' => e = .returned (.int .i64 n) ∧ Below w.heap.size w w' := by
  have c : Calls Tryd.prog 14 #[.string s] w _ := Any.utf8_RuneCountInString Tryd.laysCount s w (by omega)
  exact c.mono fun e w' h => ⟨by rw [h.1, cnt_L, hn], by obtain ⟨p, rfl⟩ := h.2; exact (Below.refl _ _).alloc (Nat.le_refl _) _⟩
theorem prefix_any (s : ByteArray) (B : Bool) (w : World) (hB : Lib.hasPrefix s.data.toList [32] = B) :
    Calls Tryd.prog 17 #[.string s, .string ⟨#[32]⟩] w fun e w' => e = .returned (.bool B) ∧ w = w' := by
  have c : Calls Tryd.prog 17 #[.string s, .string ⟨#[32]⟩] w _ := Any.strings_HasPrefix Tryd.laysPrefix s ⟨#[32]⟩ w
  exact c.mono fun e w' h => ⟨by rw [h.1, ← hB], h.2.symm⟩
theorem suffix_any (s : ByteArray) (B : Bool) (w : World) (hs : s.size ≤ 100000) (hB : Lib.hasSuffix s.data.toList [32] = B) :
    Calls Tryd.prog 18 #[.string s, .string ⟨#[32]⟩] w fun e w' => e = .returned (.bool B) ∧ w = w' := by
  have c : Calls Tryd.prog 18 #[.string s, .string ⟨#[32]⟩] w _ := Any.strings_HasSuffix Tryd.laysSuffix s ⟨#[32]⟩ w (by omega)
  exact c.mono fun e w' h => ⟨by rw [h.1, ← hB], h.2.symm⟩
theorem byte_beq (x : UInt8) : ((32 : UInt8) == x) = (x.toNat == 32) := by
  rw [Bool.eq_iff_iff, beq_iff_eq, beq_iff_eq]
  constructor
  · rintro rfl
    rfl
  · intro h
    exact (UInt8.toNat_inj.1 (by rw [h]; rfl)).symm
theorem pre_L : ∀ {l : List UInt8}, 1 ≤ l.length → Lib.hasPrefix l [32] = (btL l 0 == 32)
  | [], h => by simp at h
  | x :: l, _ => by
    unfold Lib.hasPrefix btL
    simp only [List.isPrefixOf, Bool.and_true, List.getD_cons_zero]
    exact byte_beq x
theorem suf_L {l : List UInt8} (h : 1 ≤ l.length) : Lib.hasSuffix l [32] = (btL l (l.length - 1) == 32) := by
  obtain ⟨r, x, rfl⟩ : ∃ r x, l = r ++ [x] := by
    rcases List.eq_nil_or_concat l with rfl | ⟨r, x, rfl⟩
    · simp at h
    · exact ⟨r, x, by simp⟩
  have e : (r ++ [x]).length - 1 = r.length + 0 := by simp
  rw [e, bt_back]
  unfold Lib.hasSuffix btL List.isSuffixOf
  simp only [List.reverse_append, List.reverse_cons, List.reverse_nil, List.nil_append, List.singleton_append, List.isPrefixOf, Bool.and_true, List.getD_cons_zero]
  exact byte_beq x
theorem mayRune_any (r : Nat) (B : Bool) (w : World) (h : r ≤ 1114111) (hB : mayR r = B) :
    Calls Tryd.prog 19 #[.int .i32 r] w fun e w' => e = .returned (.bool B) ∧ w = w' := by
  rcases (by omega : r < 32 ∨ (32 ≤ r ∧ r < 127 ∧ r ≠ 47) ∨ r = 47 ∨ (127 ≤ r ∧ r ≤ 159) ∨ 159 < r) with h1 | ⟨h1, h2, h3⟩ | h1 | ⟨h1, h2⟩ | h1
  · have hb : B = false := by rw [← hB]; unfold mayR; simp; omega
    subst hb
    have q1 : (r : Int) < 32 := by omega
    clear hB h
    go_enter Tryd.func19, Tryd.ntmps19
    go_wp2
    go_ret
    exact ⟨rfl, rfl⟩
  · have hb : B = true := by rw [← hB]; unfold mayR; simp; omega
    subst hb
    have q1 : ¬ (r : Int) < 32 := by omega
    have q2 : ¬ (127 : Int) ≤ (r : Int) := by omega
    have q4 : ((r : Int) != 47) = true := by simp; omega
    clear hB h
    go_enter Tryd.func19, Tryd.ntmps19
    go_wp2
    go_ret
    exact ⟨rfl, rfl⟩
  · have hb : B = false := by rw [← hB]; unfold mayR; simp; omega
    subst hb
    have q1 : ¬ (r : Int) < 32 := by omega
    have q2 : ¬ (127 : Int) ≤ (r : Int) := by omega
    have q4 : ((r : Int) != 47) = false := by simp; omega
    clear hB h
    go_enter Tryd.func19, Tryd.ntmps19
    go_wp2
    go_ret
    exact ⟨rfl, rfl⟩
  · have hb : B = false := by rw [← hB]; unfold mayR; simp; omega
    subst hb
    have q1 : ¬ (r : Int) < 32 := by omega
    have q2 : (127 : Int) ≤ (r : Int) := by omega
    have q3 : (r : Int) ≤ 159 := by omega
    clear hB h
    go_enter Tryd.func19, Tryd.ntmps19
    go_wp2
    go_ret
    exact ⟨rfl, rfl⟩
  · have hb : B = true := by rw [← hB]; unfold mayR; simp; omega
    subst hb
    have q1 : ¬ (r : Int) < 32 := by omega
    have q2 : (127 : Int) ≤ (r : Int) := by omega
    have q3 : ¬ (r : Int) ≤ 159 := by omega
    have q4 : ((r : Int) != 47) = true := by simp; omega
    clear hB h
    go_enter Tryd.func19, Tryd.ntmps19
    go_wp2
    go_ret
    exact ⟨rfl, rfl⟩
theorem less_any (a b : ByteArray) (B : Bool) (w : World) (hB : Op.bytesLess a.toList b.toList = B) :
    Calls Tryd.prog 12 #[.string a, .string b] w fun e w' => e = .returned (.bool B) ∧ w = w' := by
  go_enter Tryd.func12, Tryd.ntmps12
  go_wp2
  go_ret
  exact ⟨by rw [← hB]; rfl, rfl⟩
/-- What Runes answers. -/
def runesN (l : List UInt8) : Nat := if validL l = true then cntL l else 0
theorem runes_any (s : ByteArray) (V : Bool) (n : Nat) (w : World) (hs : s.size ≤ 100000) (hT : Tabs w) (hV : validL s.data.toList = V) (hn : runesN s.data.toList = n) :
    Calls Tryd.prog 8 #[.string s] w fun e w' => e = .returned (.tuple #[.int .i64 n, .bool V]) ∧ Below w.heap.size w w' := by
  have HV := Lib.hid hV
  have HS : Hid (s.size ≤ 100000) := Lib.hid hs
  have HT := Lib.hid hT
  unfold runesN at hn
  rw [hV] at hn
  clear hV hs hT
  cases V
  · rw [if_neg (by simp)] at hn
    subst hn
    go_enter Tryd.func8, Tryd.ntmps8
    go_wp2_with (go_at_call 13; refine (valid_any s _ _ HS.out HT.out HV.out).mono ?_; rintro e' w1 ⟨rfl, hb⟩)
    go_ret2
    exact ⟨rfl, hb⟩
  · rw [if_pos rfl] at hn
    have HN := Lib.hid hn
    clear hn
    go_enter Tryd.func8, Tryd.ntmps8
    go_wp2_with (first
      | (go_at_call 13; refine (valid_any s _ _ HS.out HT.out HV.out).mono ?_; rintro e' w1 ⟨rfl, hb⟩)
      | (go_at_call 14; refine (count_any s _ _ HS.out HN.out).mono ?_; rintro e' w2 ⟨rfl, hb2⟩))
    go_ret2
    exact ⟨rfl, btr hb hb.size hb2⟩
set_option maxRecDepth 100000 in
set_option maxHeartbeats 4000000 in
theorem rrunes_any (s : ByteArray) (V : Bool) (n : Nat) (w : World) (hs : s.size ≤ 100000) (hV : validL s.data.toList = V) (hn : runesN s.data.toList = n) :
    Calls Tryd.prog 9 #[.string s] w fun e w' => e = .returned (.tuple #[.int .i64 n, .bool V]) ∧ w = w' := by
  unfold runesN at hn
  have hsz := size_L s
  obtain ⟨L, hL⟩ : ∃ L, s.data.toList = L := ⟨_, rfl⟩
  have HLS := Lib.hid hL
  rw [hL] at hV hn hsz
  have HS : Hid (s.size ≤ 100000) := Lib.hid hs
  have HSZ := Lib.hid hsz
  have hV0 : okFrom L L.length 0 = V := hV
  have hC0 : 0 + cntFrom L L.length 0 = cntL L := Nat.zero_add _
  have HV := Lib.hid hV
  have HN := Lib.hid hn
  have g0 : (s.size : Int) ≤ 100000 := by omega
  clear hL hV hn hs
  go_enter Tryd.func9, Tryd.ntmps9
  go_wp2_with fail
  go_loop [4, 5] (fun m i => ∃ p b acc : Nat, i = .int .i64 p ∧ m = .int .i64 acc ∧ Hid (acc + cntFrom L b p = cntL L ∧ okFrom L b p = V ∧ L.length ≤ p + b ∧ acc ≤ p ∧ p ≤ L.length)) (fun _ i => s.size - (intOf i).toNat)
  case atStart => exact ⟨0, L.length, 0, rfl, rfl, Lib.hid ⟨hC0, hV0, by omega, by omega, by omega⟩⟩
  case round =>
    obtain ⟨p, b, acc, rfl, rfl, HI⟩ := hrel
    obtain ⟨i1, i2, i3, i4, i5⟩ := HI.out
    clear hC0 hV0
    by_cases hlt : p < L.length
    · obtain ⟨b', rfl⟩ : ∃ b', b = b' + 1 := ⟨b - 1, by omega⟩
      have hp2 : p < s.size := by omega
      have j0 : (p : Int) < (s.size : Int) := by omega
      rw [cntFrom, if_pos hlt] at i1
      rw [okFrom, if_pos hlt] at i2
      obtain ⟨R, N, hrn⟩ : ∃ R N, r1L L p = (R, N) := ⟨_, _, rfl⟩
      have HRN : Hid (r1L s.data.toList p = (R, N)) := Lib.hid (by rw [HLS.out]; exact hrn)
      unfold r1L at hrn
      by_cases hb : badL L p = true
      · rw [if_pos hb] at hrn i2
        simp only [Prod.mk.injEq] at hrn
        obtain ⟨rfl, rfl⟩ := hrn
        subst i2
        have hn := HN.out
        rw [HV.out, if_neg (by simp)] at hn
        subst hn
        clear i1 i3 i4 i5 hb hlt hsz
        go_wp2_with (go_at_call 16; refine (rune1_any s p _ _ _ hp2 HS.out HRN.out).mono ?_; rintro e' w1 ⟨rfl, rfl⟩)
        go_ret2
        exact ⟨rfl, rfl⟩
      · rw [if_neg hb] at hrn i2
        have hb' : badL L p = false := by simpa using hb
        have hw := runed_w (good_of hb') (by omega)
        have e1 : (decL L p).2 = N := by rw [hrn]
        rw [e1] at i1 i2 hw
        have HK : Hid (acc + 1 + cntFrom L b' (p + N) = cntL L ∧ okFrom L b' (p + N) = V ∧ L.length ≤ p + N + b' ∧ acc + 1 ≤ p + N ∧ p + N ≤ L.length) := Lib.hid ⟨by omega, i2, by omega, by omega, by omega⟩
        have n0 : ((N : Int) == 0) = false := by simp; omega
        have k1 : p + N ≤ 100000 := by omega
        have k2 : acc ≤ 100000 := by omega
        have k3 : 1 ≤ N := hw.1
        clear i1 i2 i3 i4 hb hb' hw hrn e1
        go_wp2_with (go_at_call 16; refine (rune1_any s p _ _ _ hp2 HS.out HRN.out).mono ?_; rintro e' w1 ⟨rfl, rfl⟩)
        go_round
        case rel => exact ⟨p + N, b', acc + 1, by go_num, by go_num, HK⟩
        case measure => simp [intOf]; omega
    · have j0 : ¬ (p : Int) < (s.size : Int) := by omega
      have hv : V = true := by
        rw [← i2]
        cases b with
        | zero => rfl
        | succ b => rw [okFrom, if_neg hlt]
      have hc : cntFrom L b p = 0 := by
        cases b with
        | zero => rfl
        | succ b => rw [cntFrom, if_neg hlt]
      subst hv
      have hn := HN.out
      rw [HV.out, if_pos rfl] at hn
      have ha : acc = n := by omega
      subst ha
      clear i1 i2 i3 i4 i5 hc hlt hn hsz
      go_wp2
      go_ret2
      exact ⟨rfl, rfl⟩
end Go.Proofs.YtjclafigbfnemaaDoor
