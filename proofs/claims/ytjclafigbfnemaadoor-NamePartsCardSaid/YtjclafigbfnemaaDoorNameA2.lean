/- Chapter 3's own rune1: a part. -/
import Derived.Test.YtjclafigbfnemaaDoorNameA
namespace Go.Proofs.YtjclafigbfnemaaDoor
open Go.ChangeShapes Go.WideShapes Go.ChangeAt Go.RowKit
set_option linter.unusedSimpArgs false
set_option linter.unusedVariables false
set_option maxRecDepth 100000 in
set_option maxHeartbeats 4000000 in
theorem rune1_2 (s : ByteArray) (i R N : Nat) (w : World) (hi : i < s.size) (hs : s.size ≤ 100000) (hr : r1L s.data.toList i = (R, N)) (hlo : 194 ≤ btL s.data.toList i) (hhi : btL s.data.toList i < 224) :
    Calls Tryd.prog 16 #[.string s, .int .i64 i] w fun e w' => e = .returned (.tuple #[.int .i64 R, .int .i64 N]) ∧ w = w' := by
  have hsz := size_L s
  have i0 : (0 : Int) ≤ (i : Int) := by omega
  have i1 : (i : Int) < (s.size : Int) := by omega
  have i2 : (s.size : Int) ≤ 100000 := by omega
  have hat : ∀ j (h : j < s.size), (s[j]'h).toNat = btL s.data.toList j := fun j h => at_L s j h
  obtain ⟨L, hL⟩ : ∃ L, s.data.toList = L := ⟨_, rfl⟩
  rw [hL] at hr hsz hat hlo hhi
  have HS := Lib.hid hsz
  have HR := Lib.hid hr
  have HAT := Lib.hid hat
  obtain ⟨c, hc⟩ : ∃ c, btL L i = c := ⟨_, rfl⟩
  have HC := Lib.hid hc
  have hc8 : c < 256 := by rw [← hc]; exact bt_lt L i
  rw [hc] at hlo hhi
  clear hL hr hsz hat hc
  go_enter Tryd.func16, Tryd.ntmps16
  go_upto_region 1 with fail
  go_cut [6] (fun v wx => v = .int .i64 (c : Nat) ∧ wx = w)
  case first =>
    go_wp2
    go_meet
    refine ⟨?_, rfl⟩
    rw [HAT.out i hi, HC.out]
    exact congrArg (Value.int .i64) (by unfold wrap64; omega)
  case rest =>
  obtain ⟨rfl, rfl⟩ := hcut
  obtain ⟨w0, rfl⟩ : ∃ W : World, W = wc := ⟨_, rfl⟩
  have q1 : ¬ (c : Int) < 128 := by omega
  have q2 : (194 : Int) ≤ (c : Int) := by omega
  have q3 : (c : Int) < 224 := by omega
  have hb32 : btL L i < 192 + 32 := by rw [HC.out]; omega
  have z1 : ((c : Int) - 192) = ((prL L i 192 0 : Nat) : Int) := by unfold prL; rw [HC.out]; omega
  by_cases hn : i + 2 ≤ s.size
  · have n1 : ¬ (2 : Int) > (s.size : Int) - (i : Int) := by omega
    have HB := Lib.hid hb32
    clear hb32
    go_upto_region 14 with fail
    clear z1
    go_wp2_with fail
    go_loop [8, 10] (fun x kk => ∃ k : Nat, 1 ≤ k ∧ k ≤ 2 ∧ kk = .int .i64 k ∧ x = .int .i64 (prL L i 192 (k - 1) : Nat) ∧ Hid (∀ j, 1 ≤ j → j < k → 128 ≤ btL L (i + j) ∧ btL L (i + j) ≤ 191)) (fun _ kk => 2 - (intOf kk).toNat)
    case atStart => exact ⟨1, by omega, by omega, rfl, rfl, Lib.hid (fun j h1 h2 => by omega)⟩
    case round =>
      obtain ⟨k, hk1, hk2, rfl, rfl, HD⟩ := hrel
      have hpb := pr_le (k := k - 1) HB.out (by omega)
      by_cases hlt : k < 2
      · have hik : i + k < s.size := by omega
        have j0 : (0 : Int) ≤ (i : Int) + (k : Int) := by omega
        have j1 : (i : Int) + (k : Int) < (s.size : Int) := by omega
        have j2 : (k : Int) < 2 := by omega
        obtain ⟨x, hx⟩ : ∃ x, btL L (i + k) = x := ⟨_, rfl⟩
        have hx8 : x < 256 := by rw [← hx]; exact bt_lt L _
        have HX := Lib.hid hx
        have hst : prL L i 192 (k + 1 - 1) = prL L i 192 (k - 1) * 64 + x - 128 := by
          obtain ⟨k', rfl⟩ : ∃ k', k = k' + 1 := ⟨k - 1, by omega⟩
          rw [← hx]
          rfl
        have HST := Lib.hid hst
        clear hst hx
        generalize prL L i 192 (k - 1) = P at hpb HST ⊢
        go_upto_region 17 with fail
        go_cut [11] (fun v wx => v = .int .i64 (x : Nat) ∧ wx = w0)
        case first =>
          go_wp2
          go_meet
          refine ⟨?_, rfl⟩
          rw [HAT.out (i + k) hik, HX.out]
          exact congrArg (Value.int .i64) (by unfold wrap64; omega)
        case rest =>
        obtain ⟨rfl, rfl⟩ := hcut
        by_cases hcx : 128 ≤ x ∧ x ≤ 191
        · have t1 : ¬ (x : Int) < 128 := by omega
          have t2 : ¬ (191 : Int) < (x : Int) := by omega
          have HCX := Lib.hid hcx
          clear hcx
          go_wp2
          go_round
          case rel =>
            have h1 := HST.out
            have h2 := HCX.out
            refine ⟨k + 1, by omega, by omega, by go_num, ?_, Lib.hid (show ∀ j, 1 ≤ j → j < k + 1 → 128 ≤ btL L (i + j) ∧ btL L (i + j) ≤ 191 from fun j a b => ?_)⟩
            · rw [h1]
              refine congrArg (Value.int .i64) ?_
              omega
            · by_cases hj : j = k
              · subst hj
                rw [HX.out]
                exact h2
              · exact HD.out j a (by omega)
          case measure => simp [intOf]; omega
        · have hg := HR.out.symm.trans (r1_bad (by
            rintro ⟨r, v, h⟩
            have hx := HX.out
            unfold Runed at h
            rw [HC.out] at h
            have hn := HS.out
            have h0 := bt_lt L (i + k)
            rcases (by omega : k = 1 ∨ k = 2 ∨ k = 3) with rfl | rfl | rfl <;> omega))
          simp only [Prod.mk.injEq] at hg
          obtain ⟨rfl, rfl⟩ := hg
          have t1 : (x : Int) < 128 ∨ (191 : Int) < (x : Int) := by omega
          clear hcx
          rcases t1 with t1 | t1
          · go_wp2
            go_ret2
            exact ⟨rfl, rfl⟩
          · have t2 : ¬ (x : Int) < 128 := by omega
            go_wp2
            go_ret2
            exact ⟨rfl, rfl⟩
      · have hkm : k = 2 := by omega
        subst hkm
        obtain ⟨P, hP⟩ : ∃ P, prL L i 192 (2 - 1) = P := ⟨_, rfl⟩
        have HP := Lib.hid (show prL L i 192 1 = P from hP)
        rw [hP] at hpb ⊢
        clear hP hlt
        by_cases hf : P < 128 ∨ 1114111 < P ∨ (55296 ≤ P ∧ P ≤ 57343)
        · have hg := HR.out.symm.trans (r1_bad (by
            rintro ⟨r, v, h⟩
            unfold Runed at h
            rw [HC.out] at h
            have hn := HS.out
            have c1 := HD.out 1 (by omega) (by omega)
            have hp := HP.out
            obtain ⟨p0, p1, p2, p3⟩ := prs L i 192
            rw [HC.out] at p0
            omega))
          simp only [Prod.mk.injEq] at hg
          obtain ⟨rfl, rfl⟩ := hg
          rcases (by omega : P < 128 ∨ (¬ P < 128 ∧ 1114111 < P) ∨ (¬ P < 128 ∧ ¬ 1114111 < P ∧ 55296 ≤ P ∧ P ≤ 57343)) with f | ⟨f0, f⟩ | ⟨f0, f1, f2, f3⟩
          · have g1 : (P : Int) < 128 := by omega
            clear hf
            go_wp2
            go_ret2
            exact ⟨rfl, rfl⟩
          · have g0 : ¬ (P : Int) < 128 := by omega
            have g1 : (1114111 : Int) < (P : Int) := by omega
            clear hf
            go_wp2
            go_ret2
            exact ⟨rfl, rfl⟩
          · have g0 : ¬ (P : Int) < 128 := by omega
            have g1 : ¬ (1114111 : Int) < (P : Int) := by omega
            have g2 : (55296 : Int) ≤ (P : Int) := by omega
            have g3 : (P : Int) ≤ 57343 := by omega
            clear hf
            go_wp2
            go_ret2
            exact ⟨rfl, rfl⟩
        · have hg := HR.out.symm.trans (r1_good (r := P) (w := 2) (by rw [← HS.out]; exact hi) (by
            have hn := HS.out
            have c1 := HD.out 1 (by omega) (by omega)
            have hp := HP.out
            obtain ⟨p0, p1, p2, p3⟩ := prs L i 192
            unfold Runed
            rw [HC.out] at p0 ⊢
            exact Or.inr (Or.inl ⟨by omega, by omega, by omega, by omega, by omega, rfl⟩)))
          have g0 : ¬ (P : Int) < 128 := by omega
          have g1 : ¬ (1114111 : Int) < (P : Int) := by omega
          have g2 : ¬ (55296 : Int) ≤ (P : Int) ∨ ((55296 : Int) ≤ (P : Int) ∧ ¬ (P : Int) ≤ 57343) := by omega
          clear hf
          simp only [Prod.mk.injEq] at hg
          obtain ⟨rfl, rfl⟩ := hg
          rcases g2 with g2 | ⟨g2, g3⟩
          · go_wp2
            go_ret2
            exact ⟨rfl, rfl⟩
          · go_wp2
            go_ret2
            exact ⟨rfl, rfl⟩
  · have hg := HR.out.symm.trans (r1_bad (by
      rintro ⟨r, v, h⟩
      unfold Runed at h
      rw [HC.out] at h
      have hn := HS.out
      have h1 := bt_lt L (i + 1)
      have h2 := bt_lt L (i + 2)
      have h3 := bt_lt L (i + 3)
      omega))
    simp only [Prod.mk.injEq] at hg
    obtain ⟨rfl, rfl⟩ := hg
    have n1 : (2 : Int) > (s.size : Int) - (i : Int) := by omega
    go_wp2
    go_ret2
    exact ⟨rfl, rfl⟩
end Go.Proofs.YtjclafigbfnemaaDoor
