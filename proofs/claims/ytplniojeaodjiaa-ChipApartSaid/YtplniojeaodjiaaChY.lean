/- What calls for other blocks leave of a block; the laws' bytes, whatever number is asked for. -/
import Derived.Test.YtplniojeaodjiaaChX
import Derived.Test.YtplniojeaodjiaaChipOnce
namespace Go.Proofs.Ytplniojeaodjiaa
open Go.ChangeShapes Go.WideShapes Go.ChangeAt Go.RowKit
set_option linter.unusedSimpArgs false
set_option linter.unusedVariables false

set_option maxHeartbeats 4000000 in
theorem bytes_all (n : Nat) (z : Int) (Q : Nat) (w : World) (hn : n < 256) (hz : i64in z) (hQz : (Q : Int) = min (max z 0) 200) : Calls Try.prog 18 #[.int .u8 (n : Int), .int .i64 z] w fun e' w' => (∃ g, e' = .returned (.slice (some ⟨g, 0, none⟩) Q Q) ∧ RowT w' g 5 ((bytesL n Q).map byteV) ∧ w.heap.size ≤ g) ∧ Below w.heap.size w w' := by
  have hQ : Q ≤ 200 := by omega
  have i0 : (0 : Int) ≤ (Q : Int) := by omega
  have i1 : (Q : Int) ≤ 200 := by omega
  obtain ⟨M, hM⟩ : ∃ M : Int, M = max z 0 := ⟨_, rfl⟩
  have m1 : max z 0 = M := hM.symm
  have m2 : (if z < 0 then (0 : Int) else z) = M := by rw [hM]; split <;> omega
  have m3 : (if (200 : Int) < M then (200 : Int) else M) = (Q : Int) := by rw [hQz, ← hM]; split <;> omega
  clear hM hQz
  go_enter Try.func18, Try.ntmps18
  go_wp2_with (at_make; obtain ⟨ti0, hi, hz0, hz1, hz2⟩ := info_parts infoByte; refine wpList_make_full _ rfl _ _ 48 rfl w.heap.size 5 ti0 (.int .u8 0) 1 Try.underlying48 hi hz0 hz1 _ _ _ _ Q rfl rfl rfl rfl (by rw [hz2]; omega) (by unfold maxLen; omega) (Nat.le_refl _) ?_; intro w1 hown1 hgrow1; clear hi hz0 hz1 hz2)
  have hB1 : Below w.heap.size w w1 := (Below.refl _ _).grown hgrow1 (Nat.le_refl _) (fun j hj => by cases hj)
  rw [show (madeCells (Value.int .u8 0).cells (Q * 1)).toList = List.replicate (Q * 1) (Value.int .u8 0) from toList_madeCells_one _ _, Nat.mul_one] at hown1
  have hR1 : RowT w1 w.heap.size 5 (bytesP n Q 0) := by rw [bytesP_zero]; exact own_rowS hown1
  clear hown1 hgrow1
  go_loopw [6] (fun s6 wr => ∃ k : Nat, k ≤ Q ∧ s6 = .int .i64 (k : Int) ∧ RowT wr w.heap.size 5 (bytesP n Q k) ∧ Below w.heap.size w wr) (fun s6 _ => Q - (intOf s6).toNat)
  case atStart => exact ⟨0, Nat.zero_le _, rfl, hR1, hB1⟩
  case round =>
    clear hR1 hB1
    obtain ⟨k, hk, rfl, hR, hB⟩ := hrel
    by_cases hlt : k < Q
    · have c0 := hR.cell_ (bytesP_at n Q k hlt)
      have f0 := hR.free k
      have k0 : (0 : Int) ≤ (k : Int) := by omega
      have k1 : (k : Int) < (Q : Int) := by omega
      have k2 : (k : Int) ≤ 200 := by omega
      have hs := hR.set_ (by rw [bytesP_len n Q k (by omega)]; exact hlt) (byteV ((n + k * 7) % 256))
      rw [bytesP_step n Q k hlt] at hs
      have HS := Lib.hid hs
      clear hs
      unfold byteV at c0
      go_wp2_with fail
      go_roundw
      case rel =>
        refine ⟨k + 1, by omega, by go_num, ?_, hB.setCell (Nat.le_refl _) _⟩
        have e1 : (((n + k * 7) % 256 : Nat) : Int) = ((n : Int) + (k : Int) * 7) % 256 := by omega
        rw [← e1]
        exact HS.out
      case measure => simp [intOf]; omega
    · have hkQ : k = Q := by omega
      subst hkQ
      rw [bytesP_full] at hR
      have HR := Lib.hid hR
      clear hR
      go_wp2_with fail
      go_ret
      exact ⟨⟨_, rfl, HR.out, Nat.le_refl _⟩, hB⟩
theorem there_no {a b : Int} {x y : Int} (h : thereB a b x y = false) : True := trivial
theorem Fine.tick {s : ChS} {n : Int} (h : Fine s n) : Fine s.tick (n + 1) := by
  refine ⟨tick_bnd h.bnd, by rw [tick_cby]; exact h.cby, ?_⟩
  have : s.tick.fill = s.fill := by unfold ChS.tick; split <;> rfl
  rw [this]
  exact h.fill
theorem Fine.mono {s : ChS} {n n' : Int} (h : Fine s n) (hn : n ≤ n') : Fine s n' := ⟨bnd_mono h.bnd hn, h.cby, h.fill⟩
/-- A block stays as it was. -/
structure Same (s S : ChS) (b c : Int) (k : Nat) : Prop where
  kk : ∀ i : Nat, i < 3 → S.k (k : Int) i = s.k (k : Int) i
  pg : ∀ l RW N : Nat, (RW : Int) = c + 16 → (l : Int) < b → (N : Int) = (k : Int) * b + (l : Int) → S.pageOf N RW = s.pageOf N RW
theorem Same.refl (s : ChS) (b c : Int) (k : Nat) : Same s s b c k := ⟨fun _ _ => rfl, fun _ _ _ _ _ _ => rfl⟩
theorem Same.like {s S : ChS} {b c : Int} {k : Nat} (h1 : S.X = s.X) (h2 : S.K = s.K) : Same s S b c k :=
  ⟨fun i _ => by unfold ChS.k; rw [h2], fun l RW N _ _ _ => by unfold ChS.pageOf; rw [h1]⟩
theorem num_ne {b : Int} {x k y l N N' : Nat} (hb : 0 < b) (hx : x ≠ k) (hy : (y : Int) < b) (hl : (l : Int) < b) (h1 : (N : Int) = (x : Int) * b + (y : Int)) (h2 : (N' : Int) = (k : Int) * b + (l : Int)) : N ≠ N' := by
  intro e
  subst e
  rcases Nat.lt_or_gt_of_ne hx with h | h
  · have := Int.mul_le_mul_of_nonneg_right (a := (x : Int) + 1) (b := (k : Int)) (c := b) (by omega) (by omega)
    rw [Int.add_mul, Int.one_mul] at this
    omega
  · have := Int.mul_le_mul_of_nonneg_right (a := (k : Int) + 1) (b := (x : Int)) (c := b) (by omega) (by omega)
    rw [Int.add_mul, Int.one_mul] at this
    omega
theorem prog_same {w : World} {m gx gb : Nat} {Af : Option Addr} {nf cf : Nat} {a b c d e : Int} {fs : List Flt} {s : ChS} (hC : ChipW w m gx gb Af nf cf a b c d e fs s) {n : Int} (hs : Fine s n) (x y : Int) (bs : List Nat) (k : Nat) (hx : x ≠ (k : Int)) : Same s (s.progS a b c fs x y bs) b c k ∧ Fine (s.progS a b c fs x y bs) (n + 3) := by
  unfold ChS.progS
  cases ho : s.on
  · exact ⟨Same.refl _ _ _ _, hs.mono (by omega)⟩
  cases ht : thereB a b x y
  · exact ⟨Same.refl _ _ _ _, hs.mono (by omega)⟩
  by_cases hL : (bs.length : Int) = c + 16
  · rw [decide_eq_true hL]
    obtain ⟨j, l, rfl, rfl, hj, hl⟩ := there_nat ht
    obtain ⟨N, RW, hnum, hrw, hfit, r1, r2, hN2, hNN⟩ := page_ok hC hj hl
    have hRW : RW = bs.length := by omega
    subst hRW
    have hN' : ((j : Int) * b + (l : Int)).toNat = N := by omega
    have hb := (may_bd (planMay_bd hC.may).1).2.2.1
    simp only [Bool.and_self, if_true, Int.toNat_natCast, hN']
    have hne : ∀ l' N' : Nat, (l' : Int) < b → (N' : Int) = (k : Int) * b + (l' : Int) → N ≠ N' := fun l' N' h1 h2 => num_ne (by omega) (by omega) hl h1 hNN h2
    by_cases hw : s.wrong a fs j l = 0
    · rw [if_pos hw]
      cases hc : s.cutB
      · rw [if_neg (by simp)]
        have hp := prog_on (s := s) j N bs.length bs
        refine ⟨⟨fun i hi => prog_kl N bs.length bs k i (by omega) hi, fun l' RW' N' h1 h2 h3 => ?_⟩, ⟨prog_bnd hs.bnd j N bs.length bs, ?_, ?_⟩⟩
        · obtain rfl : RW' = bs.length := by omega
          unfold ChS.pageOf
          rw [hp.2.2.2.2.2.1]
          exact putX_page_other rfl hfit (hne l' N' h2 h3)
        · exact hs.tick.cby
        · exact hs.tick.fill
      · rw [if_pos rfl]
        have hl2 : (bs.take (min bs.length s.cby.toNat)).length ≤ bs.length := by rw [List.length_take]; omega
        obtain ⟨p1, p2⟩ := progCut_fields (s := s) j N bs.length (bs.take (min bs.length s.cby.toNat))
        refine ⟨⟨fun i hi => ?_, fun l' RW' N' h1 h2 h3 => ?_⟩, ⟨?_, ?_, ?_⟩⟩
        · unfold ChS.k
          rw [p2, Int.toNat_natCast, getD_setN, if_neg (by omega)]
        · obtain rfl : RW' = bs.length := by omega
          unfold ChS.pageOf
          rw [p1]
          exact putX_part_other hl2 hfit (hne l' N' h2 h3)
        · have h1 := inc_bnd (bnd_X (tick_bnd hs.bnd) (putX s.X (N * bs.length) (bs.take (min bs.length s.cby.toNat)))) j 0
          exact bnd_mono h1 (by omega)
        · exact hs.tick.cby
        · exact hs.tick.fill
    · rw [if_neg hw]
      exact ⟨Same.like (tick_X s) (tick_K s), hs.tick.mono (by omega)⟩
  · rw [decide_eq_false hL]
    exact ⟨Same.refl _ _ _ _, hs.mono (by omega)⟩
theorem erase_same {w : World} {m gx gb : Nat} {Af : Option Addr} {nf cf : Nat} {a b c d e : Int} {fs : List Flt} {s : ChS} (hC : ChipW w m gx gb Af nf cf a b c d e fs s) {n : Int} (hs : Fine s n) (hn0 : 20 ≤ n) (x : Int) (k : Nat) (hx : x ≠ (k : Int)) : Same s (s.eraseS a b c fs x) b c k ∧ Fine (s.eraseS a b c fs x) (n + 3) := by
  unfold ChS.eraseS
  cases ho : s.on
  · exact ⟨Same.refl _ _ _ _, hs.mono (by omega)⟩
  cases ht : inB a x
  · exact ⟨Same.refl _ _ _ _, hs.mono (by omega)⟩
  obtain ⟨j, rfl, hj⟩ := in_nat ht
  obtain ⟨SZ, RW, hrw, hsz, hfit, z1, z2⟩ := blk_ok hC hj
  have hS : (b * (c + 16)).toNat = SZ := by omega
  rw [hS, Int.toNat_natCast]
  simp only [Bool.and_self, if_true]
  cases hf : failedB a fs s (j : Int)
  · rw [if_neg (by simp)]
    obtain ⟨F, hF⟩ : ∃ F, (if s.cutB = true then s.fill else 255) = F := ⟨_, rfl⟩
    rw [hF]
    have hq := wiped (f := F) hC hj hs.bnd hn0 hrw hsz hfit
    exact ⟨⟨fun i hi => hq.ko k i (by omega) hi, fun l RW' N h1 h2 h3 => hq.po k l RW' N (by omega) h1 h2 h3⟩, ⟨hq.bnd, hs.tick.cby, hs.tick.fill⟩⟩
  · rw [if_pos rfl]
    exact ⟨Same.like (tick_X s) (tick_K s), hs.tick.mono (by omega)⟩
theorem arm_same (s : ChS) (b c : Int) {n : Int} (hs : Fine s n) (xo xb : Int) (xf k : Nat) (hf : xf < 256) : Same s (s.arm xo xb xf) b c k ∧ Fine (s.arm xo xb xf) n := by
  unfold ChS.arm
  cases h : s.on && armOkB xo xb
  · exact ⟨Same.refl _ _ _ _, hs⟩
  · have hx : 0 ≤ xb := by
      simp only [Bool.and_eq_true] at h
      have := h.2
      unfold armOkB at this
      simp at this
      omega
    obtain ⟨o0, o1, c0, c1, k0, k1⟩ := hs.bnd
    exact ⟨Same.like rfl rfl, ⟨⟨o0, o1, c0, c1, k0, k1⟩, hx, hf⟩⟩
theorem boot_same (s : ChS) (b c : Int) {n : Int} (hs : Fine s n) (k : Nat) : Same s s.boot b c k ∧ Fine s.boot n := by
  unfold ChS.boot
  cases h : s.on
  · obtain ⟨o0, o1, c0, c1, k0, k1⟩ := hs.bnd
    exact ⟨Same.like rfl rfl, ⟨⟨o0, o1, c0, c1, k0, k1⟩, hs.cby, hs.fill⟩⟩
  · exact ⟨Same.refl _ _ _ _, hs⟩
theorem new_goF (a b c d e : Int) (w : World) (HM : Hid (mayB a b c d e = true)) :
    Calls Try.prog 11 #[.agg #[.int .i64 a, .int .i64 b, .int .i64 c, .int .i64 d, .int .i64 e], .slice none 0 0] w fun e' w' => (∃ m gx gb S, e' = .returned (.pointer (some ⟨m, 0, none⟩)) ∧ ChipW w' m gx gb none 0 0 a b c d e [] S ∧ Stand S 0 ∧ (∀ B j, S.k B j = 0) ∧ (∀ i, i < S.X.length → S.X.getD i 0 = 255) ∧ Hid (S.cby = 0 ∧ S.fill = 0) ∧ w.heap.size ≤ m ∧ w.heap.size ≤ gx ∧ w.heap.size ≤ gb) ∧ Below w.heap.size w w' := by
  obtain ⟨g1, g2, g3, g4, g5, g6, -⟩ := may_bd HM.out
  obtain ⟨p1, p2⟩ := mul_bd (x := a) (y := b) (lo := 8) (hi := 20) (l2 := 4) (h2 := 8) g1 g2 g3 g4 (by omega) (by omega)
  obtain ⟨p3, p4⟩ := mul_bd (x := a * b) (y := c + 16) (lo := 32) (hi := 160) (l2 := 40) (h2 := 80) (by omega) (by omega) (by omega) (by omega) (by omega) (by omega)
  obtain ⟨NX, hNX⟩ : ∃ NX : Nat, (NX : Int) = a * b * (c + 16) := ⟨(a * b * (c + 16)).toNat, by omega⟩
  obtain ⟨NB, hNB⟩ : ∃ NB : Nat, (NB : Int) = a := ⟨a.toNat, by omega⟩
  refine (new0_yes a b c d e NX NB w HM hNX hNB (by omega) (by omega) (by omega)).mono ?_
  rintro e' w' ⟨⟨m, gx, gb, rfl, hC, h1, h2, h3⟩, hb⟩
  have hK : ∀ i, (ChS.new NX NB).K.getD i 0 = 0 := by
    intro i
    rw [List.getD_eq_getElem?_getD]
    show ((List.replicate (3 * NB) (0 : Int))[i]?).getD 0 = 0
    rw [List.getElem?_replicate]
    split <;> rfl
  refine ⟨⟨m, gx, gb, _, rfl, hC, ⟨rfl, rfl, ⟨Int.le_refl _, Int.le_refl _, Int.le_refl _, Int.le_refl _, fun i => by rw [hK]; exact Int.le_refl _, fun i => by rw [hK]; exact Int.le_refl _⟩⟩, fun B j => hK _, fun i hi => ?_, Lib.hid ⟨rfl, rfl⟩, h1, h2, h3⟩, hb⟩
  have hi' : i < NX := by simpa [ChS.new] using hi
  rw [List.getD_eq_getElem?_getD]
  show ((List.replicate NX 255)[i]?).getD 0 = 255
  rw [List.getElem?_replicate, if_pos hi']
  rfl
end Go.Proofs.Ytplniojeaodjiaa
