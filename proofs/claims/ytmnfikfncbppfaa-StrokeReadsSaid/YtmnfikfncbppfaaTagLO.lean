/- A lent row as the call's own; OverBytes keeps all but its row. -/
import Derived.Test.YtmnfikfncbppfaaTagOver
import Derived.Maps.AppendAt
namespace Go.Proofs.Ytmnfikfncbppfaa
open Go.ChangeShapes Go.WideShapes Go.ChangeAt Go.RowKit
attribute [local go_sem ↓] Go.wp_at_zero Go.wp_at_succ
set_option linter.unusedSimpArgs false
set_option linter.unusedVariables false
set_option maxRecDepth 100000 in
set_option maxHeartbeats 4000000 in
theorem lendB_own (bs : List Nat) (A : Option Addr) (c : Nat) (w : World) (h1 : Sl w w.heap.size A (bs.map byteV)) (n1 : bs.length ≤ 1000000) (hA : A = none → bs.length = 0 ∧ c = 0) :
    Calls Try.prog 5 #[.slice A bs.length c] w fun e w' =>
      ∃ g, e = .returned (.slice (some ⟨g, 0, none⟩) bs.length (bs.length + 3)) ∧ w.heap.size ≤ g ∧ LentB w' g (bs.map byteV) ∧ w'.ownsRow w.heap.size 5 1 (.slice (some ⟨g, 0, none⟩) bs.length (bs.length + 3)) bs.length (bs.map byteV) ∧ Below w.heap.size w w' := by
  obtain ⟨i0, hi, hz0, hz1, hz2⟩ := info_parts infoByte
  have H1 := Lib.hid h1
  clear h1
  go_enter Try.func5, Try.ntmps5
  go_wp2_with (first
    | (at_make; refine wpList_make_own _ rfl _ _ 22 rfl w.heap.size 5 i0 (.int .u8 0) 1 Try.underlying22 hi hz0 hz1 _ _ _ (bs.length + 3) rfl rfl (by go_num) (by rw [hz2]; omega) (by unfold maxLen; omega) (Nat.le_refl _) ?_; intro w1 hown1 hgrow1)
    | (at_builtin; refine wpList_append_fits_any _ rfl _ _ 22 rfl w.heap.size 5 i0 1 Try.underlying22 hi hz1 w.heap.size 0 (bs.length + 3) [] rfl hown1 A bs.length c (bs.map byteV) rfl (by simp) hA (Sl.cells_ (H1.out.below ((Below.refl _ _).grown hgrow1 (Nat.le_refl _) (fun j hj => by cases hj)))) (oneB bs) (by omega) ?_; intro w2 hown2 hgrow2))
  have e3 : bs.length + 3 - bs.length = 3 := by omega
  rw [e3]
  have hB2 : Below w.heap.size w w2 := ((Below.refl _ _).grown hgrow1 (Nat.le_refl _) (fun j hj => by cases hj)).grown hgrow2 hgrow1.size (fun j hj => by obtain rfl := Option.some.inj hj; exact Nat.le_refl _)
  have hl : (bs.map byteV).length = bs.length := by simp
  obtain ⟨cur, hblk, hsz, hpre⟩ : ∃ cur : Array Value, Blk w2 w.heap.size 5 cur ∧ cur.size = bs.length + 3 ∧ ∀ (j : Nat) (u : Value), (bs.map byteV)[j]? = some u → cur[j]? = some u := by
    rcases hown2.2 with ⟨h, _⟩ | ⟨g', cap', cur, h, _, hg, _, _, hcs, htake⟩
    · simp at h
    · simp only [Value.slice.injEq, Option.some.injEq, Addr.mk.injEq, and_true, true_and] at h
      obtain ⟨rfl, rfl⟩ := h
      refine ⟨cur, hg, by omega, fun j u hu => ?_⟩
      have hj := (List.getElem?_eq_some_iff.1 hu).1
      rw [List.nil_append] at htake
      rw [← htake, List.getElem?_take_of_lt (by omega)] at hu
      simpa using hu
  clear hown2 hown1 hgrow1 hgrow2
  go_loopw [5] (fun i wr => ∃ k : Nat, k ≤ 3 ∧ i = .int .i64 k ∧ (∃ cur : Array Value, Blk wr w.heap.size 5 cur ∧ cur.size = bs.length + 3 ∧ (∀ (j : Nat) (u : Value), (bs.map byteV)[j]? = some u → cur[j]? = some u) ∧ ∀ i : Nat, i < k → cur[bs.length + i]? = some (.int .u8 119)) ∧ Below w.heap.size w wr) (fun i _ => 3 - (intOf i).toNat)
  case atStart => exact ⟨0, by omega, rfl, ⟨cur, hblk, hsz, hpre, fun i hi => by omega⟩, hB2⟩
  case round =>
    obtain ⟨k, hk, rfl, ⟨cur, hblk, hsz, hpre, hdone⟩, hB⟩ := hrel
    by_cases hlt : k < 3
    · obtain ⟨x0, hx0⟩ : ∃ x, cur[bs.length + k]? = some x := ⟨_, Array.getElem?_eq_getElem (by omega)⟩
      have ck : wr.cell? ⟨w.heap.size, bs.length + k, none⟩ = some x0 := by rw [hblk.cell_]; exact hx0
      clear hx0
      have fz := hblk.free (bs.length + k)
      have i1 : (0 : Int) ≤ (k : Int) := by omega
      have i2 : (k : Int) < 3 := by omega
      have Hpre := Lib.hid hpre
      have Hdone := Lib.hid hdone
      have Hsz := Lib.hid hsz
      clear hpre hdone hsz
      go_wp2
      refine ⟨⟨k + 1, by omega, by go_num, ⟨_, hblk.set_ _ _, by rw [Array.size_setIfInBounds]; exact Hsz.out, fun j u hu => ?_, fun i hi => ?_⟩, hB.setCell (Nat.le_refl _) _⟩, by simp [intOf]; omega⟩
      · have hj := (List.getElem?_eq_some_iff.1 hu).1
        rw [Array.getElem?_setIfInBounds_ne (by omega)]
        exact Hpre.out j u hu
      · by_cases hik : i = k
        · subst hik
          rw [Array.getElem?_setIfInBounds_self_of_lt (by have := Hsz.out; omega)]
        · rw [Array.getElem?_setIfInBounds_ne (by omega)]
          exact Hdone.out i (by omega)
    · have : k = 3 := by omega
      subst this
      go_wp2
      go_ret
      refine ⟨_, rfl, Nat.le_refl _, ⟨cur, hblk, hpre, fun i hi => by rw [hl]; exact hdone i hi⟩, ⟨by simp, Or.inr ⟨w.heap.size, bs.length + 3, cur, rfl, Nat.le_refl _, hblk, by omega, by unfold maxLen; omega, by omega, ?_⟩⟩, hB⟩
      apply List.ext_getElem?
      intro j
      rw [List.getElem?_take]
      split
      · have hj : j < (bs.map byteV).length := by rw [hl]; omega
        have := hpre j _ (List.getElem?_eq_getElem hj)
        rw [List.getElem?_eq_getElem hj]
        simpa using this
      · rw [List.getElem?_eq_none (by rw [hl]; omega)]
set_option maxRecDepth 100000 in
set_option maxHeartbeats 4000000 in
theorem over_own (n g cap : Nat) (xs : List Value) (base : Nat) (w : World) (ho : w.ownsRow base 5 1 (.slice (some ⟨g, 0, none⟩) n cap) n xs) (hb : base ≤ w.heap.size) (hn : n ≤ 1000) :
    Calls Try.prog 9 #[.slice (some ⟨g, 0, none⟩) n cap] w fun e w' => (∃ v, e = .returned v) ∧ w.grownBy w' (some g) := by
  obtain ⟨i0, hi, hz0, hz1, hz2⟩ := info_parts infoByte
  go_enter Try.func9, Try.ntmps9
  go_wp2
  go_loopw [2] (fun i wr => ∃ (k : Nat) (ys : List Value), k ≤ n ∧ i = .int .i64 k ∧ wr.ownsRow base 5 1 (.slice (some ⟨g, 0, none⟩) n cap) n ys ∧ w.grownBy wr (some g)) (fun i _ => n - (intOf i).toNat)
  case atStart => exact ⟨0, xs, Nat.zero_le _, rfl, ho, World.grownBy.refl _ _⟩
  case round =>
    obtain ⟨k, ys, hk, rfl, hr, hB⟩ := hrel
    by_cases hlt : k < n
    · have hyl : ys.length = n := by have := hr.1; omega
      have c1 : wr.cell? ⟨g, k, none⟩ = some (ys.getD k (.bool false)) := by
        rw [hr.cellAt k (by omega)]
        simp [show k < ys.length by omega]
      have f1 : wr.frozen? ⟨g, k, none⟩ = false := hr.frozenAt k
      have i0' : (0 : Int) ≤ (k : Int) := by omega
      have i1 : (k : Int) < (n : Int) := by omega
      have hst := hr.stored k (.int .u8 238)
      have hgl := (hr.lt g rfl).1
      clear hyl
      go_wp2
      go_roundw
      case rel => exact ⟨k + 1, ys.set k (.int .u8 238), by omega, by go_num, hst.1, hB.trans hst.2⟩
      case measure => simp [intOf]; omega
    · go_wp2_with (at_builtin; refine wpList_app _ rfl (.tmp 12) (.tmp 13) _ rfl base 5 i0 _ 1 1 Try.underlying22 hi hz0 hz1 hz2 rfl (by decide) _ _ _ rfl (hr.alloc _) _ 1 _ [.int .u8 238] rfl (Rd.one (by simp)) (by simp [Value.oneCell']) (by unfold maxLen; omega) (by omega) (by simp; have := hB.size; omega) ?_; intro s2 w2 ho2 hg2 hv2)
      have HF : w.grownBy w2 (some g) := (hB.trans (World.grownBy_alloc _ _ _)).trans hg2
      exact bodyPost_end (v := .tuple #[]) (by simp [results, Try.results9, go_sem]) rfl ⟨⟨_, rfl⟩, HF⟩
end Go.Proofs.Ytmnfikfncbppfaa
