/- A lent copy of bytes, its marked room, and what looks whether it is kept. -/
import Derived.Test.YtmnfikfncbppfaaCrcPut
import Derived.OwnWalk
namespace Go.Proofs.Ytmnfikfncbppfaa
open Go.ChangeShapes Go.WideShapes Go.ChangeAt Go.RowKit

theorem infoByte : (Try.prog.info? 5).map (fun i => (i.zero, i.size, i.bytes)) = some (some (.int .u8 0), 1, 1) := by kernel_rfl

/-- A block that holds xs and behind them three marks. -/
def LentB (w : World) (g : Nat) (xs : List Value) : Prop := ∃ cur : Array Value, Blk w g 5 cur ∧ (∀ (j : Nat) (u : Value), xs[j]? = some u → cur[j]? = some u) ∧ ∀ i : Nat, i < 3 → cur[xs.length + i]? = some (.int .u8 119)

theorem LentB.below {w w' : World} {g B : Nat} {xs : List Value} (h : LentB w g xs) (hb : Below B w w') (hg : g < B) : LentB w' g xs := by
  obtain ⟨cur, h1, h2⟩ := h
  exact ⟨cur, h1.below hb hg, h2⟩
theorem LentB.lt {w : World} {g : Nat} {xs : List Value} (h : LentB w g xs) : g < w.heap.size := by
  obtain ⟨cur, h1, _⟩ := h
  exact h1.lt
theorem LentB.sl {w : World} {g : Nat} {xs : List Value} (h : LentB w g xs) : Sl w w.heap.size (some ⟨g, 0, none⟩) xs := by
  have hl := h.lt
  obtain ⟨cur, h1, h2, _⟩ := h
  exact Or.inr ⟨g, 0, rfl, hl, fun k v hk => by rw [Nat.zero_add, h1.cell_]; exact h2 k v hk⟩

theorem Sl.cells_ {w : World} {B : Nat} {A : Option Addr} {vs : List Value} (h : Sl w B A vs) : ∀ ad, A = some ad → ∀ j u, vs[j]? = some u → w.cell? (ad.add j) = some u := by
  intro ad had j u hu
  obtain ⟨b1, o1, rfl, _, q⟩ := h.at_ (by
    have := (List.getElem?_eq_some_iff.1 hu).1
    omega)
  obtain rfl := Option.some.inj had
  rw [add_plain]
  exact q j u hu
theorem oneB (bs : List Nat) : ∀ u ∈ bs.map byteV, u.oneCell' = true := by
  intro u hu
  obtain ⟨z, _, rfl⟩ := List.mem_map.1 hu
  rfl

set_option maxRecDepth 100000 in
set_option maxHeartbeats 4000000 in
theorem lendB_any (bs : List Nat) (A : Option Addr) (c : Nat) (w : World) (h1 : Sl w w.heap.size A (bs.map byteV)) (n1 : bs.length ≤ 1000000) (hA : A = none → bs.length = 0 ∧ c = 0) :
    Calls Try.prog 5 #[.slice A bs.length c] w fun e w' =>
      ∃ g, e = .returned (.slice (some ⟨g, 0, none⟩) bs.length (bs.length + 3)) ∧ w.heap.size ≤ g ∧ LentB w' g (bs.map byteV) ∧ Below w.heap.size w w' := by
  obtain ⟨i0, hi, hz0, hz1, hz2⟩ := info_parts infoByte
  have H1 := Lib.hid h1
  clear h1
  go_enter Try.func5, Try.ntmps5
  go_wp2_with (first
    | (at_make; refine wpList_make_own _ rfl _ _ 22 rfl w.heap.size 5 i0 (.int .u8 0) 1 Try.underlying22 hi hz0 hz1 _ _ _ (bs.length + 3) rfl rfl (by go_num) (by rw [hz2]; omega) (by unfold maxLen; omega) (Nat.le_refl _) ?_; intro w1 hown1 hgrow1)
    | (at_builtin; refine wpList_append_fits_any _ rfl _ _ 22 rfl w.heap.size 5 i0 1 Try.underlying22 hi hz1 w.heap.size 0 (bs.length + 3) [] rfl hown1 A bs.length c (bs.map byteV) rfl (by simp) hA (Sl.cells_ (H1.out.below ((Below.refl _ _).grown hgrow1 (Nat.le_refl _) (fun j hj => by cases hj)))) (oneB bs) (by omega) ?_; intro w2 hown2 hgrow2))
  have e3 : bs.length + 3 - bs.length = 3 := by omega
  rw [e3]
  have hB2 : Below w.heap.size w w2 := ((Below.refl _ _).grown hgrow1 (Nat.le_refl _) (fun j hj => by cases hj)).grown hgrow2 hgrow1.size (fun j hj => by obtain rfl := Option.some.inj hj; exact Nat.le_refl _)
  have hl : (bs.map byteV).length = bs.length := by simp
  obtain ⟨cur, hblk, hsz, hpre⟩ : ∃ cur : Array Value, Blk w2 w.heap.size 5 cur ∧ cur.size = bs.length + 3 ∧ ∀ (j : Nat) (u : Value), (bs.map byteV)[j]? = some u → cur[j]? = some u := by
    rcases hown2.2 with ⟨h, _⟩ | ⟨g', cap', cur, h, _, hg, _, _, hcs, htake⟩
    · simp at h
    · simp only [Value.slice.injEq, Option.some.injEq, Addr.mk.injEq, and_true, true_and] at h
      obtain ⟨rfl, rfl⟩ := h
      refine ⟨cur, hg, by omega, fun j u hu => ?_⟩
      have hj := (List.getElem?_eq_some_iff.1 hu).1
      rw [List.nil_append] at htake
      rw [← htake, List.getElem?_take_of_lt (by omega)] at hu
      simpa using hu
  clear hown2 hown1 hgrow1 hgrow2
  go_loopw [5] (fun i wr => ∃ k : Nat, k ≤ 3 ∧ i = .int .i64 k ∧ (∃ cur : Array Value, Blk wr w.heap.size 5 cur ∧ cur.size = bs.length + 3 ∧ (∀ (j : Nat) (u : Value), (bs.map byteV)[j]? = some u → cur[j]? = some u) ∧ ∀ i : Nat, i < k → cur[bs.length + i]? = some (.int .u8 119)) ∧ Below w.heap.size w wr) (fun i _ => 3 - (intOf i).toNat)
  case atStart => exact ⟨0, by omega, rfl, ⟨cur, hblk, hsz, hpre, fun i hi => by omega⟩, hB2⟩
  case round =>
    obtain ⟨k, hk, rfl, ⟨cur, hblk, hsz, hpre, hdone⟩, hB⟩ := hrel
    by_cases hlt : k < 3
    · obtain ⟨x0, hx0⟩ : ∃ x, cur[bs.length + k]? = some x := ⟨_, Array.getElem?_eq_getElem (by omega)⟩
      have ck : wr.cell? ⟨w.heap.size, bs.length + k, none⟩ = some x0 := by rw [hblk.cell_]; exact hx0
      clear hx0
      have fz := hblk.free (bs.length + k)
      have i1 : (0 : Int) ≤ (k : Int) := by omega
      have i2 : (k : Int) < 3 := by omega
      have Hpre := Lib.hid hpre
      have Hdone := Lib.hid hdone
      have Hsz := Lib.hid hsz
      clear hpre hdone hsz
      go_wp2
      refine ⟨⟨k + 1, by omega, by go_num, ⟨_, hblk.set_ _ _, by rw [Array.size_setIfInBounds]; exact Hsz.out, fun j u hu => ?_, fun i hi => ?_⟩, hB.setCell (Nat.le_refl _) _⟩, by simp [intOf]; omega⟩
      · have hj := (List.getElem?_eq_some_iff.1 hu).1
        rw [Array.getElem?_setIfInBounds_ne (by omega)]
        exact Hpre.out j u hu
      · by_cases hik : i = k
        · subst hik
          rw [Array.getElem?_setIfInBounds_self_of_lt (by have := Hsz.out; omega)]
        · rw [Array.getElem?_setIfInBounds_ne (by omega)]
          exact Hdone.out i (by omega)
    · have : k = 3 := by omega
      subst this
      go_wp2
      go_ret
      exact ⟨_, rfl, Nat.le_refl _, ⟨cur, hblk, hpre, fun i hi => by rw [hl]; exact hdone i hi⟩, hB⟩
end Go.Proofs.Ytmnfikfncbppfaa
