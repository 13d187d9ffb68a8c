/- Chapter 26's own into: a text among rising ones, once. -/
import Derived.Test.YteokeghenjobaaaGreatDoorZy3
import Derived.Test.YteokeghenjobaaaGreatDoorZy1
set_option linter.unusedSimpArgs false
set_option linter.unusedVariables false
set_option maxRecDepth 100000
set_option maxHeartbeats 16000000
namespace Go.Proofs.YteokeghenjobaaaGreatDoor
open Go.ChangeShapes Go.WideShapes Go.ChangeAt Go.RowKit
attribute [local go_sem ↓] Go.wp_at_zero Go.wp_at_succ
attribute [local go_sem] Oper.semAt_some
def insL : List ByteArray → ByteArray → List ByteArray
  | [], s => [s]
  | x :: l, s => if lessS x s then x :: insL l s else if sameS x s then x :: l else s :: x :: l
theorem ins_at : ∀ (L : List ByteArray) (s : ByteArray) (k : Nat), (∀ y ∈ L.take k, lessS y s = true) → k ≤ L.length → (∀ y, L[k]? = some y → lessS y s = false ∧ sameS y s = false) → insL L s = L.take k ++ s :: L.drop k
  | [], s, k, _, hk, _ => by
    have : k = 0 := by simpa using hk
    subst this
    rfl
  | x :: l, s, 0, _, _, h => by
    obtain ⟨h1, h2⟩ := h x rfl
    show (if lessS x s then x :: insL l s else if sameS x s then x :: l else s :: x :: l) = _
    rw [if_neg (by rw [h1]; decide), if_neg (by rw [h2]; decide)]
    rfl
  | x :: l, s, k + 1, h0, hk, h => by
    have hx := h0 x (by simp)
    show (if lessS x s then x :: insL l s else if sameS x s then x :: l else s :: x :: l) = _
    rw [if_pos hx, ins_at l s k (fun y hy => h0 y (by simp [hy])) (by simpa using hk) (fun y hy => h y (by simpa using hy))]
    rfl
theorem ins_same : ∀ (L : List ByteArray) (s : ByteArray) (k : Nat) (y : ByteArray), (∀ y ∈ L.take k, lessS y s = true) → L[k]? = some y → lessS y s = false → sameS y s = true → insL L s = L
  | [], s, k, y, _, hk, _, _ => by simp at hk
  | x :: l, s, 0, y, _, hk, h1, h2 => by
    have e : x = y := by simpa using hk
    subst e
    show (if lessS x s then x :: insL l s else if sameS x s then x :: l else s :: x :: l) = _
    rw [if_neg (by rw [h1]; decide), if_pos h2]
  | x :: l, s, k + 1, y, h0, hk, h1, h2 => by
    have hx := h0 x (by simp)
    show (if lessS x s then x :: insL l s else if sameS x s then x :: l else s :: x :: l) = _
    rw [if_pos hx, ins_same l s k y (fun y hy => h0 y (by simp [hy])) (by simpa using hk) h1 h2]
theorem ch_nil {w wk w5 : World} (h : Below w.heap.size w wk) (hg : wk.grownBy w5 (Value.slice none 0 0).ownBlock) : Below w.heap.size w w5 := h.grown hg h.size (fun k hk => by simp [Value.ownBlock] at hk)
theorem rd_keep {w w5 : World} {g : Nat} {u : Value} (h : w.cell? ⟨g, 0, none⟩ = some u) (hl : g < w.heap.size) (hg : w.grownBy w5 (Value.slice none 0 0).ownBlock) : Rd w5 (some ⟨g, 0, none⟩) 1 1 [u] :=
  Rd.one (((ch_nil (Below.refl w.heap.size w) hg).cell (p := ⟨g, 0, none⟩) hl).trans h)
theorem rdS_take {w : World} {B b o k n : Nat} {vs : List Value} (h : Sl w B (some ⟨b, o, none⟩) vs) (hl : vs.length = n) (hk : k ≤ n) : Rd w (some ⟨b, o, none⟩) k 1 (vs.take k) := by
  refine ⟨by rw [List.length_take]; omega, ?_⟩
  rcases h with h | ⟨b2, o2, he, _, hc⟩
  · left
    have : n = 0 := by rw [← hl, h]; rfl
    omega
  · right
    cases he
    refine ⟨b, o, rfl, fun j u hj => ?_⟩
    have hlt := (List.getElem?_eq_some_iff.1 hj).1
    rw [List.length_take] at hlt
    rw [List.getElem?_take_of_lt (by omega)] at hj
    exact hc j u hj
theorem rdS_drop {w : World} {B b o k n c : Nat} {vs : List Value} (h : Sl w B (some ⟨b, o, none⟩) vs) (hl : vs.length = n) (hk : k ≤ n) (hc : n ≤ c) : Rd w (if c = k then some ⟨b, o, none⟩ else some ⟨b, o + k, none⟩) (n - k) 1 (vs.drop k) := by
  refine ⟨by rw [List.length_drop, hl]; omega, ?_⟩
  by_cases hcc : c = k
  · left
    omega
  · rcases h with h | ⟨b2, o2, he, _, hq⟩
    · left
      have : n = 0 := by rw [← hl, h]; rfl
      omega
    · right
      cases he
      rw [if_neg hcc]
      refine ⟨b, o + k, rfl, fun j u hj => ?_⟩
      rw [List.getElem?_drop] at hj
      have := hq (k + j) u hj
      rw [show o + k + j = o + (k + j) by omega]
      exact this
theorem into_any (L : List ByteArray) (A : Option Addr) (n c : Nat) (x : ByteArray) (w : World) (hn : L.length = n) (hS : Sl w w.heap.size A (L.map strV)) (hnc : n ≤ c) (hcm : c ≤ maxLen) (hn6 : n ≤ 1000000) (h0 : n = 0 → A = none ∧ c = 0) :
    Calls Tryz.prog 59 #[.slice A n c, .string x] w fun e' w' => ∃ (A' : Option Addr) (c' m : Nat), e' = .returned (.slice A' m c') ∧ m = (insL L x).length ∧ m ≤ c' ∧ c' ≤ maxLen ∧ 0 < m ∧ Sl w' w'.heap.size A' ((insL L x).map strV) ∧ Below w.heap.size w w' := by
  have HNN := Lib.hid hn
  rcases Nat.eq_zero_or_pos n with hz | hz
  · obtain ⟨rfl, rfl⟩ := h0 hz
    subst hz
    have HIN : Hid (insL L x = L.take 0 ++ x :: L.drop 0) := Lib.hid (by rw [List.eq_nil_of_length_eq_zero hn]; rfl)
    clear h0 hn hS
    go_enter Tryz.func59, Tryz.ntmps59
    go_wp2_with fail
    go_loop [5] (fun i => i = .int .i64 0) (fun _ => 0)
    case atStart => rfl
    case round =>
      obtain rfl := hrel
      have bAL : Below w.heap.size w (w.alloc (.cells #[.string x] 9)).drew := drew_below ((Below.refl _ _).alloc (Nat.le_refl _) _)
      have cxB : (w.alloc (.cells #[.string x] 9)).drew.cell? ⟨w.heap.size, 0, none⟩ = some (.string x) := by
        show (w.alloc (.cells #[.string x] 9)).cell? ⟨w.heap.size, 0, none⟩ = some (.string x)
        rw [Joins.cell_of_block (heap_alloc_new w _)]
        rfl
      have hqs : ∀ u ∈ [Value.string x], u.oneCell' = true := fun u hu => by
        simp at hu
        subst hu
        rfl
      have honeT : ∀ u ∈ (L.map strV).take 0, u.oneCell' = true := fun u hu => by
        obtain ⟨x, _, rfl⟩ := List.mem_map.1 (List.mem_of_mem_take hu)
        rfl
      have honeD : ∀ u ∈ (L.map strV).drop 0, u.oneCell' = true := fun u hu => by
        obtain ⟨x, _, rfl⟩ := List.mem_map.1 (List.mem_of_mem_drop hu)
        rfl
      have rdN1 : ∀ w : World, Rd w none 0 1 ((L.map strV).take 0) := fun w => ⟨by simp, Or.inl rfl⟩
      have rdN2 : ∀ w : World, Rd w none 0 1 ((L.map strV).drop 0) := fun w => ⟨by rw [List.drop_zero, List.length_map, HNN.out], Or.inl rfl⟩
      go_upto_region 6 with fail
      refine wp_region_noPanic ?_
      refine wp_region_held_drew (S := (fun _ => True)) (by kernel_rfl) ?_ (fun hHeld => ?_)
      · trivial
      refine tk 0 ?_; try simp only [Act.put, pz1, pz2, pz3]
      refine tk 1 ?_; try simp only [Act.put, pz1, pz2, pz3]
      refine tk 2 ?_; try simp only [Act.put, pz1, pz2, pz3]
      refine tk 4 ?_; try simp only [Act.put, pz1, pz2, pz3]
      refine tk 7 ?_; try simp only [Act.put, pz1, pz2, pz3]
      refine tk 8 ?_; try simp only [Act.put, pz1, pz2, pz3]
      refine tk 9 ?_; try simp only [Act.put, pz1, pz2, pz3]
      refine wpAnyH_ready (rs := [3, 5]) (by kernel_rfl) (by simp) ?_
      refine (AllReadyH.cons (o := ⟨some 36, .call { callee := .builtin .append, args := #[.const (.slice none 0 0), .tmp 35], argTypes := #[38, 38] }, 38, "ref.go:31", #[⟨2, .data⟩], none⟩) rfl (fun K hK => ?_) (AllReadyH.cons (o := ⟨some 38, .buildSlice 38 1 #[(0, .tmp 37)], 38, "ref.go:31", #[⟨4, .data⟩], none⟩) rfl (fun K hK => ?_) AllReadyH.nil))
      · obtain ⟨ti0, hi, hz0, hz1, hz2⟩ := info_parts infoSt
        refine step_app _ rfl (.const (.slice none 0 0)) (.tmp 35) _ rfl w.heap.size 9 ti0 _ 1 16 Tryz.underlying38 hi hz0 hz1 hz2 rfl (by decide) (.slice none 0 0) 0 ([]) rfl (World.ownsRow_nil _ _ _ _) _ 0 _ ((L.map strV).take 0) rfl (rdN1 _) honeT (by unfold maxLen; omega) (by omega) (by first | exact Nat.le_refl _ | (simp; done) | (simp; omega)) ?_
        intro v5 w5 ho5 hg5 hv5
        clear hi hz0 hz1 hz2
        rw [Nat.zero_add, List.nil_append] at ho5
        have b5 : Below w.heap.size w w5 := (by first | exact ch_nil (below_dr w) hg5 | exact ch_nil bAL hg5)
        (try have RxB := rd_keep cxB (by simp) hg5)
        refine hK.out _ _ ?_ (fun hNew => ?_)
        · trivial
        clear hK K hHeld
        have hHeld := hNew
        clear hNew
        try simp only [Act.put, pz1, pz2, pz3]
        refine wpAnyH_ready (rs := [5]) (by kernel_rfl) (by simp) ?_
        refine AllReadyH.cons (o := ⟨some 38, .buildSlice 38 1 #[(0, .tmp 37)], 38, "ref.go:31", #[⟨4, .data⟩], none⟩) rfl (fun K hK => ?_) AllReadyH.nil
        go_simp
        refine hK.out _ _ ?_ (fun hNew => ?_)
        · trivial
        clear hK K hHeld
        have hHeld := hNew
        clear hNew
        try simp only [Act.put, pz1, pz2, pz3]
        refine wpAnyH_ready (rs := [6]) (by kernel_rfl) (by simp) ?_
        refine AllReadyH.cons (o := ⟨some 39, .call { callee := .builtin .append, args := #[.tmp 36, .tmp 38], argTypes := #[38, 38] }, 38, "ref.go:31", #[⟨3, .data⟩, ⟨5, .data⟩, ⟨3, .chain⟩], none⟩) rfl (fun K hK => ?_) AllReadyH.nil
        obtain ⟨ti0, hi, hz0, hz1, hz2⟩ := info_parts infoSt
        refine step_app _ rfl (.tmp 36) (.tmp 38) _ rfl w.heap.size 9 ti0 _ 1 16 Tryz.underlying38 hi hz0 hz1 hz2 rfl (by decide) (v5) 0 ((L.map strV).take 0) rfl (by first | exact ho5 | exact ho5.alloc _) _ 1 _ ([.string x]) rfl (by first | exact rd_newS w5 _ rfl | exact RxB) hqs (by unfold maxLen; omega) (by omega) (by first | exact b5.size | (have := b5.size; simp; omega)) ?_
        intro v7 w7 ho7 hg7 hv7
        clear hi hz0 hz1 hz2
        have b7 : Below w.heap.size w w7 := (by first | exact b5.trans (below_app (Nat.le_refl _) b5.size ho5 hg7) | exact (b5.alloc b5.size _).trans (below_app (Nat.le_refl _) (by have := b5.size; simp; omega) (ho5.alloc _) hg7))
        refine hK.out _ _ ?_ (fun hNew => ?_)
        · trivial
        clear hK K hHeld
        have hHeld := hNew
        clear hNew
        try simp only [Act.put, pz1, pz2, pz3]
        refine wpAnyH_ready (rs := [10]) (by kernel_rfl) (by simp) ?_
        refine AllReadyH.cons (o := ⟨some 43, .call { callee := .builtin .append, args := #[.tmp 39, .tmp 42], argTypes := #[38, 38] }, 38, "ref.go:31", #[⟨6, .data⟩, ⟨9, .data⟩, ⟨6, .chain⟩], none⟩) rfl (fun K hK => ?_) AllReadyH.nil
        obtain ⟨ti0, hi, hz0, hz1, hz2⟩ := info_parts infoSt
        refine step_app _ rfl (.tmp 39) (.tmp 42) _ rfl w.heap.size 9 ti0 _ 1 16 Tryz.underlying38 hi hz0 hz1 hz2 rfl (by decide) (v7) (0 + 1) ((L.map strV).take 0 ++ [.string x]) rfl ho7 _ 0 _ ((L.map strV).drop 0) rfl (rdN2 _) honeD (by unfold maxLen; omega) (by omega) b7.size ?_
        intro v8 w8 ho8 hg8 hv8
        clear hi hz0 hz1 hz2
        (try generalize (if c = k then (some ⟨b1, o1, none⟩ : Option Addr) else some ⟨b1, o1 + k, none⟩) = A22)
        have b8 := b7.trans (below_app (Nat.le_refl _) b7.size ho7 hg8)
        obtain ⟨A8, c8, rfl, hc8, hm8⟩ := own_shape ho8
        refine hK.out _ _ ?_ (fun hNew => ?_)
        · trivial
        clear hK K hHeld
        have hHeld := hNew
        clear hNew
        try simp only [Act.put, pz1, pz2, pz3]
        refine tk 11 ?_; try simp only [Act.put, pz1, pz2, pz3]
        refine wpAnyH_done (by kernel_rfl) ?_ _
        refine NoPanic.normal ?_
        go_wp2_with fail
        go_ret
        refine ⟨A8, c8, _, rfl, ?_, hc8, hm8, by omega, ?_, (by first | exact b8 | exact drew_below b8)⟩
        · rw [HIN.out]
          simp [HNN.out]
          (try omega)
        · rw [HIN.out]
          have h9 := Sl.of_own ho8
          rw [← List.map_take, ← List.map_drop] at h9
          (first | (simpa [strV] using h9) | exact (by simpa [strV] using Sl.mono_ (Sl.below h9 (below_dr _)) (Nat.le_refl _)))
      · go_simp
        refine hK.out _ _ ?_ (fun hNew => ?_)
        · trivial
        clear hK K hHeld
        have hHeld := hNew
        clear hNew
        try simp only [Act.put, pz1, pz2, pz3]
        refine wpAnyH_ready (rs := [3]) (by kernel_rfl) (by simp) ?_
        refine AllReadyH.cons (o := ⟨some 36, .call { callee := .builtin .append, args := #[.const (.slice none 0 0), .tmp 35], argTypes := #[38, 38] }, 38, "ref.go:31", #[⟨2, .data⟩], none⟩) rfl (fun K hK => ?_) AllReadyH.nil
        obtain ⟨ti0, hi, hz0, hz1, hz2⟩ := info_parts infoSt
        refine step_app _ rfl (.const (.slice none 0 0)) (.tmp 35) _ rfl w.heap.size 9 ti0 _ 1 16 Tryz.underlying38 hi hz0 hz1 hz2 rfl (by decide) (.slice none 0 0) 0 ([]) rfl (World.ownsRow_nil _ _ _ _) _ 0 _ ((L.map strV).take 0) rfl (rdN1 _) honeT (by unfold maxLen; omega) (by omega) (by first | exact Nat.le_refl _ | (simp; done) | (simp; omega)) ?_
        intro v5 w5 ho5 hg5 hv5
        clear hi hz0 hz1 hz2
        rw [Nat.zero_add, List.nil_append] at ho5
        have b5 : Below w.heap.size w w5 := (by first | exact ch_nil (below_dr w) hg5 | exact ch_nil bAL hg5)
        (try have RxB := rd_keep cxB (by simp) hg5)
        refine hK.out _ _ ?_ (fun hNew => ?_)
        · trivial
        clear hK K hHeld
        have hHeld := hNew
        clear hNew
        try simp only [Act.put, pz1, pz2, pz3]
        refine wpAnyH_ready (rs := [6]) (by kernel_rfl) (by simp) ?_
        refine AllReadyH.cons (o := ⟨some 39, .call { callee := .builtin .append, args := #[.tmp 36, .tmp 38], argTypes := #[38, 38] }, 38, "ref.go:31", #[⟨3, .data⟩, ⟨5, .data⟩, ⟨3, .chain⟩], none⟩) rfl (fun K hK => ?_) AllReadyH.nil
        obtain ⟨ti0, hi, hz0, hz1, hz2⟩ := info_parts infoSt
        refine step_app _ rfl (.tmp 36) (.tmp 38) _ rfl w.heap.size 9 ti0 _ 1 16 Tryz.underlying38 hi hz0 hz1 hz2 rfl (by decide) (v5) 0 ((L.map strV).take 0) rfl (by first | exact ho5 | exact ho5.alloc _) _ 1 _ ([.string x]) rfl (by first | exact rd_newS w5 _ rfl | exact RxB) hqs (by unfold maxLen; omega) (by omega) (by first | exact b5.size | (have := b5.size; simp; omega)) ?_
        intro v7 w7 ho7 hg7 hv7
        clear hi hz0 hz1 hz2
        have b7 : Below w.heap.size w w7 := (by first | exact b5.trans (below_app (Nat.le_refl _) b5.size ho5 hg7) | exact (b5.alloc b5.size _).trans (below_app (Nat.le_refl _) (by have := b5.size; simp; omega) (ho5.alloc _) hg7))
        refine hK.out _ _ ?_ (fun hNew => ?_)
        · trivial
        clear hK K hHeld
        have hHeld := hNew
        clear hNew
        try simp only [Act.put, pz1, pz2, pz3]
        refine wpAnyH_ready (rs := [10]) (by kernel_rfl) (by simp) ?_
        refine AllReadyH.cons (o := ⟨some 43, .call { callee := .builtin .append, args := #[.tmp 39, .tmp 42], argTypes := #[38, 38] }, 38, "ref.go:31", #[⟨6, .data⟩, ⟨9, .data⟩, ⟨6, .chain⟩], none⟩) rfl (fun K hK => ?_) AllReadyH.nil
        obtain ⟨ti0, hi, hz0, hz1, hz2⟩ := info_parts infoSt
        refine step_app _ rfl (.tmp 39) (.tmp 42) _ rfl w.heap.size 9 ti0 _ 1 16 Tryz.underlying38 hi hz0 hz1 hz2 rfl (by decide) (v7) (0 + 1) ((L.map strV).take 0 ++ [.string x]) rfl ho7 _ 0 _ ((L.map strV).drop 0) rfl (rdN2 _) honeD (by unfold maxLen; omega) (by omega) b7.size ?_
        intro v8 w8 ho8 hg8 hv8
        clear hi hz0 hz1 hz2
        (try generalize (if c = k then (some ⟨b1, o1, none⟩ : Option Addr) else some ⟨b1, o1 + k, none⟩) = A22)
        have b8 := b7.trans (below_app (Nat.le_refl _) b7.size ho7 hg8)
        obtain ⟨A8, c8, rfl, hc8, hm8⟩ := own_shape ho8
        refine hK.out _ _ ?_ (fun hNew => ?_)
        · trivial
        clear hK K hHeld
        have hHeld := hNew
        clear hNew
        try simp only [Act.put, pz1, pz2, pz3]
        refine tk 11 ?_; try simp only [Act.put, pz1, pz2, pz3]
        refine wpAnyH_done (by kernel_rfl) ?_ _
        refine NoPanic.normal ?_
        go_wp2_with fail
        go_ret
        refine ⟨A8, c8, _, rfl, ?_, hc8, hm8, by omega, ?_, (by first | exact b8 | exact drew_below b8)⟩
        · rw [HIN.out]
          simp [HNN.out]
          (try omega)
        · rw [HIN.out]
          have h9 := Sl.of_own ho8
          rw [← List.map_take, ← List.map_drop] at h9
          (first | (simpa [strV] using h9) | exact (by simpa [strV] using Sl.mono_ (Sl.below h9 (below_dr _)) (Nat.le_refl _)))
  · have hML : (L.map strV).length = n := by rw [List.length_map, hn]
    have HML := Lib.hid hML
    have hS0 := hS
    obtain ⟨b1, o1, rfl, l1, q1⟩ := hS0.at_ (by rw [hML]; exact hz)
    clear h0 hn hML hS0
    go_enter Tryz.func59, Tryz.ntmps59
    go_wp2_with fail
    go_loop [5] (fun i => ∃ k : Nat, k ≤ n ∧ i = .int .i64 k ∧ Hid (∀ y ∈ L.take k, lessS y x = true)) (fun i => n - (intOf i).toNat)
    case atStart => exact ⟨0, by omega, rfl, Lib.hid (fun y hy => by simp at hy)⟩
    case round =>
      obtain ⟨k, hk, rfl, HK⟩ := hrel
      have i0 : (0 : Int) ≤ (k : Int) := by omega
      by_cases hlt : k < n
      · have i1 : (k : Int) < (n : Int) := by omega
        obtain ⟨y, hy⟩ : ∃ y, L[k]? = some y := ⟨_, List.getElem?_eq_getElem (by have := HNN.out; omega)⟩
        have cy : w.cell? ⟨b1, o1 + k, none⟩ = some (.string y) := q1 k _ (by rw [List.getElem?_map, hy]; rfl)
        have HY := Lib.hid hy
        clear hy
        rcases (by cases hq : Op.bytesLess y.toList x.toList <;> simp : Op.bytesLess y.toList x.toList = true ∨ Op.bytesLess y.toList x.toList = false) with hp | hp
        · have HK2 : Hid (∀ z ∈ L.take (k + 1), lessS z x = true) := Lib.hid (take_all HK.out HY.out hp)
          clear q1
          go_wp2_with fail
          go_round
          case rel => exact ⟨k + 1, by omega, by go_num, HK2⟩
          case measure => simp [intOf]; omega
        · rcases (by cases hq : (y.toList == x.toList) <;> simp : (y.toList == x.toList) = true ∨ (y.toList == x.toList) = false) with hr | hr
          · have HIN : Hid (insL L x = L) := Lib.hid (ins_same L x k y HK.out HY.out hp hr)
            clear q1
            go_wp2_with fail
            go_ret
            exact ⟨_, _, n, rfl, by rw [HIN.out, HNN.out], hnc, hcm, hz, by rw [HIN.out]; exact hS, Below.refl _ _⟩
          · have HIN : Hid (insL L x = L.take k ++ x :: L.drop k) := Lib.hid (ins_at L x k HK.out (by have := HNN.out; omega) (fun z hz2 => by rw [HY.out] at hz2; cases hz2; exact ⟨hp, hr⟩))
            have hML := HML.out
            clear q1
            have hkc : k ≤ c := by omega
            have bAL : Below w.heap.size w (w.alloc (.cells #[.string x] 9)).drew := drew_below ((Below.refl _ _).alloc (Nat.le_refl _) _)
            have cxB : (w.alloc (.cells #[.string x] 9)).drew.cell? ⟨w.heap.size, 0, none⟩ = some (.string x) := by
              show (w.alloc (.cells #[.string x] 9)).cell? ⟨w.heap.size, 0, none⟩ = some (.string x)
              rw [Joins.cell_of_block (heap_alloc_new w _)]
              rfl
            have hqs : ∀ u ∈ [Value.string x], u.oneCell' = true := fun u hu => by
              simp at hu
              subst hu
              rfl
            have honeT : ∀ u ∈ (L.map strV).take k, u.oneCell' = true := fun u hu => by
              obtain ⟨x, _, rfl⟩ := List.mem_map.1 (List.mem_of_mem_take hu)
              rfl
            have honeD : ∀ u ∈ (L.map strV).drop k, u.oneCell' = true := fun u hu => by
              obtain ⟨x, _, rfl⟩ := List.mem_map.1 (List.mem_of_mem_drop hu)
              rfl
            go_upto_region 6 with fail
            refine wp_region_noPanic ?_
            refine wp_region_held_drew (S := (fun _ => True)) (by kernel_rfl) ?_ (fun hHeld => ?_)
            · trivial
            refine tk 0 ?_; try simp only [Act.put, pz1, pz2, pz3]
            refine tk 1 ?_; try simp only [Act.put, pz1, pz2, pz3]
            refine tk 2 ?_; try simp only [Act.put, pz1, pz2, pz3]
            refine tk 4 ?_; try simp only [Act.put, pz1, pz2, pz3]
            refine tk 7 ?_; try simp only [Act.put, pz1, pz2, pz3]
            refine tk 8 ?_; try simp only [Act.put, pz1, pz2, pz3]
            refine tk 9 ?_; try simp only [Act.put, pz1, pz2, pz3]
            refine wpAnyH_ready (rs := [3, 5]) (by kernel_rfl) (by simp) ?_
            refine (AllReadyH.cons (o := ⟨some 36, .call { callee := .builtin .append, args := #[.const (.slice none 0 0), .tmp 35], argTypes := #[38, 38] }, 38, "ref.go:31", #[⟨2, .data⟩], none⟩) rfl (fun K hK => ?_) (AllReadyH.cons (o := ⟨some 38, .buildSlice 38 1 #[(0, .tmp 37)], 38, "ref.go:31", #[⟨4, .data⟩], none⟩) rfl (fun K hK => ?_) AllReadyH.nil))
            · obtain ⟨ti0, hi, hz0, hz1, hz2⟩ := info_parts infoSt
              refine step_app _ rfl (.const (.slice none 0 0)) (.tmp 35) _ rfl w.heap.size 9 ti0 _ 1 16 Tryz.underlying38 hi hz0 hz1 hz2 rfl (by decide) (.slice none 0 0) 0 ([]) rfl (World.ownsRow_nil _ _ _ _) _ k _ ((L.map strV).take k) rfl (by first | exact rdS_take (Sl.below hS (below_dr w)) hML hk | exact rdS_take (Sl.below hS bAL) hML hk) honeT (by unfold maxLen; omega) (by omega) (by first | exact Nat.le_refl _ | (simp; done) | (simp; omega)) ?_
              intro v5 w5 ho5 hg5 hv5
              clear hi hz0 hz1 hz2
              rw [Nat.zero_add, List.nil_append] at ho5
              have b5 : Below w.heap.size w w5 := (by first | exact ch_nil (below_dr w) hg5 | exact ch_nil bAL hg5)
              (try have RxB := rd_keep cxB (by simp) hg5)
              refine hK.out _ _ ?_ (fun hNew => ?_)
              · trivial
              clear hK K hHeld
              have hHeld := hNew
              clear hNew
              try simp only [Act.put, pz1, pz2, pz3]
              refine wpAnyH_ready (rs := [5]) (by kernel_rfl) (by simp) ?_
              refine AllReadyH.cons (o := ⟨some 38, .buildSlice 38 1 #[(0, .tmp 37)], 38, "ref.go:31", #[⟨4, .data⟩], none⟩) rfl (fun K hK => ?_) AllReadyH.nil
              go_simp
              refine hK.out _ _ ?_ (fun hNew => ?_)
              · trivial
              clear hK K hHeld
              have hHeld := hNew
              clear hNew
              try simp only [Act.put, pz1, pz2, pz3]
              refine wpAnyH_ready (rs := [6]) (by kernel_rfl) (by simp) ?_
              refine AllReadyH.cons (o := ⟨some 39, .call { callee := .builtin .append, args := #[.tmp 36, .tmp 38], argTypes := #[38, 38] }, 38, "ref.go:31", #[⟨3, .data⟩, ⟨5, .data⟩, ⟨3, .chain⟩], none⟩) rfl (fun K hK => ?_) AllReadyH.nil
              obtain ⟨ti0, hi, hz0, hz1, hz2⟩ := info_parts infoSt
              refine step_app _ rfl (.tmp 36) (.tmp 38) _ rfl w.heap.size 9 ti0 _ 1 16 Tryz.underlying38 hi hz0 hz1 hz2 rfl (by decide) (v5) k ((L.map strV).take k) rfl (by first | exact ho5 | exact ho5.alloc _) _ 1 _ ([.string x]) rfl (by first | exact rd_newS w5 _ rfl | exact RxB) hqs (by unfold maxLen; omega) (by omega) (by first | exact b5.size | (have := b5.size; simp; omega)) ?_
              intro v7 w7 ho7 hg7 hv7
              clear hi hz0 hz1 hz2
              have b7 : Below w.heap.size w w7 := (by first | exact b5.trans (below_app (Nat.le_refl _) b5.size ho5 hg7) | exact (b5.alloc b5.size _).trans (below_app (Nat.le_refl _) (by have := b5.size; simp; omega) (ho5.alloc _) hg7))
              refine hK.out _ _ ?_ (fun hNew => ?_)
              · trivial
              clear hK K hHeld
              have hHeld := hNew
              clear hNew
              try simp only [Act.put, pz1, pz2, pz3]
              refine wpAnyH_ready (rs := [10]) (by kernel_rfl) (by simp) ?_
              refine AllReadyH.cons (o := ⟨some 43, .call { callee := .builtin .append, args := #[.tmp 39, .tmp 42], argTypes := #[38, 38] }, 38, "ref.go:31", #[⟨6, .data⟩, ⟨9, .data⟩, ⟨6, .chain⟩], none⟩) rfl (fun K hK => ?_) AllReadyH.nil
              obtain ⟨ti0, hi, hz0, hz1, hz2⟩ := info_parts infoSt
              refine step_app _ rfl (.tmp 39) (.tmp 42) _ rfl w.heap.size 9 ti0 _ 1 16 Tryz.underlying38 hi hz0 hz1 hz2 rfl (by decide) (v7) (k + 1) ((L.map strV).take k ++ [.string x]) rfl ho7 _ (n - k) _ ((L.map strV).drop k) rfl (rdS_drop (Sl.below hS b7) hML hk hnc) honeD (by unfold maxLen; omega) (by omega) b7.size ?_
              intro v8 w8 ho8 hg8 hv8
              clear hi hz0 hz1 hz2
              (try generalize (if c = k then (some ⟨b1, o1, none⟩ : Option Addr) else some ⟨b1, o1 + k, none⟩) = A22)
              have b8 := b7.trans (below_app (Nat.le_refl _) b7.size ho7 hg8)
              obtain ⟨A8, c8, rfl, hc8, hm8⟩ := own_shape ho8
              refine hK.out _ _ ?_ (fun hNew => ?_)
              · trivial
              clear hK K hHeld
              have hHeld := hNew
              clear hNew
              try simp only [Act.put, pz1, pz2, pz3]
              refine tk 11 ?_; try simp only [Act.put, pz1, pz2, pz3]
              refine wpAnyH_done (by kernel_rfl) ?_ _
              refine NoPanic.normal ?_
              go_wp2_with fail
              go_ret
              refine ⟨A8, c8, _, rfl, ?_, hc8, hm8, by omega, ?_, (by first | exact b8 | exact drew_below b8)⟩
              · rw [HIN.out]
                simp [HNN.out]
                (try omega)
              · rw [HIN.out]
                have h9 := Sl.of_own ho8
                rw [← List.map_take, ← List.map_drop] at h9
                (first | (simpa [strV] using h9) | exact (by simpa [strV] using Sl.mono_ (Sl.below h9 (below_dr _)) (Nat.le_refl _)))
            · go_simp
              refine hK.out _ _ ?_ (fun hNew => ?_)
              · trivial
              clear hK K hHeld
              have hHeld := hNew
              clear hNew
              try simp only [Act.put, pz1, pz2, pz3]
              refine wpAnyH_ready (rs := [3]) (by kernel_rfl) (by simp) ?_
              refine AllReadyH.cons (o := ⟨some 36, .call { callee := .builtin .append, args := #[.const (.slice none 0 0), .tmp 35], argTypes := #[38, 38] }, 38, "ref.go:31", #[⟨2, .data⟩], none⟩) rfl (fun K hK => ?_) AllReadyH.nil
              obtain ⟨ti0, hi, hz0, hz1, hz2⟩ := info_parts infoSt
              refine step_app _ rfl (.const (.slice none 0 0)) (.tmp 35) _ rfl w.heap.size 9 ti0 _ 1 16 Tryz.underlying38 hi hz0 hz1 hz2 rfl (by decide) (.slice none 0 0) 0 ([]) rfl (World.ownsRow_nil _ _ _ _) _ k _ ((L.map strV).take k) rfl (by first | exact rdS_take (Sl.below hS (below_dr w)) hML hk | exact rdS_take (Sl.below hS bAL) hML hk) honeT (by unfold maxLen; omega) (by omega) (by first | exact Nat.le_refl _ | (simp; done) | (simp; omega)) ?_
              intro v5 w5 ho5 hg5 hv5
              clear hi hz0 hz1 hz2
              rw [Nat.zero_add, List.nil_append] at ho5
              have b5 : Below w.heap.size w w5 := (by first | exact ch_nil (below_dr w) hg5 | exact ch_nil bAL hg5)
              (try have RxB := rd_keep cxB (by simp) hg5)
              refine hK.out _ _ ?_ (fun hNew => ?_)
              · trivial
              clear hK K hHeld
              have hHeld := hNew
              clear hNew
              try simp only [Act.put, pz1, pz2, pz3]
              refine wpAnyH_ready (rs := [6]) (by kernel_rfl) (by simp) ?_
              refine AllReadyH.cons (o := ⟨some 39, .call { callee := .builtin .append, args := #[.tmp 36, .tmp 38], argTypes := #[38, 38] }, 38, "ref.go:31", #[⟨3, .data⟩, ⟨5, .data⟩, ⟨3, .chain⟩], none⟩) rfl (fun K hK => ?_) AllReadyH.nil
              obtain ⟨ti0, hi, hz0, hz1, hz2⟩ := info_parts infoSt
              refine step_app _ rfl (.tmp 36) (.tmp 38) _ rfl w.heap.size 9 ti0 _ 1 16 Tryz.underlying38 hi hz0 hz1 hz2 rfl (by decide) (v5) k ((L.map strV).take k) rfl (by first | exact ho5 | exact ho5.alloc _) _ 1 _ ([.string x]) rfl (by first | exact rd_newS w5 _ rfl | exact RxB) hqs (by unfold maxLen; omega) (by omega) (by first | exact b5.size | (have := b5.size; simp; omega)) ?_
              intro v7 w7 ho7 hg7 hv7
              clear hi hz0 hz1 hz2
              have b7 : Below w.heap.size w w7 := (by first | exact b5.trans (below_app (Nat.le_refl _) b5.size ho5 hg7) | exact (b5.alloc b5.size _).trans (below_app (Nat.le_refl _) (by have := b5.size; simp; omega) (ho5.alloc _) hg7))
              refine hK.out _ _ ?_ (fun hNew => ?_)
              · trivial
              clear hK K hHeld
              have hHeld := hNew
              clear hNew
              try simp only [Act.put, pz1, pz2, pz3]
              refine wpAnyH_ready (rs := [10]) (by kernel_rfl) (by simp) ?_
              refine AllReadyH.cons (o := ⟨some 43, .call { callee := .builtin .append, args := #[.tmp 39, .tmp 42], argTypes := #[38, 38] }, 38, "ref.go:31", #[⟨6, .data⟩, ⟨9, .data⟩, ⟨6, .chain⟩], none⟩) rfl (fun K hK => ?_) AllReadyH.nil
              obtain ⟨ti0, hi, hz0, hz1, hz2⟩ := info_parts infoSt
              refine step_app _ rfl (.tmp 39) (.tmp 42) _ rfl w.heap.size 9 ti0 _ 1 16 Tryz.underlying38 hi hz0 hz1 hz2 rfl (by decide) (v7) (k + 1) ((L.map strV).take k ++ [.string x]) rfl ho7 _ (n - k) _ ((L.map strV).drop k) rfl (rdS_drop (Sl.below hS b7) hML hk hnc) honeD (by unfold maxLen; omega) (by omega) b7.size ?_
              intro v8 w8 ho8 hg8 hv8
              clear hi hz0 hz1 hz2
              (try generalize (if c = k then (some ⟨b1, o1, none⟩ : Option Addr) else some ⟨b1, o1 + k, none⟩) = A22)
              have b8 := b7.trans (below_app (Nat.le_refl _) b7.size ho7 hg8)
              obtain ⟨A8, c8, rfl, hc8, hm8⟩ := own_shape ho8
              refine hK.out _ _ ?_ (fun hNew => ?_)
              · trivial
              clear hK K hHeld
              have hHeld := hNew
              clear hNew
              try simp only [Act.put, pz1, pz2, pz3]
              refine tk 11 ?_; try simp only [Act.put, pz1, pz2, pz3]
              refine wpAnyH_done (by kernel_rfl) ?_ _
              refine NoPanic.normal ?_
              go_wp2_with fail
              go_ret
              refine ⟨A8, c8, _, rfl, ?_, hc8, hm8, by omega, ?_, (by first | exact b8 | exact drew_below b8)⟩
              · rw [HIN.out]
                simp [HNN.out]
                (try omega)
              · rw [HIN.out]
                have h9 := Sl.of_own ho8
                rw [← List.map_take, ← List.map_drop] at h9
                (first | (simpa [strV] using h9) | exact (by simpa [strV] using Sl.mono_ (Sl.below h9 (below_dr _)) (Nat.le_refl _)))
      · obtain rfl : n = k := by omega
        have HIN : Hid (insL L x = L.take n ++ x :: L.drop n) := Lib.hid (ins_at L x n HK.out (by have := HNN.out; omega) (fun z hz2 => by rw [List.getElem?_eq_none (by have := HNN.out; omega)] at hz2; cases hz2))
        have hML := HML.out
        clear q1
        have bAL : Below w.heap.size w (w.alloc (.cells #[.string x] 9)).drew := drew_below ((Below.refl _ _).alloc (Nat.le_refl _) _)
        have cxB : (w.alloc (.cells #[.string x] 9)).drew.cell? ⟨w.heap.size, 0, none⟩ = some (.string x) := by
          show (w.alloc (.cells #[.string x] 9)).cell? ⟨w.heap.size, 0, none⟩ = some (.string x)
          rw [Joins.cell_of_block (heap_alloc_new w _)]
          rfl
        have hqs : ∀ u ∈ [Value.string x], u.oneCell' = true := fun u hu => by
          simp at hu
          subst hu
          rfl
        have honeT : ∀ u ∈ (L.map strV).take n, u.oneCell' = true := fun u hu => by
          obtain ⟨x, _, rfl⟩ := List.mem_map.1 (List.mem_of_mem_take hu)
          rfl
        have honeD : ∀ u ∈ (L.map strV).drop n, u.oneCell' = true := fun u hu => by
          obtain ⟨x, _, rfl⟩ := List.mem_map.1 (List.mem_of_mem_drop hu)
          rfl
        go_upto_region 6 with fail
        refine wp_region_noPanic ?_
        refine wp_region_held_drew (S := (fun _ => True)) (by kernel_rfl) ?_ (fun hHeld => ?_)
        · trivial
        refine tk 0 ?_; try simp only [Act.put, pz1, pz2, pz3]
        refine tk 1 ?_; try simp only [Act.put, pz1, pz2, pz3]
        refine tk 2 ?_; try simp only [Act.put, pz1, pz2, pz3]
        refine tk 4 ?_; try simp only [Act.put, pz1, pz2, pz3]
        refine tk 7 ?_; try simp only [Act.put, pz1, pz2, pz3]
        refine tk 8 ?_; try simp only [Act.put, pz1, pz2, pz3]
        refine tk 9 ?_; try simp only [Act.put, pz1, pz2, pz3]
        refine wpAnyH_ready (rs := [3, 5]) (by kernel_rfl) (by simp) ?_
        refine (AllReadyH.cons (o := ⟨some 36, .call { callee := .builtin .append, args := #[.const (.slice none 0 0), .tmp 35], argTypes := #[38, 38] }, 38, "ref.go:31", #[⟨2, .data⟩], none⟩) rfl (fun K hK => ?_) (AllReadyH.cons (o := ⟨some 38, .buildSlice 38 1 #[(0, .tmp 37)], 38, "ref.go:31", #[⟨4, .data⟩], none⟩) rfl (fun K hK => ?_) AllReadyH.nil))
        · obtain ⟨ti0, hi, hz0, hz1, hz2⟩ := info_parts infoSt
          refine step_app _ rfl (.const (.slice none 0 0)) (.tmp 35) _ rfl w.heap.size 9 ti0 _ 1 16 Tryz.underlying38 hi hz0 hz1 hz2 rfl (by decide) (.slice none 0 0) 0 ([]) rfl (World.ownsRow_nil _ _ _ _) _ n _ ((L.map strV).take n) rfl (by first | exact rdS_take (Sl.below hS (below_dr w)) hML hk | exact rdS_take (Sl.below hS bAL) hML hk) honeT (by unfold maxLen; omega) (by omega) (by first | exact Nat.le_refl _ | (simp; done) | (simp; omega)) ?_
          intro v5 w5 ho5 hg5 hv5
          clear hi hz0 hz1 hz2
          rw [Nat.zero_add, List.nil_append] at ho5
          have b5 : Below w.heap.size w w5 := (by first | exact ch_nil (below_dr w) hg5 | exact ch_nil bAL hg5)
          (try have RxB := rd_keep cxB (by simp) hg5)
          refine hK.out _ _ ?_ (fun hNew => ?_)
          · trivial
          clear hK K hHeld
          have hHeld := hNew
          clear hNew
          try simp only [Act.put, pz1, pz2, pz3]
          refine wpAnyH_ready (rs := [5]) (by kernel_rfl) (by simp) ?_
          refine AllReadyH.cons (o := ⟨some 38, .buildSlice 38 1 #[(0, .tmp 37)], 38, "ref.go:31", #[⟨4, .data⟩], none⟩) rfl (fun K hK => ?_) AllReadyH.nil
          go_simp
          refine hK.out _ _ ?_ (fun hNew => ?_)
          · trivial
          clear hK K hHeld
          have hHeld := hNew
          clear hNew
          try simp only [Act.put, pz1, pz2, pz3]
          refine wpAnyH_ready (rs := [6]) (by kernel_rfl) (by simp) ?_
          refine AllReadyH.cons (o := ⟨some 39, .call { callee := .builtin .append, args := #[.tmp 36, .tmp 38], argTypes := #[38, 38] }, 38, "ref.go:31", #[⟨3, .data⟩, ⟨5, .data⟩, ⟨3, .chain⟩], none⟩) rfl (fun K hK => ?_) AllReadyH.nil
          obtain ⟨ti0, hi, hz0, hz1, hz2⟩ := info_parts infoSt
          refine step_app _ rfl (.tmp 36) (.tmp 38) _ rfl w.heap.size 9 ti0 _ 1 16 Tryz.underlying38 hi hz0 hz1 hz2 rfl (by decide) (v5) n ((L.map strV).take n) rfl (by first | exact ho5 | exact ho5.alloc _) _ 1 _ ([.string x]) rfl (by first | exact rd_newS w5 _ rfl | exact RxB) hqs (by unfold maxLen; omega) (by omega) (by first | exact b5.size | (have := b5.size; simp; omega)) ?_
          intro v7 w7 ho7 hg7 hv7
          clear hi hz0 hz1 hz2
          have b7 : Below w.heap.size w w7 := (by first | exact b5.trans (below_app (Nat.le_refl _) b5.size ho5 hg7) | exact (b5.alloc b5.size _).trans (below_app (Nat.le_refl _) (by have := b5.size; simp; omega) (ho5.alloc _) hg7))
          refine hK.out _ _ ?_ (fun hNew => ?_)
          · trivial
          clear hK K hHeld
          have hHeld := hNew
          clear hNew
          try simp only [Act.put, pz1, pz2, pz3]
          refine wpAnyH_ready (rs := [10]) (by kernel_rfl) (by simp) ?_
          refine AllReadyH.cons (o := ⟨some 43, .call { callee := .builtin .append, args := #[.tmp 39, .tmp 42], argTypes := #[38, 38] }, 38, "ref.go:31", #[⟨6, .data⟩, ⟨9, .data⟩, ⟨6, .chain⟩], none⟩) rfl (fun K hK => ?_) AllReadyH.nil
          obtain ⟨ti0, hi, hz0, hz1, hz2⟩ := info_parts infoSt
          refine step_app _ rfl (.tmp 39) (.tmp 42) _ rfl w.heap.size 9 ti0 _ 1 16 Tryz.underlying38 hi hz0 hz1 hz2 rfl (by decide) (v7) (n + 1) ((L.map strV).take n ++ [.string x]) rfl ho7 _ 0 _ ((L.map strV).drop n) rfl (by have h9 := rdS_drop (Sl.below hS b7) hML (Nat.le_refl n) hnc; rwa [Nat.sub_self] at h9) honeD (by unfold maxLen; omega) (by omega) b7.size ?_
          intro v8 w8 ho8 hg8 hv8
          clear hi hz0 hz1 hz2
          (try generalize (if c = n then (some ⟨b1, o1, none⟩ : Option Addr) else some ⟨b1, o1 + n, none⟩) = A22)
          have b8 := b7.trans (below_app (Nat.le_refl _) b7.size ho7 hg8)
          obtain ⟨A8, c8, rfl, hc8, hm8⟩ := own_shape ho8
          refine hK.out _ _ ?_ (fun hNew => ?_)
          · trivial
          clear hK K hHeld
          have hHeld := hNew
          clear hNew
          try simp only [Act.put, pz1, pz2, pz3]
          refine tk 11 ?_; try simp only [Act.put, pz1, pz2, pz3]
          refine wpAnyH_done (by kernel_rfl) ?_ _
          refine NoPanic.normal ?_
          go_wp2_with fail
          go_ret
          refine ⟨A8, c8, _, rfl, ?_, hc8, hm8, by omega, ?_, (by first | exact b8 | exact drew_below b8)⟩
          · rw [HIN.out]
            simp [HNN.out]
            (try omega)
          · rw [HIN.out]
            have h9 := Sl.of_own ho8
            rw [← List.map_take, ← List.map_drop] at h9
            (first | (simpa [strV] using h9) | exact (by simpa [strV] using Sl.mono_ (Sl.below h9 (below_dr _)) (Nat.le_refl _)))
        · go_simp
          refine hK.out _ _ ?_ (fun hNew => ?_)
          · trivial
          clear hK K hHeld
          have hHeld := hNew
          clear hNew
          try simp only [Act.put, pz1, pz2, pz3]
          refine wpAnyH_ready (rs := [3]) (by kernel_rfl) (by simp) ?_
          refine AllReadyH.cons (o := ⟨some 36, .call { callee := .builtin .append, args := #[.const (.slice none 0 0), .tmp 35], argTypes := #[38, 38] }, 38, "ref.go:31", #[⟨2, .data⟩], none⟩) rfl (fun K hK => ?_) AllReadyH.nil
          obtain ⟨ti0, hi, hz0, hz1, hz2⟩ := info_parts infoSt
          refine step_app _ rfl (.const (.slice none 0 0)) (.tmp 35) _ rfl w.heap.size 9 ti0 _ 1 16 Tryz.underlying38 hi hz0 hz1 hz2 rfl (by decide) (.slice none 0 0) 0 ([]) rfl (World.ownsRow_nil _ _ _ _) _ n _ ((L.map strV).take n) rfl (by first | exact rdS_take (Sl.below hS (below_dr w)) hML hk | exact rdS_take (Sl.below hS bAL) hML hk) honeT (by unfold maxLen; omega) (by omega) (by first | exact Nat.le_refl _ | (simp; done) | (simp; omega)) ?_
          intro v5 w5 ho5 hg5 hv5
          clear hi hz0 hz1 hz2
          rw [Nat.zero_add, List.nil_append] at ho5
          have b5 : Below w.heap.size w w5 := (by first | exact ch_nil (below_dr w) hg5 | exact ch_nil bAL hg5)
          (try have RxB := rd_keep cxB (by simp) hg5)
          refine hK.out _ _ ?_ (fun hNew => ?_)
          · trivial
          clear hK K hHeld
          have hHeld := hNew
          clear hNew
          try simp only [Act.put, pz1, pz2, pz3]
          refine wpAnyH_ready (rs := [6]) (by kernel_rfl) (by simp) ?_
          refine AllReadyH.cons (o := ⟨some 39, .call { callee := .builtin .append, args := #[.tmp 36, .tmp 38], argTypes := #[38, 38] }, 38, "ref.go:31", #[⟨3, .data⟩, ⟨5, .data⟩, ⟨3, .chain⟩], none⟩) rfl (fun K hK => ?_) AllReadyH.nil
          obtain ⟨ti0, hi, hz0, hz1, hz2⟩ := info_parts infoSt
          refine step_app _ rfl (.tmp 36) (.tmp 38) _ rfl w.heap.size 9 ti0 _ 1 16 Tryz.underlying38 hi hz0 hz1 hz2 rfl (by decide) (v5) n ((L.map strV).take n) rfl (by first | exact ho5 | exact ho5.alloc _) _ 1 _ ([.string x]) rfl (by first | exact rd_newS w5 _ rfl | exact RxB) hqs (by unfold maxLen; omega) (by omega) (by first | exact b5.size | (have := b5.size; simp; omega)) ?_
          intro v7 w7 ho7 hg7 hv7
          clear hi hz0 hz1 hz2
          have b7 : Below w.heap.size w w7 := (by first | exact b5.trans (below_app (Nat.le_refl _) b5.size ho5 hg7) | exact (b5.alloc b5.size _).trans (below_app (Nat.le_refl _) (by have := b5.size; simp; omega) (ho5.alloc _) hg7))
          refine hK.out _ _ ?_ (fun hNew => ?_)
          · trivial
          clear hK K hHeld
          have hHeld := hNew
          clear hNew
          try simp only [Act.put, pz1, pz2, pz3]
          refine wpAnyH_ready (rs := [10]) (by kernel_rfl) (by simp) ?_
          refine AllReadyH.cons (o := ⟨some 43, .call { callee := .builtin .append, args := #[.tmp 39, .tmp 42], argTypes := #[38, 38] }, 38, "ref.go:31", #[⟨6, .data⟩, ⟨9, .data⟩, ⟨6, .chain⟩], none⟩) rfl (fun K hK => ?_) AllReadyH.nil
          obtain ⟨ti0, hi, hz0, hz1, hz2⟩ := info_parts infoSt
          refine step_app _ rfl (.tmp 39) (.tmp 42) _ rfl w.heap.size 9 ti0 _ 1 16 Tryz.underlying38 hi hz0 hz1 hz2 rfl (by decide) (v7) (n + 1) ((L.map strV).take n ++ [.string x]) rfl ho7 _ 0 _ ((L.map strV).drop n) rfl (by have h9 := rdS_drop (Sl.below hS b7) hML (Nat.le_refl n) hnc; rwa [Nat.sub_self] at h9) honeD (by unfold maxLen; omega) (by omega) b7.size ?_
          intro v8 w8 ho8 hg8 hv8
          clear hi hz0 hz1 hz2
          (try generalize (if c = n then (some ⟨b1, o1, none⟩ : Option Addr) else some ⟨b1, o1 + n, none⟩) = A22)
          have b8 := b7.trans (below_app (Nat.le_refl _) b7.size ho7 hg8)
          obtain ⟨A8, c8, rfl, hc8, hm8⟩ := own_shape ho8
          refine hK.out _ _ ?_ (fun hNew => ?_)
          · trivial
          clear hK K hHeld
          have hHeld := hNew
          clear hNew
          try simp only [Act.put, pz1, pz2, pz3]
          refine tk 11 ?_; try simp only [Act.put, pz1, pz2, pz3]
          refine wpAnyH_done (by kernel_rfl) ?_ _
          refine NoPanic.normal ?_
          go_wp2_with fail
          go_ret
          refine ⟨A8, c8, _, rfl, ?_, hc8, hm8, by omega, ?_, (by first | exact b8 | exact drew_below b8)⟩
          · rw [HIN.out]
            simp [HNN.out]
            (try omega)
          · rw [HIN.out]
            have h9 := Sl.of_own ho8
            rw [← List.map_take, ← List.map_drop] at h9
            (first | (simpa [strV] using h9) | exact (by simpa [strV] using Sl.mono_ (Sl.below h9 (below_dr _)) (Nat.le_refl _)))
end Go.Proofs.YteokeghenjobaaaGreatDoor
namespace Go.Proofs.YteokeghenjobaaaGreatDoor
open Go.ChangeShapes Go.WideShapes Go.ChangeAt Go.RowKit
attribute [local go_sem ↓] Go.wp_at_zero Go.wp_at_succ
attribute [local go_sem] Oper.semAt_some
def wB (S : ByteArray) : List ByteArray := (wordsL S.data.toList).map bOf
structure PreF (nm W : ByteArray) : Prop where
  ne : W.data.toList ≠ []
  nb : ∀ x ∈ W.data.toList, x ≠ 32
  ns : ∀ x ∈ W.data.toList, x ≠ 47
  sz : W.data.toList.length ≤ 20
  pre : ∃ z ∈ wordsL nm.data.toList, W.data.toList <+: z
theorem PreF.read {nm W : ByteArray} (h : PreF nm W) (h1 : W.data.toList.head? ≠ some 33) (h2 : W.data.toList.head? ≠ some 35) : readL W.data.toList = some [⟨false, 0, W.data.toList⟩] :=
  read_word h.ne h.nb (by have := h.sz; omega) h1 h2 (fun e => by
    cases hq : W.data.toList with
    | nil => exact h.ne hq
    | cons x r =>
      rw [hq] at e
      exact h.ns x (by rw [hq]; simp) (Option.some.inj e))
end Go.Proofs.YteokeghenjobaaaGreatDoor
namespace Go.Proofs.YteokeghenjobaaaGreatDoor
open Go.ChangeShapes Go.WideShapes Go.ChangeAt Go.RowKit
attribute [local go_sem ↓] Go.wp_at_zero Go.wp_at_succ
attribute [local go_sem] Oper.semAt_some
theorem lessS_lt (a b : ByteArray) : lessS a b = decide (a.data.toList < b.data.toList) := by
  unfold lessS
  rw [ByteArray.toList_eq, ByteArray.toList_eq, less_lt]
theorem insL_mem : ∀ (L : List ByteArray) (s y : ByteArray), y ∈ insL L s ↔ y ∈ L ∨ y = s
  | [], s, y => by simp [insL]
  | x :: l, s, y => by
    unfold insL
    split
    · rw [List.mem_cons, insL_mem l s y, List.mem_cons]
      constructor
      · rintro (h | h | h)
        · exact Or.inl (Or.inl h)
        · exact Or.inl (Or.inr h)
        · exact Or.inr h
      · rintro ((h | h) | h)
        · exact Or.inl h
        · exact Or.inr (Or.inl h)
        · exact Or.inr (Or.inr h)
    · split
      · rename_i h
        unfold sameS at h
        rw [beq_iff_eq] at h
        have e := toList_inj_ h
        subst e
        constructor
        · exact fun h => Or.inl h
        · rintro (h | rfl)
          · exact h
          · simp
      · rw [List.mem_cons, List.mem_cons]
        constructor
        · rintro (h | h)
          · exact Or.inr h
          · exact Or.inl h
        · rintro (h | h)
          · exact Or.inr h
          · exact Or.inl h
theorem insL_rise : ∀ (L : List ByteArray) (s : ByteArray), (L.Pairwise fun a b => a.data.toList < b.data.toList) → (insL L s).Pairwise fun a b => a.data.toList < b.data.toList
  | [], s, _ => by simp [insL]
  | x :: l, s, h => by
    rw [List.pairwise_cons] at h
    unfold insL
    split
    · rename_i h1
      rw [lessS_lt] at h1
      have hlt := of_decide_eq_true h1
      rw [List.pairwise_cons]
      refine ⟨fun y hy => ?_, insL_rise l s h.2⟩
      rcases (insL_mem l s y).1 hy with hy | rfl
      · exact h.1 y hy
      · exact hlt
    · split
      · rw [List.pairwise_cons]
        exact h
      · rename_i h1 h2
        rw [lessS_lt] at h1
        have hle : s.data.toList ≤ x.data.toList := fun hl => h1 (decide_eq_true hl)
        have hlt : s.data.toList < x.data.toList := lt_of hle (fun e => h2 (by unfold sameS; rw [ByteArray.toList_eq, ByteArray.toList_eq, e]; simp))
        rw [List.pairwise_cons, List.pairwise_cons]
        refine ⟨fun y hy => ?_, h⟩
        rcases List.mem_cons.1 hy with rfl | hy
        · exact hlt
        · exact List.lt_trans hlt (h.1 y hy)
theorem insL_len : ∀ (L : List ByteArray) (s : ByteArray), (insL L s).length ≤ L.length + 1
  | [], s => by simp [insL]
  | x :: l, s => by
    unfold insL
    have := insL_len l s
    split
    · simp; omega
    · split
      · simp
      · simp
def wdsTo (q : List UInt8) (k : Nat) : List ByteArray := (((splitL q).take k).filter fun x => !x.isEmpty).foldl (fun L x => insL L (bOf x)) []
theorem wdsTo_hit {q x : List UInt8} {k : Nat} (h : (splitL q)[k]? = some x) (hx : x.isEmpty = false) : wdsTo q (k + 1) = insL (wdsTo q k) (bOf x) := by
  unfold wdsTo
  rw [List.take_add_one, h, List.filter_append, List.foldl_append]
  simp [hx]
theorem wdsTo_miss {q x : List UInt8} {k : Nat} (h : (splitL q)[k]? = some x) (hx : x.isEmpty = true) : wdsTo q (k + 1) = wdsTo q k := by
  unfold wdsTo
  rw [List.take_add_one, h, List.filter_append]
  simp [hx]
theorem wdsTo_facts (q : List UInt8) : ∀ k, ((wdsTo q k).Pairwise fun a b => a.data.toList < b.data.toList) ∧ (∀ y, y ∈ wdsTo q k ↔ ∃ x ∈ (splitL q).take k, x.isEmpty = false ∧ bOf x = y) ∧ (wdsTo q k).length ≤ k := by
  intro k
  unfold wdsTo
  have gen : ∀ (l : List (List UInt8)) (L : List ByteArray), (L.Pairwise fun a b => a.data.toList < b.data.toList) → (((l.filter fun x => !x.isEmpty).foldl (fun L x => insL L (bOf x)) L).Pairwise fun a b => a.data.toList < b.data.toList) ∧ (∀ y, y ∈ ((l.filter fun x => !x.isEmpty).foldl (fun L x => insL L (bOf x)) L) ↔ y ∈ L ∨ ∃ x ∈ l, x.isEmpty = false ∧ bOf x = y) ∧ ((l.filter fun x => !x.isEmpty).foldl (fun L x => insL L (bOf x)) L).length ≤ L.length + l.length := by
    intro l
    induction l with
    | nil => intro L hL; exact ⟨hL, fun y => by simp, by simp⟩
    | cons x l ih =>
      intro L hL
      cases hx : x.isEmpty
      · rw [List.filter_cons, hx]
        simp only [Bool.not_false, if_true, List.foldl_cons]
        obtain ⟨h1, h2, h3⟩ := ih (insL L (bOf x)) (insL_rise L _ hL)
        refine ⟨h1, fun y => ?_, ?_⟩
        · rw [h2, insL_mem]
          constructor
          · rintro ((h | h) | ⟨z, hz, h⟩)
            · exact Or.inl h
            · exact Or.inr ⟨x, by simp, hx, h.symm⟩
            · exact Or.inr ⟨z, by simp [hz], h⟩
          · rintro (h | ⟨z, hz, h4, h5⟩)
            · exact Or.inl (Or.inl h)
            · rcases List.mem_cons.1 hz with rfl | hz
              · exact Or.inl (Or.inr h5.symm)
              · exact Or.inr ⟨z, hz, h4, h5⟩
        · have := insL_len L (bOf x)
          rw [List.length_cons]
          omega
      · rw [List.filter_cons, hx]
        simp only [Bool.not_true, Bool.false_eq_true, if_false]
        obtain ⟨h1, h2, h3⟩ := ih L hL
        refine ⟨h1, fun y => ?_, by rw [List.length_cons]; omega⟩
        rw [h2]
        constructor
        · rintro (h | ⟨z, hz, h⟩)
          · exact Or.inl h
          · exact Or.inr ⟨z, by simp [hz], h⟩
        · rintro (h | ⟨z, hz, h4, h5⟩)
          · exact Or.inl h
          · rcases List.mem_cons.1 hz with rfl | hz
            · rw [hx] at h4
              cases h4
            · exact Or.inr ⟨z, hz, h4, h5⟩
  obtain ⟨h1, h2, h3⟩ := gen ((splitL q).take k) [] (by simp)
  refine ⟨h1, fun y => ?_, ?_⟩
  · rw [h2]
    simp
  · rw [List.length_take] at h3
    simp at h3
    omega
theorem wdsTo_all (q : List UInt8) : wdsTo q (splitL q).length = (wordsL q).map bOf := by
  obtain ⟨h1, h2, _⟩ := wdsTo_facts q (splitL q).length
  have e : (wdsTo q (splitL q).length).map (fun y => y.data.toList) = wordsL q := by
    refine rise_uniq (List.pairwise_map.2 h1) (words_rise q) (fun x => ?_)
    rw [List.mem_map, words_mem]
    constructor
    · rintro ⟨y, hy, rfl⟩
      obtain ⟨z, hz, h4, rfl⟩ := (h2 y).1 hy
      rw [List.take_length] at hz
      rw [bOf_l]
      exact ⟨hz, fun e => by rw [e] at h4; cases h4⟩
    · rintro ⟨h3, h4⟩
      refine ⟨bOf x, (h2 _).2 ⟨x, by rw [List.take_length]; exact h3, ?_, rfl⟩, bOf_l x⟩
      cases x with
      | nil => exact absurd rfl h4
      | cons a l => rfl
  rw [← e, List.map_map]
  have : (bOf ∘ fun y : ByteArray => y.data.toList) = id := by funext y; exact bOf_d2 y
  rw [this, List.map_id]
theorem rwords_any (q : List UInt8) (hl : q.length ≤ 100000) (w : World) : Calls Tryz.prog 22 #[.string (bOf q)] w fun e' w' => ∃ A c, e' = .returned (.slice A (wordsL q).length c) ∧ Sl w' w'.heap.size A (((wordsL q).map bOf).map strV) ∧ Below w.heap.size w w' := by
  have hp := parts_any q hl w
  obtain ⟨S, hS⟩ : ∃ S, bOf q = S := ⟨_, rfl⟩
  rw [hS] at hp ⊢
  have HP := Lib.hid hp
  obtain ⟨n, hn⟩ : ∃ n, (splitL q).length = n := ⟨_, rfl⟩
  have hn2 : n ≤ 100001 := by rw [← hn]; have := splitL_len q; omega
  have HN := Lib.hid hn
  clear hp hS hn hl
  go_enter Tryz.func22, Tryz.ntmps22
  go_upto_region 3 with (go_at_call 61; ((with_reducible refine HP.out.mono ?_); rintro e' w1 ⟨v1, rfl, hr, b1⟩; obtain ⟨A1, c1, rfl, hs1⟩ := RowS.shape hr))
  rw [HN.out]
  clear hr
  go_wp2_with fail
  go_loopw [3, 5] (fun sv i wr => ∃ (k m c : Nat) (A : Option Addr), k ≤ n ∧ i = .int .i64 k ∧ sv = .slice A m c ∧ Hid (m = (wdsTo q k).length) ∧ m ≤ k ∧ m ≤ c ∧ c ≤ maxLen ∧ (m = 0 → A = none ∧ c = 0) ∧ Sl wr wr.heap.size A ((wdsTo q k).map strV) ∧ Below w1.heap.size w1 wr) (fun _ i _ => n - (intOf i).toNat)
  case atStart => exact ⟨0, 0, 0, none, by omega, rfl, rfl, Lib.hid rfl, by omega, by omega, by unfold maxLen; omega, fun _ => ⟨rfl, rfl⟩, Or.inl rfl, Below.refl _ _⟩
  case round =>
    obtain ⟨k, m, c, A, hk, rfl, rfl, HM, hmk, hmc, hcm, h0, hS, HBr⟩ := hrel
    by_cases hlt : k < n
    · have hlx : k < (splitL q).length := by have := HN.out; omega
      obtain ⟨b2, o2, rfl, l2, q2⟩ := hs1.at_ (by rw [List.length_map, List.length_map]; omega)
      obtain ⟨x, hx⟩ : ∃ x, (splitL q)[k]? = some x := ⟨_, List.getElem?_eq_getElem hlx⟩
      have cx : wr.cell? ⟨b2, o2 + k, none⟩ = some (.string (bOf x)) := (HBr.cell (p := ⟨b2, _, none⟩) l2).trans (q2 k _ (by rw [List.getElem?_map, List.getElem?_map, hx]; rfl))
      have i0 : (0 : Int) ≤ (k : Int) := by omega
      have i1 : (k : Int) < (n : Int) := by omega
      have he := emp_b x
      obtain ⟨Y, hY⟩ : ∃ Y, bOf x = Y := ⟨_, rfl⟩
      rw [hY] at cx he
      have HX := Lib.hid hx
      have HY := Lib.hid hY
      clear q2 hx hlx hY
      cases hxe : x.isEmpty
      · rw [hxe] at he
        have HIN := Lib.hid (into_any (wdsTo q k) A m c Y wr HM.out.symm hS hmc hcm (by omega) h0)
        have HW : Hid (insL (wdsTo q k) Y = wdsTo q (k + 1)) := Lib.hid (by rw [← HY.out]; exact (wdsTo_hit HX.out hxe).symm)
        clear hxe h0 hS
        go_wp2_with (go_at_call 59; ((with_reducible refine HIN.out.mono ?_); rintro e' w2 ⟨A2, c2, m2, rfl, hm2, hmc2, hcm2, hpos, hS2, b2'⟩; rw [HW.out] at hm2 hS2; have HM2 := Lib.hid hm2; clear hm2))
        have hl2 : m2 ≤ k + 1 := by rw [HM2.out]; exact (wdsTo_facts q (k + 1)).2.2
        go_roundw
        case rel => exact ⟨k + 1, m2, c2, A2, by omega, by go_num, rfl, HM2, hl2, hmc2, hcm2, fun e => absurd e (by omega), hS2, btr HBr HBr.size b2'⟩
        case measure => simp [intOf]; omega
      · rw [hxe] at he
        have HW : Hid (wdsTo q k = wdsTo q (k + 1)) := Lib.hid (wdsTo_miss HX.out hxe).symm
        clear hxe
        go_wp2_with fail
        go_roundw
        case rel => exact ⟨k + 1, m, c, A, by omega, by go_num, rfl, Lib.hid (by rw [← HW.out]; exact HM.out), by omega, hmc, hcm, h0, (by rw [← HW.out]; exact hS), HBr⟩
        case measure => simp [intOf]; omega
    · obtain rfl : n = k := by omega
      clear hlt
      go_wp2_with fail
      go_ret
      have hall : wdsTo q n = (wordsL q).map bOf := by rw [← HN.out]; exact wdsTo_all q
      refine ⟨A, c, ?_, by rw [← hall]; exact hS, btr b1 b1.size HBr⟩
      rw [HM.out, hall, List.length_map]
      rfl
end Go.Proofs.YteokeghenjobaaaGreatDoor
namespace Go.Proofs.YteokeghenjobaaaGreatDoor
open Go.ChangeShapes Go.WideShapes Go.ChangeAt Go.RowKit
theorem rmay_any3 (s : ByteArray) (B : Bool) (w : World) (hs : s.size ≤ 100000) (hB : nameB s.data.toList = B) :
    Calls Tryz.prog 111 #[.string s] w fun e w' => e = .returned (.bool B) ∧ w = w' := by
  have hsz := size_L s
  have HS : Hid (s.size ≤ 100000) := Lib.hid hs
  by_cases h1 : s.size < 1
  · rw [name_short (by omega)] at hB
    subst hB
    have q1 : (s.size : Int) < 1 := by omega
    clear hs hsz h1
    go_enter Tryz.func111, Tryz.ntmps111
    go_wp2
    go_ret
    exact ⟨rfl, rfl⟩
  have q1 : ¬ (s.size : Int) < 1 := by omega
  by_cases h2 : 20 < s.size
  · rw [name_short (by omega)] at hB
    subst hB
    have q2 : (20 : Int) < (s.size : Int) := by omega
    clear hs hsz h1 h2
    go_enter Tryz.func111, Tryz.ntmps111
    go_wp2
    go_ret
    exact ⟨rfl, rfl⟩
  have q2 : ¬ (20 : Int) < (s.size : Int) := by omega
  have a0 : 0 < s.size := by omega
  have a1 : s.size - 1 < s.size := by omega
  obtain ⟨V, hV⟩ : ∃ V, validL s.data.toList = V := ⟨_, rfl⟩
  obtain ⟨P, hP⟩ : ∃ V, (btL s.data.toList 0 == 32) = V := ⟨_, rfl⟩
  obtain ⟨F, hF⟩ : ∃ V, (btL s.data.toList (s.data.toList.length - 1) == 32) = V := ⟨_, rfl⟩
  obtain ⟨A, hA⟩ : ∃ V, mayFrom s.data.toList s.data.toList.length 0 = V := ⟨_, rfl⟩
  have hB2 : (!P && (!F && A)) = B := by
    have := name_parts (by omega) (by omega) hV hP hF rfl
    rw [← hB, this, ← hA, may_split, show okFrom s.data.toList s.data.toList.length 0 = V from hV]
  have at0 : (((s[0]'a0).toNat : Int) == 32) = P := by
    rw [at_L s 0 a0, ← hP, Bool.eq_iff_iff, beq_iff_eq, beq_iff_eq]
    omega
  have at1 : (((s[s.size - 1]'a1).toNat : Int) == 32) = F := by
    rw [at_L s _ a1, ← hF, hsz, Bool.eq_iff_iff, beq_iff_eq, beq_iff_eq]
    omega
  obtain ⟨L, hL⟩ : ∃ L, s.data.toList = L := ⟨_, rfl⟩
  rw [hL] at hA hsz
  have HLS := Lib.hid hL
  have AT0 := Lib.hid at0
  have AT1 := Lib.hid at1
  have HB2 := Lib.hid hB2
  have hA0 : mayFrom L L.length 0 = A := hA
  have HA := Lib.hid hA0
  have HSZ := Lib.hid hsz
  clear hV hP hF hL hs h1 hA hB hB2 at0 at1 hA0 hsz h2
  have z0 : (0 : Int) < (s.size : Int) := by omega
  have z1 : (0 : Int) ≤ (s.size : Int) - 1 := by omega
  go_enter Tryz.func111, Tryz.ntmps111
  go_upto_region 1 with fail
  go_cut [26] (fun v wx => v = .bool (P || F) ∧ wx = w)
  case first =>
    go_wp2
    all_goals (go_meet; refine ⟨?_, rfl⟩; (rw [← AT0.out, ← AT1.out] <;> first | rfl | simp [*]))
  case rest =>
  obtain ⟨rfl, rfl⟩ := hcut
  cases hD : (P || F)
  case true =>
    have hb : B = false := by
      rw [← HB2.out]
      cases P
      · simp only [Bool.false_or] at hD
        rw [hD]
        rfl
      · rfl
    subst hb
    clear hD
    go_wp2
    go_ret
    exact ⟨rfl, rfl⟩
  have hb : A = B := by
    rw [← HB2.out]
    cases P
    · simp only [Bool.false_or] at hD
      rw [hD]
      rfl
    · cases hD
  subst hb
  clear hD HB2
  go_wp2_with fail
  go_loop [3] (fun i => ∃ p b : Nat, i = .int .i64 p ∧ Hid (mayFrom L b p = A ∧ L.length ≤ p + b ∧ p ≤ L.length)) (fun i => s.size - (intOf i).toNat)
  case atStart => exact ⟨0, L.length, rfl, Lib.hid ⟨HA.out, by omega, by omega⟩⟩
  case round =>
    obtain ⟨p, b, rfl, HI⟩ := hrel
    obtain ⟨i2, i3, i5⟩ := HI.out
    have hsz := HSZ.out
    by_cases hlt : p < L.length
    · obtain ⟨b', rfl⟩ : ∃ b', b = b' + 1 := ⟨b - 1, by omega⟩
      have hp2 : p < s.size := by omega
      have j0 : (p : Int) < (s.size : Int) := by omega
      rw [mayFrom, if_pos hlt] at i2
      obtain ⟨R, N, hrn⟩ : ∃ R N, r1L L p = (R, N) := ⟨_, _, rfl⟩
      have HRN : Hid (r1L s.data.toList p = (R, N)) := Lib.hid (by rw [HLS.out]; exact hrn)
      unfold r1L at hrn
      by_cases hb : badL L p = true
      · rw [if_pos hb] at hrn i2
        simp only [Prod.mk.injEq] at hrn
        obtain ⟨rfl, rfl⟩ := hrn
        subst i2
        clear i3 i5 hb hlt hsz HA
        go_wp2_with (go_at_call 154; refine (rune1_any s p _ _ _ hp2 HS.out HRN.out).mono ?_; rintro e' w1 ⟨rfl, rfl⟩)
        go_ret
        exact ⟨rfl, rfl⟩
      · rw [if_neg hb] at hrn i2
        have hb' : badL L p = false := by simpa using hb
        have hw := runed_w (good_of hb') (by omega)
        rw [hrn] at hw i2
        simp only [] at hw i2
        have n0 : ((N : Int) == 0) = false := by simp; omega
        have k1 : p + N ≤ 100000 := by have := HS.out; omega
        have k3 : 1 ≤ N := hw.1
        have hle : p + N ≤ L.length := by omega
        clear i5 hb hb' hw hrn HA
        by_cases hm : mayR R = true
        · rw [if_pos hm] at i2
          have HK : Hid (mayFrom L b' (p + N) = A ∧ L.length ≤ p + N + b' ∧ p + N ≤ L.length) := Lib.hid ⟨i2, by omega, hle⟩
          have hr : (32 ≤ R ∧ R < 127 ∧ R ≠ 47) ∨ (32 ≤ R ∧ 160 ≤ R ∧ R ≠ 47) := by
            unfold mayR at hm
            simp only [Bool.and_eq_true, Bool.not_eq_true', Bool.or_eq_false_iff, Bool.and_eq_false_iff, decide_eq_false_iff_not, beq_eq_false_iff_ne] at hm
            omega
          clear i2 i3 hm hlt hsz hle
          rcases hr with ⟨r1, r2, r3⟩ | ⟨r1, r2, r3⟩
          · have t1 : ¬ (R : Int) < 32 := by omega
            have t2 : ¬ (127 : Int) ≤ (R : Int) := by omega
            have t3 : ((R : Int) == 47) = false := by simp; omega
            clear r1 r2 r3
            go_wp2_with (go_at_call 154; refine (rune1_any s p _ _ _ hp2 HS.out HRN.out).mono ?_; rintro e' w1 ⟨rfl, rfl⟩)
            go_round
            case rel => exact ⟨p + N, b', by go_num, HK⟩
            case measure => simp [intOf]; omega
          · have t1 : ¬ (R : Int) < 32 := by omega
            have t2 : (127 : Int) ≤ (R : Int) := by omega
            have t4 : ¬ (R : Int) < 160 := by omega
            have t3 : ((R : Int) == 47) = false := by simp; omega
            clear r1 r2 r3
            go_wp2_with (go_at_call 154; refine (rune1_any s p _ _ _ hp2 HS.out HRN.out).mono ?_; rintro e' w1 ⟨rfl, rfl⟩)
            go_round
            case rel => exact ⟨p + N, b', by go_num, HK⟩
            case measure => simp [intOf]; omega
        · rw [if_neg hm] at i2
          subst i2
          have hr : R < 32 ∨ (32 ≤ R ∧ R < 127 ∧ R = 47) ∨ (127 ≤ R ∧ R < 160) := by
            unfold mayR at hm
            simp only [Bool.and_eq_true, Bool.not_eq_true', Bool.or_eq_false_iff, Bool.and_eq_false_iff, decide_eq_false_iff_not, beq_eq_false_iff_ne] at hm
            omega
          clear i3 hm hlt hsz hle
          rcases hr with r1 | ⟨r1, r2, rfl⟩ | ⟨r1, r2⟩
          · have t1 : (R : Int) < 32 := by omega
            clear r1
            go_wp2_with (go_at_call 154; refine (rune1_any s p _ _ _ hp2 HS.out HRN.out).mono ?_; rintro e' w1 ⟨rfl, rfl⟩)
            go_ret
            exact ⟨rfl, rfl⟩
          · clear r1 r2
            go_wp2_with (go_at_call 154; refine (rune1_any s p _ _ _ hp2 HS.out HRN.out).mono ?_; rintro e' w1 ⟨rfl, rfl⟩)
            go_ret
            exact ⟨rfl, rfl⟩
          · have t1 : ¬ (R : Int) < 32 := by omega
            have t2 : (127 : Int) ≤ (R : Int) := by omega
            have t4 : (R : Int) < 160 := by omega
            clear r1 r2
            go_wp2_with (go_at_call 154; refine (rune1_any s p _ _ _ hp2 HS.out HRN.out).mono ?_; rintro e' w1 ⟨rfl, rfl⟩)
            go_ret
            exact ⟨rfl, rfl⟩
    · have j0 : ¬ (p : Int) < (s.size : Int) := by omega
      have hv : A = true := by
        rw [← i2]
        cases b with
        | zero => rfl
        | succ b => rw [mayFrom, if_neg hlt]
      subst hv
      clear i2 i3 i5 hlt hsz
      go_wp2
      go_ret
      exact ⟨rfl, rfl⟩
end Go.Proofs.YteokeghenjobaaaGreatDoor
namespace Go.Proofs.YteokeghenjobaaaGreatDoor
open Go.ChangeShapes Go.WideShapes Go.ChangeAt Go.RowKit
attribute [local go_sem ↓] Go.wp_at_zero Go.wp_at_succ
theorem rBook_any (s : Sf) (v : Value) (x : Int) (w : World) (hS : ShR w w.heap.size v s) (hsm : s.bs.length ≤ 100000 ∧ s.ts.length ≤ 100000) :
    Calls Tryz.prog 82 #[v, .int .i64 x] w fun e' w' => e' = .returned (.int .i64 (bookAt s x)) ∧ Below w.heap.size w w' := by
  have hS0 := hS
  obtain ⟨Ab, cb, An, cn, rfl, hB, hN, hcb, hmb, hcn, hmn⟩ := hS.ex
  clear hS
  have HB : Below w.heap.size w (w.alloc (.cells #[.int .i64 s.nb, .int .i64 s.nn, .int .i64 s.ns, .slice Ab s.bs.length cb, .slice An s.ts.length cn] 25)) := ((Below.refl w.heap.size w).alloc (by first | (simp; done) | (simp; omega)) _)
  have B1 : Blk (w.alloc (.cells #[.int .i64 s.nb, .int .i64 s.nn, .int .i64 s.ns, .slice Ab s.bs.length cb, .slice An s.ts.length cn] 25)) w.heap.size 25 #[.int .i64 s.nb, .int .i64 s.nn, .int .i64 s.ns, .slice Ab s.bs.length cb, .slice An s.ts.length cn] := Blk.new_ w 25 #[.int .i64 s.nb, .int .i64 s.nn, .int .i64 s.ns, .slice Ab s.bs.length cb, .slice An s.ts.length cn]
  obtain ⟨n, hn⟩ : ∃ n, s.bs.length = n := ⟨_, rfl⟩
  have hnm : n ≤ 100000 := by rw [← hn]; exact hsm.1
  have HN := Lib.hid hn
  rw [hn] at HB B1 ⊢
  have H0 : Hid ((s.bs.take 0).any (fun b : Bk => b.id == x) = false) := Lib.hid rfl
  clear hn hsm hS0
  go_enter Tryz.func82, Tryz.ntmps82
  go_wp2_with fail
  go_loop [5] (fun i => ∃ k : Nat, k ≤ n ∧ i = .int .i64 k ∧ Hid ((s.bs.take k).any (fun b : Bk => b.id == x) = false)) (fun i => n - (intOf i).toNat)
  case atStart => exact ⟨0, by omega, rfl, H0⟩
  case round =>
    obtain ⟨k, hk, rfl, HK⟩ := hrel
    clear H0
    by_cases hlt : k < n
    · have hlx : k < s.bs.length := by have := HN.out; omega
      have i0 : (0 : Int) ≤ (k : Int) := by omega
      have i1 : (k : Int) < (n : Int) := by omega
      obtain ⟨y, hx⟩ : ∃ y, s.bs[k]? = some y := ⟨_, List.getElem?_eq_getElem hlx⟩
      have he : (s.bs.map bkC)[k]? = some (bkC y) := by rw [List.getElem?_map, hx]; rfl
      obtain ⟨b1, o1, rfl, l1, q1⟩ := SlE.at_ hB (by rw [List.length_map]; omega)
      have y0 : World.cell? ((w.alloc (.cells #[.int .i64 s.nb, .int .i64 s.nn, .int .i64 s.ns, .slice (some ⟨b1, o1, none⟩) n cb, .slice An s.ts.length cn] 25))) ⟨b1, o1 + k * 2, none⟩ = some (.int .i64 y.id) := (HB.cell (p := ⟨b1, _, none⟩) l1).trans (q1 k _ he 0 _ rfl)
      have y1 : World.cell? ((w.alloc (.cells #[.int .i64 s.nb, .int .i64 s.nn, .int .i64 s.ns, .slice (some ⟨b1, o1, none⟩) n cb, .slice An s.ts.length cn] 25))) ⟨b1, o1 + k * 2 + 1, none⟩ = some (.string y.nm) := (HB.cell (p := ⟨b1, _, none⟩) l1).trans (q1 k _ he 1 _ rfl)
      have HX := Lib.hid hx
      clear hx q1 he hlx
      rcases (by cases hq : (y.id == x) <;> simp : (y.id == x) = true ∨ (y.id == x) = false) with hp | hp
      · have HP := Lib.hid hp
        go_wp2_with fail
        go_ret
        exact ⟨by rw [show bookAt s x = (k : Int) from idxP_at HK.out HX.out HP.out]; rfl, HB⟩
      · have HP := Lib.hid hp
        go_wp2_with fail
        go_round
        case rel => exact ⟨k + 1, by omega, by go_num, Lib.hid (any_next HK.out HX.out HP.out)⟩
        case measure => simp [intOf]; omega
    · have hjn : k = n := by omega
      subst hjn
      go_wp2_with fail
      go_ret
      refine ⟨?_, HB⟩
      have := HK.out
      rw [List.take_of_length_le (by rw [HN.out]; exact Nat.le_refl _)] at this
      rw [show bookAt s x = -1 from idxP_no this]
      rfl
theorem rNote_any (s : Sf) (v : Value) (x : Int) (w : World) (hS : ShR w w.heap.size v s) (hsm : s.bs.length ≤ 100000 ∧ s.ts.length ≤ 100000) :
    Calls Tryz.prog 52 #[v, .int .i64 x] w fun e' w' => e' = .returned (.int .i64 (noteAt s x)) ∧ Below w.heap.size w w' := by
  have hS0 := hS
  obtain ⟨Ab, cb, An, cn, rfl, hB, hN, hcb, hmb, hcn, hmn⟩ := hS.ex
  clear hS
  have HB : Below w.heap.size w (w.alloc (.cells #[.int .i64 s.nb, .int .i64 s.nn, .int .i64 s.ns, .slice Ab s.bs.length cb, .slice An s.ts.length cn] 25)) := ((Below.refl w.heap.size w).alloc (by first | (simp; done) | (simp; omega)) _)
  have B1 : Blk (w.alloc (.cells #[.int .i64 s.nb, .int .i64 s.nn, .int .i64 s.ns, .slice Ab s.bs.length cb, .slice An s.ts.length cn] 25)) w.heap.size 25 #[.int .i64 s.nb, .int .i64 s.nn, .int .i64 s.ns, .slice Ab s.bs.length cb, .slice An s.ts.length cn] := Blk.new_ w 25 #[.int .i64 s.nb, .int .i64 s.nn, .int .i64 s.ns, .slice Ab s.bs.length cb, .slice An s.ts.length cn]
  obtain ⟨es, hel, hse, hnt⟩ := hN.ex
  obtain ⟨n, hn⟩ : ∃ n, s.ts.length = n := ⟨_, rfl⟩
  have hnm : n ≤ 100000 := by rw [← hn]; exact hsm.2
  have HN := Lib.hid hn
  rw [hn] at HB B1 ⊢
  have H0 : Hid ((s.ts.take 0).any (fun b : Nt => b.id == x) = false) := Lib.hid rfl
  clear hn hsm hS0
  go_enter Tryz.func52, Tryz.ntmps52
  go_wp2_with fail
  go_loop [5] (fun i => ∃ k : Nat, k ≤ n ∧ i = .int .i64 k ∧ Hid ((s.ts.take k).any (fun b : Nt => b.id == x) = false)) (fun i => n - (intOf i).toNat)
  case atStart => exact ⟨0, by omega, rfl, H0⟩
  case round =>
    obtain ⟨k, hk, rfl, HK⟩ := hrel
    clear H0
    by_cases hlt : k < n
    · have hlx : k < s.ts.length := by have := HN.out; omega
      have i0 : (0 : Int) ≤ (k : Int) := by omega
      have i1 : (k : Int) < (n : Int) := by omega
      obtain ⟨y, hx⟩ : ∃ y, s.ts[k]? = some y := ⟨_, List.getElem?_eq_getElem hlx⟩
      obtain ⟨e0, he⟩ : ∃ e, es[k]? = some e := ⟨_, List.getElem?_eq_getElem (by omega)⟩
      obtain ⟨At, ct, As, cs, rfl, -⟩ := (hnt k y e0 hx he).ex
      obtain ⟨b1, o1, rfl, l1, q1⟩ := hse.at_ (by omega)
      have y0 : World.cell? ((w.alloc (.cells #[.int .i64 s.nb, .int .i64 s.nn, .int .i64 s.ns, .slice Ab s.bs.length cb, .slice (some ⟨b1, o1, none⟩) n cn] 25))) ⟨b1, o1 + k * 5, none⟩ = some (.int .i64 y.id) := (HB.cell (p := ⟨b1, _, none⟩) l1).trans (q1 k _ he 0 _ rfl)
      have y1 : World.cell? ((w.alloc (.cells #[.int .i64 s.nb, .int .i64 s.nn, .int .i64 s.ns, .slice Ab s.bs.length cb, .slice (some ⟨b1, o1, none⟩) n cn] 25))) ⟨b1, o1 + k * 5 + 1, none⟩ = some (.int .i64 y.bk) := (HB.cell (p := ⟨b1, _, none⟩) l1).trans (q1 k _ he 1 _ rfl)
      have y2 : World.cell? ((w.alloc (.cells #[.int .i64 s.nb, .int .i64 s.nn, .int .i64 s.ns, .slice Ab s.bs.length cb, .slice (some ⟨b1, o1, none⟩) n cn] 25))) ⟨b1, o1 + k * 5 + 2, none⟩ = some (.string y.nm) := (HB.cell (p := ⟨b1, _, none⟩) l1).trans (q1 k _ he 2 _ rfl)
      have y3 : World.cell? ((w.alloc (.cells #[.int .i64 s.nb, .int .i64 s.nn, .int .i64 s.ns, .slice Ab s.bs.length cb, .slice (some ⟨b1, o1, none⟩) n cn] 25))) ⟨b1, o1 + k * 5 + 3, none⟩ = some (.slice At y.tg.length ct) := (HB.cell (p := ⟨b1, _, none⟩) l1).trans (q1 k _ he 3 _ rfl)
      have y4 : World.cell? ((w.alloc (.cells #[.int .i64 s.nb, .int .i64 s.nn, .int .i64 s.ns, .slice Ab s.bs.length cb, .slice (some ⟨b1, o1, none⟩) n cn] 25))) ⟨b1, o1 + k * 5 + 4, none⟩ = some (.slice As y.sh.length cs) := (HB.cell (p := ⟨b1, _, none⟩) l1).trans (q1 k _ he 4 _ rfl)
      have HX := Lib.hid hx
      clear hx q1 he hlx
      rcases (by cases hq : (y.id == x) <;> simp : (y.id == x) = true ∨ (y.id == x) = false) with hp | hp
      · have HP := Lib.hid hp
        go_wp2_with fail
        go_ret
        exact ⟨by rw [show noteAt s x = (k : Int) from idxP_at HK.out HX.out HP.out]; rfl, HB⟩
      · have HP := Lib.hid hp
        go_wp2_with fail
        go_round
        case rel => exact ⟨k + 1, by omega, by go_num, Lib.hid (any_next HK.out HX.out HP.out)⟩
        case measure => simp [intOf]; omega
    · have hjn : k = n := by omega
      subst hjn
      go_wp2_with fail
      go_ret
      refine ⟨?_, HB⟩
      have := HK.out
      rw [List.take_of_length_le (by rw [HN.out]; exact Nat.le_refl _)] at this
      rw [show noteAt s x = -1 from idxP_no this]
      rfl
end Go.Proofs.YteokeghenjobaaaGreatDoor
namespace Go.Proofs.YteokeghenjobaaaGreatDoor
open Go.ChangeShapes Go.WideShapes Go.ChangeAt Go.RowKit
attribute [local go_sem ↓] Go.wp_at_zero Go.wp_at_succ
attribute [local go_sem] Oper.semAt_some
theorem rcommon_any (a b : Nt) (Aa Sa Ab Sb : Option Addr) (na ca sa da nb cb sb db : Nat) (w : World) (hna : a.tg.length = na) (hnb : b.tg.length = nb) (ha : Sl w w.heap.size Aa (a.tg.map strV)) (hb : Sl w w.heap.size Ab (b.tg.map strV)) (l1 : na ≤ 100000) (l2 : nb ≤ 100000) :
    Calls Tryz.prog 53 #[.agg #[.int .i64 a.id, .int .i64 a.bk, .string a.nm, .slice Aa na ca, .slice Sa sa da], .agg #[.int .i64 b.id, .int .i64 b.bk, .string b.nm, .slice Ab nb cb, .slice Sb sb db]] w fun e' w' => e' = .returned (.int .i64 (comN a.tg b.tg : Int)) ∧ Below w.heap.size w w' := by
  have hal : Below w.heap.size w ((w.alloc (.cells #[.int .i64 a.id, .int .i64 a.bk, .string a.nm, .slice Aa na ca, .slice Sa sa da] 54)).alloc (.cells #[.int .i64 b.id, .int .i64 b.bk, .string b.nm, .slice Ab nb cb, .slice Sb sb db] 54)) := ((Below.refl w.heap.size w).alloc (Nat.le_refl _) _).alloc (by simp) _
  have B1 := (Blk.new_ w 54 #[.int .i64 a.id, .int .i64 a.bk, .string a.nm, .slice Aa na ca, .slice Sa sa da]).alloc_ (.cells #[.int .i64 b.id, .int .i64 b.bk, .string b.nm, .slice Ab nb cb, .slice Sb sb db] 54)
  have B2 := Blk.new_ (w.alloc (.cells #[.int .i64 a.id, .int .i64 a.bk, .string a.nm, .slice Aa na ca, .slice Sa sa da] 54)) 54 #[.int .i64 b.id, .int .i64 b.bk, .string b.nm, .slice Ab nb cb, .slice Sb sb db]
  rw [World.size_alloc] at B2
  have HN := Lib.hid (And.intro hna hnb)
  have hz : (0 : Int) ≤ (na : Int) := by omega
  have H0 : Hid (comN (a.tg.take 0) b.tg = 0) := Lib.hid rfl
  clear hna hnb
  go_enter Tryz.func53, Tryz.ntmps53
  go_upto_region 2 with fail
  obtain ⟨W, hW⟩ : ∃ V, V = ((w.alloc (.cells #[.int .i64 a.id, .int .i64 a.bk, .string a.nm, .slice Aa na ca, .slice Sa sa da] 54)).alloc (.cells #[.int .i64 b.id, .int .i64 b.bk, .string b.nm, .slice Ab nb cb, .slice Sb sb db] 54)) := ⟨_, rfl⟩
  rw [← hW] at hal B1 B2 ⊢
  clear hW
  have hBW := hal
  go_wp2_with fail
  go_loopw [5, 6] (fun sc i wr => ∃ k c : Nat, k ≤ na ∧ i = .int .i64 k ∧ sc = .int .i64 c ∧ c ≤ k ∧ Hid (comN (a.tg.take k) b.tg = c) ∧ Below W.heap.size W wr) (fun _ i _ => na - (intOf i).toNat)
  case atStart => exact ⟨0, 0, by omega, rfl, rfl, by omega, H0, Below.refl _ _⟩
  case round =>
    obtain ⟨k, c, hk, rfl, rfl, hck, HK, HBr⟩ := hrel
    clear H0
    have r3 := (B1.below HBr B1.lt).cell_ 3
    simp at r3
    by_cases hlt : k < na
    · have hlx : k < a.tg.length := by have := HN.out.1; omega
      obtain ⟨b1, o1, rfl, l1', q1⟩ := ha.at_ (by rw [List.length_map]; omega)
      obtain ⟨x, hx⟩ : ∃ x, a.tg[k]? = some x := ⟨_, List.getElem?_eq_getElem hlx⟩
      have HE := drew_below HBr
      have HWE := btr hBW hBW.size HE
      have cx : wr.drew.cell? ⟨b1, o1 + k, none⟩ = some (.string x) := (HWE.cell (p := ⟨b1, _, none⟩) l1').trans (q1 k _ (by rw [List.getElem?_map, hx]; rfl))
      have y3 := (B1.below HE B1.lt).cell_ 3
      have z3 := (B2.below HE B2.lt).cell_ 3
      simp at y3 z3
      have i0 : (0 : Int) ≤ (k : Int) := by omega
      have i1 : (k : Int) < (na : Int) := by omega
      have HX := Lib.hid hx
      obtain ⟨B, hB⟩ : ∃ B, hasB b.tg x = B := ⟨_, rfl⟩
      have HB := Lib.hid hB
      have HHS : Hid (∀ w_, Below W.heap.size W w_ → Calls Tryz.prog 60 #[.slice Ab nb cb, .string x] w_ fun e' w' => e' = .returned (.bool B) ∧ w' = w_) := Lib.hid (fun w_ h => rhas_go b.tg Ab nb cb x w_ HN.out.2 ((hb.below (btr hBW hBW.size h)).mono_ (btr hBW hBW.size h).size) (by omega) B hB)
      have QD : (Below W.heap.size W wr.drew ∧ wr.drew.cell? ⟨w.heap.size, 3, none⟩ = some (.slice (some ⟨b1, o1, none⟩) na ca) ∧ wr.drew.cell? ⟨w.heap.size + 1, 3, none⟩ = some (.slice Ab nb cb) ∧ wr.drew.cell? ⟨b1, o1 + k, none⟩ = some (.string x)) := ⟨HE, y3, z3, cx⟩
      clear q1 hx hlx hB y3 z3 cx
      go_upto_region 5 with fail
      go_cut [21] (fun v wx => v = .bool B ∧ Below W.heap.size W wx)
      case first =>
        refine wp_region_noPanic ?_
        refine wp_region_held_drew (S := (fun w_ => Below W.heap.size W w_ ∧ w_.cell? ⟨w.heap.size, 3, none⟩ = some (.slice (some ⟨b1, o1, none⟩) na ca) ∧ w_.cell? ⟨w.heap.size + 1, 3, none⟩ = some (.slice Ab nb cb) ∧ w_.cell? ⟨b1, o1 + k, none⟩ = some (.string x))) (by kernel_rfl) ?_ (fun hHeld => ?_)
        · (first | with_reducible exact QD | assumption)
        refine tk 0 ?_; try simp only [Act.put, pz1, pz2, pz3]
        refine tk 1 ?_; try simp only [Act.put, pz1, pz2, pz3]
        refine tk 2 ?_; try simp only [Act.put, pz1, pz2, pz3]
        refine tk 3 ?_; try simp only [Act.put, pz1, pz2, pz3]
        refine tk 4 ?_; try simp only [Act.put, pz1, pz2, pz3]
        refine tk 5 ?_; try simp only [Act.put, pz1, pz2, pz3]
        refine tk 6 ?_; try simp only [Act.put, pz1, pz2, pz3]
        refine wpAnyH_ready (rs := [7]) (by kernel_rfl) (by simp) ?_
        refine AllReadyH.cons (o := ⟨some 21, .call { callee := .value (.func 60), args := #[.tmp 15, .tmp 20], argTypes := #[38, 9] }, 4, "ref.go:176", #[⟨1, .data⟩, ⟨6, .data⟩], none⟩) rfl (fun K hK => ?_) AllReadyH.nil
        go_simp
        (go_at_call 60; ((with_reducible refine (HHS.out _ hHeld.1).mono ?_); rintro e' wh ⟨rfl, rfl⟩; skip))
        go_wp2_with fail
        refine hK.out _ _ ?_ (fun hNew => ?_)
        · (first | with_reducible exact QD | assumption)
        clear hK K hHeld
        have hHeld := hNew
        clear hNew
        try simp only [Act.put, pz1, pz2, pz3]
        refine wpAnyH_done (by kernel_rfl) ?_ _
        refine NoPanic.normal ?_
        go_wp2_with fail
        go_meet
        exact ⟨rfl, hHeld.1⟩
      case rest =>
        obtain ⟨rfl, HBx⟩ := hcut
        clear QD HE HWE HBr HHS
        cases B
        · go_wp2_with fail
          go_roundw
          case rel => exact ⟨k + 1, c, by omega, by go_num, by first | rfl | go_num, by omega, Lib.hid (by rw [comN_next HX.out, HB.out, HK.out]; rfl), HBx⟩
          case measure => simp [intOf]; omega
        · go_wp2_with fail
          go_roundw
          case rel => exact ⟨k + 1, c + 1, by omega, by go_num, by go_num, by omega, Lib.hid (by rw [comN_next HX.out, HB.out, HK.out]; rfl), HBx⟩
          case measure => simp [intOf]; omega
    · have hjn : k = na := by omega
      subst hjn
      clear hlt
      go_wp2_with fail
      go_ret
      refine ⟨?_, btr hBW hBW.size HBr⟩
      have := HK.out
      rw [List.take_of_length_le (by rw [HN.out.1]; exact Nat.le_refl _)] at this
      rw [this]
      rfl
theorem rholds_any (s : Sf) (n : Nt) (p : List UInt8) (Ab An At As : Option Addr) (bn cb tn cn yt ct ys cs : Nat) (w : World) (hS : ShR w w.heap.size (.agg #[.int .i64 s.nb, .int .i64 s.nn, .int .i64 s.ns, .slice Ab bn cb, .slice An tn cn]) s) (hsm : s.bs.length ≤ 100000 ∧ s.ts.length ≤ 100000) (hbn : s.bs.length = bn) (hyt : n.tg.length = yt) (hg : Sl w w.heap.size At (n.tg.map strV)) (hy1 : yt ≤ 100000) (hnm : n.nm.size ≤ 1000) (I : Nat) (bb : Bk) (hI : bookAt s n.bk = (I : Int)) (hbI : s.bs[I]? = some bb) :
    Calls Tryz.prog 47 #[.agg #[.int .i64 s.nb, .int .i64 s.nn, .int .i64 s.ns, .slice Ab bn cb, .slice An tn cn], .agg #[.int .i64 n.id, .int .i64 n.bk, .string n.nm, .slice At yt ct, .slice As ys cs], .string (bOf p)] w fun e' w' => e' = .returned (.bool (soB ⟨(termR p).nt, (termR p).sg, (termR p).tx⟩ n bb.nm)) ∧ Below w.heap.size w w' := by
  have hal : Below w.heap.size w ((w.alloc (.cells #[.int .i64 s.nb, .int .i64 s.nn, .int .i64 s.ns, .slice Ab bn cb, .slice An tn cn] 25)).alloc (.cells #[.int .i64 n.id, .int .i64 n.bk, .string n.nm, .slice At yt ct, .slice As ys cs] 54)) := ((Below.refl w.heap.size w).alloc (Nat.le_refl _) _).alloc (by simp) _
  have B1 := (Blk.new_ w 25 #[.int .i64 s.nb, .int .i64 s.nn, .int .i64 s.ns, .slice Ab bn cb, .slice An tn cn]).alloc_ (.cells #[.int .i64 n.id, .int .i64 n.bk, .string n.nm, .slice At yt ct, .slice As ys cs] 54)
  have B2 := Blk.new_ (w.alloc (.cells #[.int .i64 s.nb, .int .i64 s.nn, .int .i64 s.ns, .slice Ab bn cb, .slice An tn cn] 25)) 54 #[.int .i64 n.id, .int .i64 n.bk, .string n.nm, .slice At yt ct, .slice As ys cs]
  rw [World.size_alloc] at B2
  obtain ⟨TM, hTM⟩ : ∃ t, termR p = t := ⟨_, rfl⟩
  obtain ⟨P, hP⟩ : ∃ P, bOf p = P := ⟨_, rfl⟩
  have hterm := fun w_ => rterm_any p w_
  simp only [hTM, hP] at hterm ⊢
  clear hTM hP
  obtain ⟨nt, sg, tx, ok⟩ := TM
  obtain ⟨S, hS2⟩ : ∃ S, bOf tx = S := ⟨_, rfl⟩
  obtain ⟨Z, hZ⟩ : ∃ Z : Int, (sg.toNat : Int) = Z := ⟨_, rfl⟩
  have hm : soB ⟨nt, sg, tx⟩ n bb.nm = ((if sg = 35 then hasB n.tg S else if sg = 47 then decide (bb.nm = S) else preB tx (wordsL n.nm.toList)) != nt) := by rw [← hS2]; rfl
  simp only [hS2, hZ] at hterm ⊢
  have HTM := Lib.hid hterm
  have HYT := Lib.hid hyt
  rw [hm]
  clear hterm hm hyt
  by_cases h1 : sg = 35
  · have hz : Z = 35 := by rw [← hZ, h1]; rfl
    subst hz
    rw [if_pos h1]
    obtain ⟨B, hB⟩ : ∃ B, hasB n.tg S = B := ⟨_, rfl⟩
    have HHS : Hid (∀ w_, Below ((w.alloc (.cells #[.int .i64 s.nb, .int .i64 s.nn, .int .i64 s.ns, .slice Ab bn cb, .slice An tn cn] 25)).alloc (.cells #[.int .i64 n.id, .int .i64 n.bk, .string n.nm, .slice At yt ct, .slice As ys cs] 54)).heap.size ((w.alloc (.cells #[.int .i64 s.nb, .int .i64 s.nn, .int .i64 s.ns, .slice Ab bn cb, .slice An tn cn] 25)).alloc (.cells #[.int .i64 n.id, .int .i64 n.bk, .string n.nm, .slice At yt ct, .slice As ys cs] 54)) w_ → Calls Tryz.prog 60 #[.slice At yt ct, .string S] w_ fun e' w' => e' = .returned (.bool B) ∧ w' = w_) := Lib.hid (fun w_ h => rhas_go n.tg At yt ct S w_ HYT.out ((hg.below (btr hal hal.size h)).mono_ (btr hal hal.size h).size) (by omega) B hB)
    rw [hB]
    obtain ⟨k0, k1, k2, k3, k4⟩ := cell5 B1
    obtain ⟨x0, x1, x2, x3, x4⟩ := cell5 B2
    have HB := Below.refl ((w.alloc (.cells #[.int .i64 s.nb, .int .i64 s.nn, .int .i64 s.ns, .slice Ab bn cb, .slice An tn cn] 25)).alloc (.cells #[.int .i64 n.id, .int .i64 n.bk, .string n.nm, .slice At yt ct, .slice As ys cs] 54)).heap.size ((w.alloc (.cells #[.int .i64 s.nb, .int .i64 s.nn, .int .i64 s.ns, .slice Ab bn cb, .slice An tn cn] 25)).alloc (.cells #[.int .i64 n.id, .int .i64 n.bk, .string n.nm, .slice At yt ct, .slice As ys cs] 54))
    clear hB hZ h1 hg hS hI hbI
    go_enter Tryz.func47, Tryz.ntmps47
    go_wp2_with (first | (go_at_call 62; ((with_reducible refine (HTM.out _).mono ?_); rintro e' wt ⟨rfl, rfl⟩; skip)) | (go_at_call 60; ((with_reducible refine (HHS.out _ HB).mono ?_); rintro e' wh ⟨rfl, rfl⟩; skip)))
    go_ret
    exact ⟨by first | rfl | simp, hal⟩
  · rw [if_neg h1]
    have z1 : ¬ Z = 35 := fun e => h1 (UInt8.toNat_inj.1 (by rw [show (35 : UInt8).toNat = 35 from rfl]; omega))
    have z2 : (Z == 35) = false := beq_eq_false_iff_ne.2 z1
    by_cases h2 : sg = 47
    · have hz : Z = 47 := by rw [← hZ, h2]; rfl
      subst hz
      rw [if_pos h2]
      obtain ⟨Ab2, cb2, An2, cn2, he, hBk, -, -, -, -, -⟩ := hS.ex
      have hAb : Ab = Ab2 := by
        injection he with he
        injection he with he
        simp at he
        exact he.1.1
      subst hAb
      have hIl : I < s.bs.length := (List.getElem?_eq_some_iff.1 hbI).1
      obtain ⟨b2, o2, rfl, l2, q2⟩ := SlE.at_ hBk (by rw [List.length_map]; omega)
      have hbe : (s.bs.map bkC)[I]? = some (bkC bb) := by rw [List.getElem?_map, hbI]; rfl
      obtain ⟨E, hE⟩ : ∃ E, (bb.nm.toList == S.toList) = E := ⟨_, rfl⟩
      have hE2 : decide (bb.nm = S) = E := by
        rw [← hE]
        cases hq : (bb.nm.toList == S.toList)
        · refine decide_eq_false (fun e => ?_)
          rw [e] at hq
          simp at hq
        · exact decide_eq_true (toList_inj_ (beq_iff_eq.1 hq))
      rw [hE2]
      have j0 : (0 : Int) ≤ (I : Int) := by omega
      have j1 : (I : Int) < (bn : Int) := by omega
      have HI := Lib.hid hI
      have HALL : Hid (∀ w_, Below ((w.alloc (.cells #[.int .i64 s.nb, .int .i64 s.nn, .int .i64 s.ns, .slice (some ⟨b2, o2, none⟩) bn cb, .slice An tn cn] 25)).alloc (.cells #[.int .i64 n.id, .int .i64 n.bk, .string n.nm, .slice At yt ct, .slice As ys cs] 54)).heap.size ((w.alloc (.cells #[.int .i64 s.nb, .int .i64 s.nn, .int .i64 s.ns, .slice (some ⟨b2, o2, none⟩) bn cb, .slice An tn cn] 25)).alloc (.cells #[.int .i64 n.id, .int .i64 n.bk, .string n.nm, .slice At yt ct, .slice As ys cs] 54)) w_ → w_.cell? ⟨w.heap.size, 0, none⟩ = some (.int .i64 s.nb) ∧ w_.cell? ⟨w.heap.size, 1, none⟩ = some (.int .i64 s.nn) ∧ w_.cell? ⟨w.heap.size, 2, none⟩ = some (.int .i64 s.ns) ∧ w_.cell? ⟨w.heap.size, 3, none⟩ = some (.slice (some ⟨b2, o2, none⟩) bn cb) ∧ w_.cell? ⟨w.heap.size, 4, none⟩ = some (.slice An tn cn) ∧ w_.cell? ⟨w.heap.size + 1, 1, none⟩ = some (.int .i64 n.bk) ∧ w_.cell? ⟨b2, o2 + I * 2 + 1, none⟩ = some (.string bb.nm)) := Lib.hid (fun w_ h => by
        obtain ⟨a0, a1, a2, a3, a4⟩ := cell5 (B1.below h B1.lt)
        obtain ⟨d0, d1, d2, d3, d4⟩ := cell5 (B2.below h B2.lt)
        exact ⟨a0, a1, a2, a3, a4, d1, ((btr hal hal.size h).cell (p := ⟨b2, _, none⟩) l2).trans (q2 I _ hbe 1 _ rfl)⟩)
      have HSH := Lib.hid (fun (w_ : World) (h : Below ((w.alloc (.cells #[.int .i64 s.nb, .int .i64 s.nn, .int .i64 s.ns, .slice (some ⟨b2, o2, none⟩) bn cb, .slice An tn cn] 25)).alloc (.cells #[.int .i64 n.id, .int .i64 n.bk, .string n.nm, .slice At yt ct, .slice As ys cs] 54)).heap.size ((w.alloc (.cells #[.int .i64 s.nb, .int .i64 s.nn, .int .i64 s.ns, .slice (some ⟨b2, o2, none⟩) bn cb, .slice An tn cn] 25)).alloc (.cells #[.int .i64 n.id, .int .i64 n.bk, .string n.nm, .slice At yt ct, .slice As ys cs] 54)) w_) => (hS.next hal).next h)
      have HE9 : Below ((w.alloc (.cells #[.int .i64 s.nb, .int .i64 s.nn, .int .i64 s.ns, .slice (some ⟨b2, o2, none⟩) bn cb, .slice An tn cn] 25)).alloc (.cells #[.int .i64 n.id, .int .i64 n.bk, .string n.nm, .slice At yt ct, .slice As ys cs] 54)).heap.size ((w.alloc (.cells #[.int .i64 s.nb, .int .i64 s.nn, .int .i64 s.ns, .slice (some ⟨b2, o2, none⟩) bn cb, .slice An tn cn] 25)).alloc (.cells #[.int .i64 n.id, .int .i64 n.bk, .string n.nm, .slice At yt ct, .slice As ys cs] 54)) ((w.alloc (.cells #[.int .i64 s.nb, .int .i64 s.nn, .int .i64 s.ns, .slice (some ⟨b2, o2, none⟩) bn cb, .slice An tn cn] 25)).alloc (.cells #[.int .i64 n.id, .int .i64 n.bk, .string n.nm, .slice At yt ct, .slice As ys cs] 54)).drew := drew_below (Below.refl _ _)
      have QD : (Below ((w.alloc (.cells #[.int .i64 s.nb, .int .i64 s.nn, .int .i64 s.ns, .slice (some ⟨b2, o2, none⟩) bn cb, .slice An tn cn] 25)).alloc (.cells #[.int .i64 n.id, .int .i64 n.bk, .string n.nm, .slice At yt ct, .slice As ys cs] 54)).heap.size ((w.alloc (.cells #[.int .i64 s.nb, .int .i64 s.nn, .int .i64 s.ns, .slice (some ⟨b2, o2, none⟩) bn cb, .slice An tn cn] 25)).alloc (.cells #[.int .i64 n.id, .int .i64 n.bk, .string n.nm, .slice At yt ct, .slice As ys cs] 54)) ((w.alloc (.cells #[.int .i64 s.nb, .int .i64 s.nn, .int .i64 s.ns, .slice (some ⟨b2, o2, none⟩) bn cb, .slice An tn cn] 25)).alloc (.cells #[.int .i64 n.id, .int .i64 n.bk, .string n.nm, .slice At yt ct, .slice As ys cs] 54)).drew ∧ ((w.alloc (.cells #[.int .i64 s.nb, .int .i64 s.nn, .int .i64 s.ns, .slice (some ⟨b2, o2, none⟩) bn cb, .slice An tn cn] 25)).alloc (.cells #[.int .i64 n.id, .int .i64 n.bk, .string n.nm, .slice At yt ct, .slice As ys cs] 54)).drew.cell? ⟨w.heap.size, 0, none⟩ = some (.int .i64 s.nb) ∧ ((w.alloc (.cells #[.int .i64 s.nb, .int .i64 s.nn, .int .i64 s.ns, .slice (some ⟨b2, o2, none⟩) bn cb, .slice An tn cn] 25)).alloc (.cells #[.int .i64 n.id, .int .i64 n.bk, .string n.nm, .slice At yt ct, .slice As ys cs] 54)).drew.cell? ⟨w.heap.size, 1, none⟩ = some (.int .i64 s.nn) ∧ ((w.alloc (.cells #[.int .i64 s.nb, .int .i64 s.nn, .int .i64 s.ns, .slice (some ⟨b2, o2, none⟩) bn cb, .slice An tn cn] 25)).alloc (.cells #[.int .i64 n.id, .int .i64 n.bk, .string n.nm, .slice At yt ct, .slice As ys cs] 54)).drew.cell? ⟨w.heap.size, 2, none⟩ = some (.int .i64 s.ns) ∧ ((w.alloc (.cells #[.int .i64 s.nb, .int .i64 s.nn, .int .i64 s.ns, .slice (some ⟨b2, o2, none⟩) bn cb, .slice An tn cn] 25)).alloc (.cells #[.int .i64 n.id, .int .i64 n.bk, .string n.nm, .slice At yt ct, .slice As ys cs] 54)).drew.cell? ⟨w.heap.size, 3, none⟩ = some (.slice (some ⟨b2, o2, none⟩) bn cb) ∧ ((w.alloc (.cells #[.int .i64 s.nb, .int .i64 s.nn, .int .i64 s.ns, .slice (some ⟨b2, o2, none⟩) bn cb, .slice An tn cn] 25)).alloc (.cells #[.int .i64 n.id, .int .i64 n.bk, .string n.nm, .slice At yt ct, .slice As ys cs] 54)).drew.cell? ⟨w.heap.size, 4, none⟩ = some (.slice An tn cn) ∧ ((w.alloc (.cells #[.int .i64 s.nb, .int .i64 s.nn, .int .i64 s.ns, .slice (some ⟨b2, o2, none⟩) bn cb, .slice An tn cn] 25)).alloc (.cells #[.int .i64 n.id, .int .i64 n.bk, .string n.nm, .slice At yt ct, .slice As ys cs] 54)).drew.cell? ⟨w.heap.size + 1, 1, none⟩ = some (.int .i64 n.bk) ∧ ((w.alloc (.cells #[.int .i64 s.nb, .int .i64 s.nn, .int .i64 s.ns, .slice (some ⟨b2, o2, none⟩) bn cb, .slice An tn cn] 25)).alloc (.cells #[.int .i64 n.id, .int .i64 n.bk, .string n.nm, .slice At yt ct, .slice As ys cs] 54)).drew.cell? ⟨b2, o2 + I * 2 + 1, none⟩ = some (.string bb.nm)) := ⟨HE9, HALL.out _ HE9⟩
      clear hE2 hZ h1 h2 hI hbI hbe q2 he hIl hBk hg
      go_enter Tryz.func47, Tryz.ntmps47
      go_upto_region 8 with (go_at_call 62; ((with_reducible refine (HTM.out _).mono ?_); rintro e' wt ⟨rfl, rfl⟩; skip))
      refine wp_region_noPanic ?_
      refine wp_region_held_drew (S := (fun w_ => Below ((w.alloc (.cells #[.int .i64 s.nb, .int .i64 s.nn, .int .i64 s.ns, .slice (some ⟨b2, o2, none⟩) bn cb, .slice An tn cn] 25)).alloc (.cells #[.int .i64 n.id, .int .i64 n.bk, .string n.nm, .slice At yt ct, .slice As ys cs] 54)).heap.size ((w.alloc (.cells #[.int .i64 s.nb, .int .i64 s.nn, .int .i64 s.ns, .slice (some ⟨b2, o2, none⟩) bn cb, .slice An tn cn] 25)).alloc (.cells #[.int .i64 n.id, .int .i64 n.bk, .string n.nm, .slice At yt ct, .slice As ys cs] 54)) w_ ∧ w_.cell? ⟨w.heap.size, 0, none⟩ = some (.int .i64 s.nb) ∧ w_.cell? ⟨w.heap.size, 1, none⟩ = some (.int .i64 s.nn) ∧ w_.cell? ⟨w.heap.size, 2, none⟩ = some (.int .i64 s.ns) ∧ w_.cell? ⟨w.heap.size, 3, none⟩ = some (.slice (some ⟨b2, o2, none⟩) bn cb) ∧ w_.cell? ⟨w.heap.size, 4, none⟩ = some (.slice An tn cn) ∧ w_.cell? ⟨w.heap.size + 1, 1, none⟩ = some (.int .i64 n.bk) ∧ w_.cell? ⟨b2, o2 + I * 2 + 1, none⟩ = some (.string bb.nm))) (by kernel_rfl) ?_ (fun hHeld => ?_)
      · (first | with_reducible exact QD | with_reducible exact hNext | assumption)
      refine tk 0 ?_; try simp only [Act.put, pz1, pz2, pz3]
      refine tk 1 ?_; try simp only [Act.put, pz1, pz2, pz3]
      refine tk 2 ?_; try simp only [Act.put, pz1, pz2, pz3]
      refine tk 3 ?_; try simp only [Act.put, pz1, pz2, pz3]
      refine tk 4 ?_; try simp only [Act.put, pz1, pz2, pz3]
      refine tk 9 ?_; try simp only [Act.put, pz1, pz2, pz3]
      refine wpAnyH_ready (rs := [5]) (by kernel_rfl) (by simp) ?_
      refine AllReadyH.cons (o := ⟨some 38, .call { callee := .value (.func 82), args := #[.tmp 35, .tmp 37], argTypes := #[25, 3] }, 3, "ref.go:113", #[⟨2, .data⟩, ⟨4, .data⟩], none⟩) rfl (fun K hK => ?_) AllReadyH.nil
      go_simp
      (go_at_call 82; ((with_reducible refine (rBook_any s _ n.bk _ (HSH.out _ hHeld.1) hsm).mono ?_); rw [HI.out]; rintro e' w6 ⟨rfl, b6⟩; have HZ := btr hHeld.1 hHeld.1.size b6; have hNext : (Below ((w.alloc (.cells #[.int .i64 s.nb, .int .i64 s.nn, .int .i64 s.ns, .slice (some ⟨b2, o2, none⟩) bn cb, .slice An tn cn] 25)).alloc (.cells #[.int .i64 n.id, .int .i64 n.bk, .string n.nm, .slice At yt ct, .slice As ys cs] 54)).heap.size ((w.alloc (.cells #[.int .i64 s.nb, .int .i64 s.nn, .int .i64 s.ns, .slice (some ⟨b2, o2, none⟩) bn cb, .slice An tn cn] 25)).alloc (.cells #[.int .i64 n.id, .int .i64 n.bk, .string n.nm, .slice At yt ct, .slice As ys cs] 54)) w6 ∧ w6.cell? ⟨w.heap.size, 0, none⟩ = some (.int .i64 s.nb) ∧ w6.cell? ⟨w.heap.size, 1, none⟩ = some (.int .i64 s.nn) ∧ w6.cell? ⟨w.heap.size, 2, none⟩ = some (.int .i64 s.ns) ∧ w6.cell? ⟨w.heap.size, 3, none⟩ = some (.slice (some ⟨b2, o2, none⟩) bn cb) ∧ w6.cell? ⟨w.heap.size, 4, none⟩ = some (.slice An tn cn) ∧ w6.cell? ⟨w.heap.size + 1, 1, none⟩ = some (.int .i64 n.bk) ∧ w6.cell? ⟨b2, o2 + I * 2 + 1, none⟩ = some (.string bb.nm)) := ⟨HZ, HALL.out _ HZ⟩))
      go_wp2_with fail
      refine hK.out _ _ ?_ (fun hNew => ?_)
      · (first | with_reducible exact QD | with_reducible exact hNext | assumption)
      clear hK K hHeld
      have hHeld := hNew
      clear hNew
      try simp only [Act.put, pz1, pz2, pz3]
      refine tk 6 ?_; try simp only [Act.put, pz1, pz2, pz3]
      refine tk 7 ?_; try simp only [Act.put, pz1, pz2, pz3]
      refine tk 8 ?_; try simp only [Act.put, pz1, pz2, pz3]
      refine tk 10 ?_; try simp only [Act.put, pz1, pz2, pz3]
      refine tk 11 ?_; try simp only [Act.put, pz1, pz2, pz3]
      refine wpAnyH_done (by kernel_rfl) ?_ _
      refine NoPanic.normal ?_
      go_wp2_with fail
      go_ret
      exact ⟨by first | rfl | (rw [hE]; rfl) | simp [hE], btr hal hal.size hHeld.1⟩
    · rw [if_neg h2]
      have z3 : (Z == 47) = false := beq_eq_false_iff_ne.2 (fun e => h2 (UInt8.toNat_inj.1 (by rw [show (47 : UInt8).toNat = 47 from rfl]; omega)))
      obtain ⟨B, hB⟩ : ∃ B, preB tx (wordsL n.nm.toList) = B := ⟨_, rfl⟩
      have hwd := fun w_ => rwords_any n.nm.data.toList (by rw [← size_L]; omega) w_
      simp only [bOf_d2] at hwd
      have HWD := Lib.hid hwd
      have HWL : Hid ((wordsL n.nm.data.toList).length ≤ 1000000) := Lib.hid (wordsL_le _ (by rw [← size_L]; omega))
      have HPB : Hid ((((wordsL n.nm.data.toList).map bOf).any fun y => Lib.hasPrefix y.data.toList S.data.toList) = B) := Lib.hid (by
        rw [← hB, ← hS2, bOf_l, ByteArray.toList_eq, List.any_map]
        unfold preB
        congr 1)
      rw [hB]
      obtain ⟨k0, k1, k2, k3, k4⟩ := cell5 B1
      obtain ⟨x0, x1, x2, x3, x4⟩ := cell5 B2
      have HB := Below.refl ((w.alloc (.cells #[.int .i64 s.nb, .int .i64 s.nn, .int .i64 s.ns, .slice Ab bn cb, .slice An tn cn] 25)).alloc (.cells #[.int .i64 n.id, .int .i64 n.bk, .string n.nm, .slice At yt ct, .slice As ys cs] 54)).heap.size ((w.alloc (.cells #[.int .i64 s.nb, .int .i64 s.nn, .int .i64 s.ns, .slice Ab bn cb, .slice An tn cn] 25)).alloc (.cells #[.int .i64 n.id, .int .i64 n.bk, .string n.nm, .slice At yt ct, .slice As ys cs] 54))
      clear hB hZ h1 h2 hg hS hI hbI hwd z1
      go_enter Tryz.func47, Tryz.ntmps47
      go_wp2_with (first | (go_at_call 62; ((with_reducible refine (HTM.out _).mono ?_); rintro e' wt ⟨rfl, rfl⟩; skip)) | (go_at_call 22; ((with_reducible refine (HWD.out _).mono ?_); rintro e' w3 ⟨A3, c3, rfl, h3, b3⟩; have HB := btr HB HB.size b3)) | (go_at_call 83; ((with_reducible refine (rbegins_go ((wordsL n.nm.data.toList).map bOf) _ _ _ S _ (by rw [List.length_map]) h3 HWL.out _ HPB.out).mono ?_); rintro e' w4 ⟨rfl, rfl⟩; skip)))
      go_ret
      exact ⟨by first | rfl | simp, btr hal hal.size HB⟩
end Go.Proofs.YteokeghenjobaaaGreatDoor
namespace Go.Proofs.YteokeghenjobaaaGreatDoor
open Go.ChangeShapes Go.WideShapes Go.ChangeAt Go.RowKit
attribute [local go_sem ↓] Go.wp_at_zero Go.wp_at_succ
attribute [local go_sem] Oper.semAt_some
def leqS (a b : ByteArray) : Bool := Op.bytesLess a.toList b.toList || (a.toList == b.toList)
theorem leqS_iff (a b : ByteArray) : leqS a b = true ↔ ¬ Lib.compareBytes b.data.toList a.data.toList < 0 := by
  have h1 : Lib.compareBytes b.data.toList a.data.toList < 0 ↔ b.data.toList < a.data.toList := by
    have := cmp_less b.data.toList a.data.toList
    rw [less_lt] at this
    exact (decide_eq_decide.1 this).symm
  unfold leqS
  rw [ByteArray.toList_eq, ByteArray.toList_eq, less_lt, h1, Bool.or_eq_true, decide_eq_true_iff, beq_iff_eq]
  constructor
  · rintro (h | h)
    · exact List.lt_asymm h
    · rw [h]
      exact lt_irr _
  · intro h
    exact List.le_iff_lt_or_eq.1 h
def insI : List It → It → List It
  | [], s => [s]
  | x :: l, s => if leqS x.nm s.nm then x :: insI l s else s :: x :: l
theorem insI_at : ∀ (L : List It) (s : It) (k : Nat), (∀ y ∈ L.take k, leqS y.nm s.nm = true) → k ≤ L.length → (∀ y, L[k]? = some y → leqS y.nm s.nm = false) → insI L s = L.take k ++ s :: L.drop k
  | [], s, k, _, hk, _ => by
    have : k = 0 := by simpa using hk
    subst this
    rfl
  | x :: l, s, 0, _, _, h => by
    have h1 := h x rfl
    show (if leqS x.nm s.nm then x :: insI l s else s :: x :: l) = _
    rw [if_neg (by rw [h1]; decide)]
    rfl
  | x :: l, s, k + 1, h0, hk, h => by
    have hx := h0 x (by simp)
    show (if leqS x.nm s.nm then x :: insI l s else s :: x :: l) = _
    rw [if_pos hx, insI_at l s k (fun y hy => h0 y (by simp [hy])) (by simpa using hk) (fun y hy => h y (by simpa using hy))]
    rfl
theorem insI_perm : ∀ (L : List It) (s : It), (insI L s).Perm (s :: L)
  | [], s => List.Perm.refl _
  | x :: l, s => by
    unfold insI
    split
    · exact (List.Perm.cons x (insI_perm l s)).trans (List.Perm.swap s x l)
    · exact List.Perm.refl _
theorem insI_ord : ∀ (L : List It) (s : It), OrdF L → (∀ x ∈ L, x.id < s.id) → OrdF (insI L s)
  | [], s, _, _ => by
    unfold insI OrdF
    simp
  | x :: l, s, h, hid => by
    unfold OrdF at h
    rw [List.pairwise_cons] at h
    unfold insI
    split
    · rename_i h1
      unfold OrdF
      rw [List.pairwise_cons]
      refine ⟨fun y hy => ?_, insI_ord l s h.2 (fun y hy => hid y (by simp [hy]))⟩
      rcases List.mem_cons.1 ((insI_perm l s).mem_iff.1 hy) with rfl | hy
      · intro hc
        rw [cmpF_neg] at hc
        rcases hc with hc | ⟨_, hc⟩
        · exact (leqS_iff _ _).1 h1 hc
        · have := hid x (by simp)
          omega
      · exact h.1 y hy
    · rename_i h1
      have hlt : Lib.compareBytes s.nm.data.toList x.nm.data.toList < 0 := Decidable.not_not.1 (fun e => h1 ((leqS_iff _ _).2 e))
      unfold OrdF
      rw [List.pairwise_cons, List.pairwise_cons]
      have hsx : ¬ cmpF x s < 0 := by
        intro hc
        have := swoF.2 x s x (decide_eq_true hc) (decide_eq_true ((cmpF_neg s x).2 (Or.inl hlt)))
        exact absurd this (by rw [swoF.1 x]; decide)
      refine ⟨fun y hy => ?_, h⟩
      rcases List.mem_cons.1 hy with rfl | hy
      · exact hsx
      · intro hc
        have h2 : ¬ cmpF y x < 0 := h.1 y hy
        have h3 := swoF.3 y x s (decide_eq_false h2) (decide_eq_false hsx)
        exact absurd hc (of_decide_eq_false h3)
def fndTo (s : Sf) (ts : List Trm) (k : Nat) : List It := ((s.ts.take k).filter (hitB s ts)).foldl (fun L n => insI L (ntIt n)) []
theorem fndTo_hit {s : Sf} {ts : List Trm} {k : Nat} {n : Nt} (h : s.ts[k]? = some n) (hx : hitB s ts n = true) : fndTo s ts (k + 1) = insI (fndTo s ts k) (ntIt n) := by
  unfold fndTo
  rw [List.take_add_one, h, List.filter_append, List.foldl_append]
  simp [hx]
theorem fndTo_miss {s : Sf} {ts : List Trm} {k : Nat} {n : Nt} (h : s.ts[k]? = some n) (hx : hitB s ts n = false) : fndTo s ts (k + 1) = fndTo s ts k := by
  unfold fndTo
  rw [List.take_add_one, h, List.filter_append]
  simp [hx]
theorem fold_facts : ∀ (l : List Nt) (L : List It), OrdF L → (l.Pairwise fun a b => a.id < b.id) → (∀ x ∈ L, ∀ n ∈ l, x.id < n.id) → OrdF (l.foldl (fun L n => insI L (ntIt n)) L) ∧ (l.foldl (fun L n => insI L (ntIt n)) L).Perm (L ++ l.map ntIt)
  | [], L, h, _, _ => ⟨h, by simp⟩
  | n :: l, L, h, hp, hid => by
    rw [List.pairwise_cons] at hp
    obtain ⟨h1, h2⟩ := fold_facts l (insI L (ntIt n)) (insI_ord L _ h (fun x hx => hid x hx n (by simp))) hp.2 (fun x hx m hm => by
      rcases List.mem_cons.1 ((insI_perm L (ntIt n)).mem_iff.1 hx) with rfl | hx
      · exact hp.1 m hm
      · exact hid x hx m (by simp [hm]))
    refine ⟨h1, h2.trans ?_⟩
    rw [List.map_cons]
    exact ((insI_perm L (ntIt n)).append_right _).trans (List.perm_middle (a := ntIt n) (l₁ := L) (l₂ := l.map ntIt)).symm
theorem fndTo_all {s : Sf} (hF : MayF s) (ts : List Trm) : fndTo s ts s.ts.length = findL s ts := by
  unfold fndTo
  rw [List.take_length]
  obtain ⟨h1, h2⟩ := fold_facts (s.ts.filter (hitB s ts)) [] List.Pairwise.nil (hF.tord.filter _) (fun x hx => by simp at hx)
  exact uniqF h2 h1 (findL_facts s ts).1 (findL_facts s ts).2
def trmOf (p : List UInt8) : Trm := ⟨(termR p).nt, (termR p).sg, (termR p).tx⟩
theorem read_terms {q : List UInt8} {ts : List Trm} (h : readL q = some ts) : ts = (trmsP q).map trmOf := by
  have gen : ∀ (l : List (List UInt8)) (us : List Trm), trmsL l = some us → us = l.map trmOf := by
    intro l
    induction l with
    | nil => intro us hu; simp [trmsL] at hu; exact hu
    | cons p l ih =>
      intro us hu
      have hu2 : ((trmL p).bind fun t => (trmsL l).map (t :: ·)) = some us := hu
      rw [termR_trm] at hu2
      cases hk : (termR p).ok
      · rw [hk] at hu2
        simp at hu2
      · rw [hk, if_pos rfl] at hu2
        cases hl : trmsL l with
        | none => rw [hl] at hu2; simp at hu2
        | some vs =>
          rw [hl] at hu2
          simp at hu2
          rw [← hu2, ih vs hl]
          rfl
  cases q with
  | nil => cases h; rfl
  | cons x l =>
    rw [read_split (by simp) (read_len h)] at h
    exact gen _ _ h
def allTo (s : Sf) (q : List UInt8) (n : Nt) (k : Nat) : Bool := ((trmsP q).take k).all fun p => soB (trmOf p) n (bkNm s n.bk)
theorem allTo_next {s : Sf} {q p : List UInt8} {n : Nt} {k : Nat} (h : (trmsP q)[k]? = some p) : allTo s q n (k + 1) = (allTo s q n k && soB (trmOf p) n (bkNm s n.bk)) := by
  unfold allTo
  rw [List.take_add_one, h, List.all_append]
  simp
theorem allTo_all {s : Sf} {q : List UInt8} {n : Nt} {ts : List Trm} (h : readL q = some ts) : allTo s q n (trmsP q).length = hitB s ts n := by
  unfold allTo
  rw [List.take_length, read_terms h]
  unfold hitB
  rw [List.any_map]
  have gen : ∀ l : List (List UInt8), (l.all fun p => soB (trmOf p) n (bkNm s n.bk)) = !(l.any ((fun t => !soB t n (bkNm s n.bk)) ∘ trmOf)) := by
    intro l
    induction l with
    | nil => rfl
    | cons p l ih =>
      rw [List.all_cons, List.any_cons, ih, Bool.not_or]
      simp
  exact gen _
end Go.Proofs.YteokeghenjobaaaGreatDoor
namespace Go.Proofs.YteokeghenjobaaaGreatDoor
open Go.ChangeShapes Go.WideShapes Go.ChangeAt Go.RowKit
attribute [local go_sem ↓] Go.wp_at_zero Go.wp_at_succ
theorem RdB.toRd {w : World} {B : Nat} {A : Option Addr} {n C : Nat} {vs : List Value} (h : RdB w B A n C vs) (h0 : 0 < C) : Rd w A n C vs := by
  obtain ⟨h1, h2⟩ := h
  refine ⟨h1, ?_⟩
  rcases h2 with h | ⟨b, off, e, _, hc⟩
  · left
    rw [h] at h1
    rcases Nat.eq_zero_or_pos n with h3 | h3
    · exact h3
    · have := Nat.mul_pos h3 h0
      simp at h1
      omega
  · exact Or.inr ⟨b, off, e, hc⟩
theorem set_f3 (es : List (List Value)) (k : Nat) (p0 p1 p2 p3 p4 u : Value) (h : es[k]? = some [p0, p1, p2, p3, p4]) (hC : ∀ x ∈ es, x.length = 5) : es.flatten.set (k * 5 + 3) u = (es.set k [p0, p1, p2, u, p4]).flatten := by
  have hs : ∀ (l : List Value) (i : Nat) (u : Value), l[i]? = some u → l.set i u = l := by
    intro l i u hu
    obtain ⟨hlt, he⟩ := List.getElem?_eq_some_iff.1 hu
    rw [← he]
    exact List.set_getElem_self hlt
  have g : ∀ j, j < 5 → es.flatten[k * 5 + j]? = ([p0, p1, p2, p3, p4] : List Value)[j]? := fun j hj => flat_at es hC k _ h j hj
  have h1 := set_five es k p0 p1 p2 p3 p4 p0 p1 p2 u p4 h hC
  have n0 := hs es.flatten (k * 5 + 0) p0 (g 0 (by decide))
  rw [n0] at h1
  have n1 := hs es.flatten (k * 5 + 1) p1 (g 1 (by decide))
  rw [n1] at h1
  have n2 := hs es.flatten (k * 5 + 2) p2 (g 2 (by decide))
  rw [n2] at h1
  have n4 : (es.flatten.set (k * 5 + 3) u).set (k * 5 + 4) p4 = es.flatten.set (k * 5 + 3) u := hs _ _ _ (by rw [List.getElem?_set_ne (by omega)]; exact g 4 (by decide))
  rw [n4] at h1
  exact h1
theorem set_f4 (es : List (List Value)) (k : Nat) (p0 p1 p2 p3 p4 u : Value) (h : es[k]? = some [p0, p1, p2, p3, p4]) (hC : ∀ x ∈ es, x.length = 5) : es.flatten.set (k * 5 + 4) u = (es.set k [p0, p1, p2, p3, u]).flatten := by
  have hs : ∀ (l : List Value) (i : Nat) (u : Value), l[i]? = some u → l.set i u = l := by
    intro l i u hu
    obtain ⟨hlt, he⟩ := List.getElem?_eq_some_iff.1 hu
    rw [← he]
    exact List.set_getElem_self hlt
  have g : ∀ j, j < 5 → es.flatten[k * 5 + j]? = ([p0, p1, p2, p3, p4] : List Value)[j]? := fun j hj => flat_at es hC k _ h j hj
  have h1 := set_five es k p0 p1 p2 p3 p4 p0 p1 p2 p3 u h hC
  have n0 := hs es.flatten (k * 5 + 0) p0 (g 0 (by decide))
  rw [n0] at h1
  have n1 := hs es.flatten (k * 5 + 1) p1 (g 1 (by decide))
  rw [n1] at h1
  have n2 := hs es.flatten (k * 5 + 2) p2 (g 2 (by decide))
  rw [n2] at h1
  have n3 := hs es.flatten (k * 5 + 3) p3 (g 3 (by decide))
  rw [n3] at h1
  exact h1
structure HalfI (s : Sf) (vb : Value) (A : Option Addr) (cn : Nat) (w0 : World) (B0 : Nat) (k : Nat) (n : Nt) (As : Option Addr) (cs : Nat) (wr : World) : Prop where
  box : Blk wr B0 25 #[.int .i64 s.nb, .int .i64 s.nn, .int .i64 s.ns, vb, .slice A s.ts.length cn]
  res : Blk wr (B0 + 1) 25 #[.int .i64 0, .int .i64 0, .int .i64 0, .slice none 0 0, .slice none 0 0]
  ob : wr.ownsRow (B0 + 2) 60 2 vb s.bs.length (s.bs.map bkC).flatten
  sl : Sl wr B0 As (n.sh.map (Value.int .i64))
  es : ∃ (es : List (List Value)) (vt : Value), es.length = s.ts.length ∧ (∀ x ∈ es, x.length = 5) ∧ wr.ownsRow (B0 + 2) 54 5 (.slice A s.ts.length cn) s.ts.length es.flatten ∧ (∀ (j : Nat) (n : Nt) (e : List Value), j < k → s.ts[j]? = some n → es[j]? = some e → NtW wr (B0 + 2) n e) ∧ (es[k]? = some (ntC n vt (.slice As n.sh.length cs)) ∧ wr.ownsRow (B0 + 2) 9 1 vt n.tg.length (n.tg.map strV)) ∧ (∀ (j : Nat) (n : Nt) (e : List Value), k < j → s.ts[j]? = some n → es[j]? = some e → NtIn wr B0 n e)
  be : Below B0 w0 wr
  sz : B0 + 2 ≤ wr.heap.size
theorem HalfI.below {s : Sf} {vb : Value} {A : Option Addr} {cn : Nat} {w0 wr wr' : World} {B0 k : Nat} {n : Nt} {As : Option Addr} {cs : Nat} (h : HalfI s vb A cn w0 B0 k n As cs wr) (hb : Below wr.heap.size wr wr') : HalfI s vb A cn w0 B0 k n As cs wr' := by
  obtain ⟨es, vt, h1, h2, h3, h4, ⟨h5, h6⟩, h7⟩ := h.es
  have hB := hb.mono (show B0 ≤ wr.heap.size by have := h.sz; omega)
  exact ⟨h.box.below hb h.box.lt, h.res.below hb h.res.lt, own_belowW h.ob hb, h.sl.below hB, ⟨es, vt, h1, h2, own_belowW h3 hb, fun j n e a b c => (h4 j n e a b c).below hb, ⟨h5, own_belowW h6 hb⟩, fun j n e a b c => (h7 j n e a b c).below hB⟩, h.be.trans hB, by have := hb.size; have := h.sz; omega⟩
theorem CloneI.half {s : Sf} {vb : Value} {gn cn : Nat} {w0 wr : World} {B0 k : Nat} (h : CloneI s vb (some ⟨gn, 0, none⟩) cn w0 B0 k wr) {n : Nt} (hn : s.ts[k]? = some n) (hgn : B0 + 2 ≤ gn) : ∃ At ct As cs, (wr.cell? ⟨gn, k * 5 + 3, none⟩ = some (.slice At n.tg.length ct) ∧ Sl wr B0 At (n.tg.map strV)) ∧ ∀ (w5 : World) (v1 : Value), Below wr.heap.size wr w5 → w5.ownsRow wr.heap.size 9 1 v1 n.tg.length (n.tg.map strV) → HalfI s vb (some ⟨gn, 0, none⟩) cn w0 B0 k n As cs (w5.setCell ⟨gn, k * 5 + 3, none⟩ v1) := by
  obtain ⟨hbox, hres, hob, ⟨es, hel, hC, hon, hnew, hold⟩, hbe, hsz⟩ := h
  have hkl : k < es.length := by
    have := (List.getElem?_eq_some_iff.1 hn).1
    omega
  have hk := List.getElem?_eq_getElem hkl
  obtain ⟨At, ct, As, cs, he, hAt, hAs, _⟩ := (hold k n _ (Nat.le_refl _) hn hk).ex
  rw [he] at hk
  refine ⟨At, ct, As, cs, ⟨own_cellE hon hC hk (j := 3) rfl, hAt⟩, fun w5 v1 hb h1 => ?_⟩
  have hB := hb.mono (show B0 ≤ wr.heap.size by omega)
  have hon5 := own_belowW hon hb
  have q1 := (World.ownsRow.stored hon5 (k * 5 + 3) v1).1
  rw [set_f3 es k _ _ _ _ _ v1 hk hC] at q1
  have q2 := set1_grown w5 gn (k * 5 + 3) v1
  have hob5 := own_belowW hob hb
  have hbG : Below B0 w5 (w5.setCell ⟨gn, k * 5 + 3, none⟩ v1) := below_grown (Below.refl _ _) q2 (by omega) (by have := hb.size; omega)
  refine ⟨(hbox.below hb hbox.lt).grown q2 (by omega), (hres.below hb hres.lt).grown q2 (by omega), hob5.kept q2 (own_apart hob5 hon5 (by decide)), (hAs.below hB).below hbG, ⟨es.set k [.int .i64 n.id, .int .i64 n.bk, .string n.nm, v1, .slice As n.sh.length cs], v1, by rw [List.length_set]; exact hel, ?_, q1, ?_, ⟨by rw [List.getElem?_set, if_pos rfl, if_pos hkl]; rfl, ?_⟩, ?_⟩, (hbe.trans hB).trans hbG, by have := hb.size; have := q2.size; omega⟩
  · intro x hx
    rcases List.mem_or_eq_of_mem_set hx with h | rfl
    · exact hC x h
    · rfl
  · intro j m e hj hm hej
    rw [List.getElem?_set, if_neg (by omega)] at hej
    exact ((hnew j m e hj hm hej).below hb).kept hon5 q2 (by decide) (by decide)
  · have h2 := own_base h1 hsz
    exact h2.kept q2 (own_apart h2 hon5 (by decide))
  · intro j m e hj hm hej
    rw [List.getElem?_set, if_neg (by omega)] at hej
    exact ((hold j m e (by omega) hm hej).below hB).below hbG
theorem HalfI.whole {s : Sf} {vb : Value} {gn cn : Nat} {w0 wr : World} {B0 k : Nat} {n : Nt} {As : Option Addr} {cs : Nat} (h : HalfI s vb (some ⟨gn, 0, none⟩) cn w0 B0 k n As cs wr) (hn : s.ts[k]? = some n) (hgn : B0 + 2 ≤ gn) : wr.cell? ⟨gn, k * 5 + 4, none⟩ = some (.slice As n.sh.length cs) ∧ ∀ (w5 : World) (v2 : Value), Below wr.heap.size wr w5 → w5.ownsRow wr.heap.size 3 1 v2 n.sh.length (n.sh.map (Value.int .i64)) → CloneI s vb (some ⟨gn, 0, none⟩) cn w0 B0 (k + 1) (w5.setCell ⟨gn, k * 5 + 4, none⟩ v2) := by
  obtain ⟨hbox, hres, hob, hAs, ⟨es, vt, hel, hC, hon, hnew, ⟨hk, hvt⟩, hold⟩, hbe, hsz⟩ := h
  have hkl : k < es.length := (List.getElem?_eq_some_iff.1 hk).1
  refine ⟨own_cellE hon hC hk (j := 4) rfl, fun w5 v2 hb h1 => ?_⟩
  have hB := hb.mono (show B0 ≤ wr.heap.size by omega)
  have hon5 := own_belowW hon hb
  have hvt5 := own_belowW hvt hb
  have q1 := (World.ownsRow.stored hon5 (k * 5 + 4) v2).1
  rw [set_f4 es k _ _ _ _ _ v2 hk hC] at q1
  have q2 := set1_grown w5 gn (k * 5 + 4) v2
  have hob5 := own_belowW hob hb
  have hbG : Below B0 w5 (w5.setCell ⟨gn, k * 5 + 4, none⟩ v2) := below_grown (Below.refl _ _) q2 (by omega) (by have := hb.size; omega)
  refine ⟨(hbox.below hb hbox.lt).grown q2 (by omega), (hres.below hb hres.lt).grown q2 (by omega), hob5.kept q2 (own_apart hob5 hon5 (by decide)), ⟨es.set k [.int .i64 n.id, .int .i64 n.bk, .string n.nm, vt, v2], by rw [List.length_set]; exact hel, ?_, q1, ?_, ?_⟩, (hbe.trans hB).trans hbG, by have := hb.size; have := q2.size; omega⟩
  · intro x hx
    rcases List.mem_or_eq_of_mem_set hx with h | rfl
    · exact hC x h
    · rfl
  · intro j m e hj hm hej
    rw [List.getElem?_set] at hej
    split at hej
    · rename_i hjk
      subst hjk
      rw [hn] at hm
      cases hm
      simp only [hkl, if_true, Option.some.injEq] at hej
      subst hej
      exact NtW.kept (w := w5) ⟨vt, v2, rfl, hvt5, own_base h1 hsz⟩ hon5 q2 (by decide) (by decide)
    · exact ((hnew j m e (by omega) hm hej).below hb).kept hon5 q2 (by decide) (by decide)
  · intro j m e hj hm hej
    rw [List.getElem?_set, if_neg (by omega)] at hej
    exact ((hold j m e (by omega) hm hej).below hB).below hbG
theorem rcopy_any (s : Sf) (v : Value) (w : World) (hS : ShR w w.heap.size v s) (hlb : s.bs.length ≤ 100000) (hln : s.ts.length ≤ 100000) (hlr : ∀ n ∈ s.ts, n.tg.length ≤ 100000 ∧ n.sh.length ≤ 100000) :
    Calls Tryz.prog 11 #[v] w fun e' w' => ∃ v', e' = .returned v' ∧ ShW w' w.heap.size v' s ∧ Below w.heap.size w w' := by
  obtain ⟨Ab, cb, An, cn, rfl, hB, hN, hcb, hmb, hcn, hmn⟩ := hS.ex
  clear hS
  obtain ⟨es, hel, hse, hnt⟩ := hN.ex
  have HB : Below w.heap.size w ((w.alloc (.cells #[.int .i64 s.nb, .int .i64 s.nn, .int .i64 s.ns, .slice Ab s.bs.length cb, .slice An s.ts.length cn] 25)).alloc (.cells #[.int .i64 0, .int .i64 0, .int .i64 0, .slice none 0 0, .slice none 0 0] 25)) := (((Below.refl w.heap.size w).alloc (by first | (simp; done) | (simp; omega)) _).alloc (by first | (simp; done) | (simp; omega)) _)
  have B1 : Blk ((w.alloc (.cells #[.int .i64 s.nb, .int .i64 s.nn, .int .i64 s.ns, .slice Ab s.bs.length cb, .slice An s.ts.length cn] 25)).alloc (.cells #[.int .i64 0, .int .i64 0, .int .i64 0, .slice none 0 0, .slice none 0 0] 25)) w.heap.size 25 #[.int .i64 s.nb, .int .i64 s.nn, .int .i64 s.ns, .slice Ab s.bs.length cb, .slice An s.ts.length cn] := (Blk.new_ w 25 #[.int .i64 s.nb, .int .i64 s.nn, .int .i64 s.ns, .slice Ab s.bs.length cb, .slice An s.ts.length cn]).alloc_ (.cells #[.int .i64 0, .int .i64 0, .int .i64 0, .slice none 0 0, .slice none 0 0] 25)
  have B2 : Blk ((w.alloc (.cells #[.int .i64 s.nb, .int .i64 s.nn, .int .i64 s.ns, .slice Ab s.bs.length cb, .slice An s.ts.length cn] 25)).alloc (.cells #[.int .i64 0, .int .i64 0, .int .i64 0, .slice none 0 0, .slice none 0 0] 25)) (w.heap.size + 1) 25 #[.int .i64 0, .int .i64 0, .int .i64 0, .slice none 0 0, .slice none 0 0] := by
    have := Blk.new_ (w.alloc (.cells #[.int .i64 s.nb, .int .i64 s.nn, .int .i64 s.ns, .slice Ab s.bs.length cb, .slice An s.ts.length cn] 25)) 25 #[.int .i64 0, .int .i64 0, .int .i64 0, .slice none 0 0, .slice none 0 0]
    simpa using this
  have hs : ((w.alloc (.cells #[.int .i64 s.nb, .int .i64 s.nn, .int .i64 s.ns, .slice Ab s.bs.length cb, .slice An s.ts.length cn] 25)).alloc (.cells #[.int .i64 0, .int .i64 0, .int .i64 0, .slice none 0 0, .slice none 0 0] 25)).heap.size = w.heap.size + 2 := by simp
  go_enter Tryz.func11, Tryz.ntmps11
  go_upto_region 1 with fail
  obtain ⟨W, hW⟩ : ∃ V : World, V = ((w.alloc (.cells #[.int .i64 s.nb, .int .i64 s.nn, .int .i64 s.ns, .slice Ab s.bs.length cb, .slice An s.ts.length cn] 25)).alloc (.cells #[.int .i64 0, .int .i64 0, .int .i64 0, .slice none 0 0, .slice none 0 0] 25)) := ⟨_, rfl⟩
  rw [← hW] at HB B1 B2 hs ⊢
  clear hW
  have R1 : RdB W W.heap.size Ab s.bs.length 2 (s.bs.map bkC).flatten := rdB_slE ((SlE.below hB HB).mono HB.size) (bkC_two _) (by rw [List.length_map])
  have hC0 : ∀ x ∈ es, x.length = 5 := by
    intro x hx
    obtain ⟨k, hk, rfl⟩ := List.mem_iff_getElem.1 hx
    obtain ⟨_, _, _, _, e, _⟩ := (hnt k _ _ (List.getElem?_eq_getElem (by omega)) (List.getElem?_eq_getElem hk)).ex
    rw [e]
    rfl
  have o1 : ∀ u ∈ (s.bs.map bkC).flatten, u.oneCell' = true := by
    intro u hu
    obtain ⟨x, hx, hu⟩ := List.mem_flatten.1 hu
    obtain ⟨b, _, rfl⟩ := List.mem_map.1 hx
    simp [bkC] at hu
    rcases hu with rfl | rfl <;> rfl
  have o2 : ∀ u ∈ es.flatten, u.oneCell' = true := by
    intro u hu
    obtain ⟨x, hx, hu⟩ := List.mem_flatten.1 hu
    obtain ⟨k, hk, rfl⟩ := List.mem_iff_getElem.1 hx
    obtain ⟨_, _, _, _, e, _⟩ := (hnt k _ _ (List.getElem?_eq_getElem (by omega)) (List.getElem?_eq_getElem hk)).ex
    rw [e] at hu
    simp [ntC] at hu
    rcases hu with rfl | rfl | rfl | rfl | rfl <;> rfl
  have k3 := B1.cell_ 3
  have f3 := B1.free 3
  simp at k3
  go_upto_region 2 with (at_builtin; obtain ⟨ti0, hi, hz0, hz1, hz2⟩ := info_parts info_clBk; refine wpList_app _ rfl (.const (.slice none 0 0)) (.tmp 5) _ rfl W.heap.size 60 ti0 _ 2 24 Tryz.underlying22 hi hz0 hz1 hz2 rfl (by decide) (.slice none 0 0) 0 [] rfl (World.ownsRow_nil _ _ _ _) Ab s.bs.length cb (s.bs.map bkC).flatten rfl (R1.toRd (by decide)) o1 (by unfold maxLen; omega) (by omega) (Nat.le_refl _) ?_; intro v' w3 ho' hg' hv'; clear hi hz0 hz1 hz2 hv'; rw [Nat.zero_add, List.nil_append] at ho'; have b3 : Below W.heap.size W w3 := (Below.refl _ _).grown hg' (Nat.le_refl _) (fun j hj => by simp [Value.ownBlock] at hj); clear hg'; obtain ⟨A3, c3, rfl, hc3, hm3⟩ := own_shape ho'; have ho1 := ho'; clear ho'; (have B1 := B1.below b3 B1.lt); (have B2 := B2.below b3 B2.lt); (have HB := btr HB HB.size b3); (have k3' := B1.cell_ 3); (have f3' := B1.free 3); simp at k3')
  have B1s := B1.set_ 3 (.slice A3 s.bs.length c3)
  have B2s := B2.far (p := ⟨w.heap.size, 3, none⟩) (by show w.heap.size + 1 ≠ w.heap.size; omega) (.slice A3 s.bs.length c3)
  have ho1s := own_far (p := ⟨w.heap.size, 3, none⟩) ho1 (by show w.heap.size < W.heap.size; omega) (.slice A3 s.bs.length c3)
  have HBs := HB.setCell (p := ⟨w.heap.size, 3, none⟩) (Nat.le_refl _) (.slice A3 s.bs.length c3)
  have hz3 : w.heap.size + 2 ≤ w3.heap.size := by have := b3.size; omega
  clear B1 B2 ho1 HB
  obtain ⟨Wb, hWb⟩ : ∃ V : World, V = w3.setCell ⟨w.heap.size, 3, none⟩ (.slice A3 s.bs.length c3) := ⟨_, rfl⟩
  have hzb : Wb.heap.size = w3.heap.size := by rw [hWb]; simp [World.setCell]
  rw [← hWb] at B1s B2s ho1s HBs ⊢
  clear hWb k3' f3' o1 R1
  simp at B1s
  have R2 : RdB Wb Wb.heap.size An s.ts.length 5 es.flatten := rdB_slE ((SlE.below hse HBs).mono HBs.size) hC0 hel
  have k4 := B1s.cell_ 4
  have f4 := B1s.free 4
  simp at k4
  go_upto_region 3 with (at_builtin; obtain ⟨ti0, hi, hz0, hz1, hz2⟩ := info_parts info_clNt; refine wpList_app _ rfl (.const (.slice none 0 0)) (.tmp 9) _ rfl Wb.heap.size 54 ti0 _ 5 80 Tryz.underlying23 hi hz0 hz1 hz2 rfl (by decide) (.slice none 0 0) 0 [] rfl (World.ownsRow_nil _ _ _ _) An s.ts.length cn es.flatten rfl (R2.toRd (by decide)) o2 (by unfold maxLen; omega) (by omega) (Nat.le_refl _) ?_; intro v' w5 ho' hg' hv'; clear hi hz0 hz1 hz2 hv'; rw [Nat.zero_add, List.nil_append] at ho'; have b5 : Below Wb.heap.size Wb w5 := (Below.refl _ _).grown hg' (Nat.le_refl _) (fun j hj => by simp [Value.ownBlock] at hj); clear hg'; obtain ⟨A5, c5, rfl, hc5, hm5⟩ := own_shape ho'; have ho2 := ho'; clear ho'; (have B1s := B1s.below b5 B1s.lt); (have B2s := B2s.below b5 B2s.lt); (have HBs := btr HBs HBs.size b5); (have ho1s := own_belowW ho1s b5); (have k4' := B1s.cell_ 4); (have f4' := B1s.free 4); simp at k4')
  have B1t := B1s.set_ 4 (.slice A5 s.ts.length c5)
  have B2t := B2s.far (p := ⟨w.heap.size, 4, none⟩) (by show w.heap.size + 1 ≠ w.heap.size; omega) (.slice A5 s.ts.length c5)
  have ho1t := own_far (p := ⟨w.heap.size, 4, none⟩) ho1s (by show w.heap.size < W.heap.size; omega) (.slice A5 s.ts.length c5)
  have ho2t := own_far (p := ⟨w.heap.size, 4, none⟩) ho2 (by show w.heap.size < Wb.heap.size; omega) (.slice A5 s.ts.length c5)
  have HBt := HBs.setCell (p := ⟨w.heap.size, 4, none⟩) (Nat.le_refl _) (.slice A5 s.ts.length c5)
  have hz5 : w.heap.size + 2 ≤ w5.heap.size := by have := b5.size; omega
  clear B1s B2s ho1s ho2 HBs
  obtain ⟨Wc, hWc⟩ : ∃ V : World, V = w5.setCell ⟨w.heap.size, 4, none⟩ (.slice A5 s.ts.length c5) := ⟨_, rfl⟩
  have hzc : Wc.heap.size = w5.heap.size := by rw [hWc]; simp [World.setCell]
  rw [← hWc] at B1t B2t ho1t ho2t HBt ⊢
  clear hWc k4' f4' o2 R2
  simp at B1t
  replace ho1t := own_base ho1t (show w.heap.size + 2 ≤ W.heap.size by omega)
  replace ho2t := own_base ho2t (show w.heap.size + 2 ≤ Wb.heap.size by omega)
  have hB0 : ∃ gn, A5 = some ⟨gn, 0, none⟩ ∧ w.heap.size + 2 ≤ gn ∨ s.ts.length = 0 := by
    rcases ho2t.2 with ⟨h, h0⟩ | ⟨g, c, cu, h, hb, _⟩
    · exact ⟨0, Or.inr h0⟩
    · injection h with h1 h2 h3
      exact ⟨g, Or.inl ⟨h1, hb⟩⟩
  obtain ⟨m, hm⟩ : ∃ m, s.ts.length = m := ⟨_, rfl⟩
  have HM := Lib.hid hm
  have HI0 : CloneI s (.slice A3 s.bs.length c3) A5 c5 w w.heap.size 0 Wc := ⟨B1t, B2t, ho1t, ⟨es, hel, hC0, ho2t, fun j n e hj => absurd hj (Nat.not_lt_zero _), fun j n e _ a b => (hnt j n e a b).below HBt⟩, HBt, by omega⟩
  have hlr' := Lib.hid hlr
  have hgn := Lib.hid hB0
  have k4 := B1t.cell_ 4
  simp at k4
  clear B1t B2t ho1t ho2t HBt hlr hB0 hnt hse hC0 hel hB hN
  rw [hm] at k4
  clear hm
  go_wp2_with fail
  go_loopw [3] (fun i wr => ∃ k : Nat, k ≤ m ∧ i = .int .i64 k ∧ CloneI s (.slice A3 s.bs.length c3) A5 c5 w w.heap.size k wr) (fun i _ => m - (intOf i).toNat)
  case atStart => exact ⟨0, by omega, rfl, HI0⟩
  case round =>
    obtain ⟨k, hk, rfl, HI⟩ := hrel
    clear HI0 k4
    by_cases hlt : k < m
    · have hlx : k < s.ts.length := by have := HM.out; omega
      have i0 : (0 : Int) ≤ (k : Int) := by omega
      have i1 : (k : Int) < (m : Int) := by omega
      obtain ⟨gn, hg⟩ := hgn.out
      obtain ⟨rfl, hgw⟩ := hg.resolve_right (by omega)
      clear hg
      obtain ⟨n, hn⟩ : ∃ n, s.ts[k]? = some n := ⟨_, List.getElem?_eq_getElem hlx⟩
      have HN := Lib.hid hn
      clear hn
      have kb := HI.box.cell_ 4
      simp at kb
      rw [HM.out] at kb
      have kb' : wr.drew.cell? ⟨w.heap.size, 4, none⟩ = some (.slice (some ⟨gn, 0, none⟩) m c5) := kb
      obtain ⟨es, -, -, hon, -⟩ := HI.es
      obtain ⟨At, ct, As, cs, ⟨ycell, hAt⟩, hmk⟩ := HI.half HN.out hgw
      have ycd : wr.drew.cell? ⟨gn, k * 5 + 3, none⟩ = some (.slice At n.tg.length ct) := ycell
      have hAt2 : Sl wr.drew wr.drew.heap.size At (n.tg.map strV) := (hAt.below ((below_dr wr).mono HI.be.size)).mono_ HI.be.size
      have o1 : ∀ u ∈ n.tg.map strV, u.oneCell' = true := fun u hu => by obtain ⟨x, _, rfl⟩ := List.mem_map.1 hu; rfl
      have o2 : ∀ u ∈ n.sh.map (Value.int .i64), u.oneCell' = true := fun u hu => by obtain ⟨x, _, rfl⟩ := List.mem_map.1 hu; rfl
      have hr := hlr'.out n (List.mem_of_getElem? HN.out)
      have hr1 := hr.1
      have hr2 := hr.2
      clear hr hAt
      go_upto_region 6 with fail
      refine wp_region_noPanic ?_
      refine wp_region_held_drew (S := (fun w_ => w_.cell? ⟨w.heap.size, 4, none⟩ = some (.slice (some ⟨gn, 0, none⟩) m c5))) (by kernel_rfl) ?_ (fun hHeld => ?_)
      · (first | with_reducible assumption | exact kbH | exact kbJ)
      refine tk 0 ?_; try simp only [Act.put, pz1, pz2, pz3]
      refine tk 1 ?_; try simp only [Act.put, pz1, pz2, pz3]
      refine tk 2 ?_; try simp only [Act.put, pz1, pz2, pz3]
      refine tk 3 ?_; try simp only [Act.put, pz1, pz2, pz3]
      refine tk 4 ?_; try simp only [Act.put, pz1, pz2, pz3]
      refine tk 5 ?_; try simp only [Act.put, pz1, pz2, pz3]
      refine tk 6 ?_; try simp only [Act.put, pz1, pz2, pz3]
      refine tk 7 ?_; try simp only [Act.put, pz1, pz2, pz3]
      refine wpAnyH_ready (rs := [8]) (by kernel_rfl) (by simp) ?_
      refine AllReadyH.cons (o := ⟨some 27, .load 38 (.tmp 26), 38, "ref.go:113", #[⟨7, .data⟩], none⟩) rfl (fun K hK => ?_) AllReadyH.nil
      go_simp
      refine hK.out _ _ ?_ (fun hNew => ?_)
      · (first | with_reducible assumption | exact kbH | exact kbJ)
      clear hK K hHeld
      have hHeld := hNew
      clear hNew
      try simp only [Act.put, pz1, pz2, pz3]
      refine wpAnyH_ready (rs := [9]) (by kernel_rfl) (by simp) ?_
      refine AllReadyH.cons (o := ⟨some 28, .call { callee := .builtin .append, args := #[.const (.slice none 0 0), .tmp 27], argTypes := #[38, 38] }, 38, "ref.go:113", #[⟨8, .data⟩], none⟩) rfl (fun K hK => ?_) AllReadyH.nil
      obtain ⟨ti0, hi, hz0, hz1, hz2⟩ := info_parts info_clStr
      refine step_app _ rfl (.const (.slice none 0 0)) (.tmp 27) _ rfl wr.drew.heap.size 9 ti0 _ 1 16 Tryz.underlying38 hi hz0 hz1 hz2 rfl (by decide) (.slice none 0 0) 0 [] rfl (World.ownsRow_nil _ _ _ _) At n.tg.length ct (n.tg.map strV) rfl (Rd.of_sl hAt2 (by rw [List.length_map])) o1 (by unfold maxLen; omega) (by omega) (Nat.le_refl _) ?_
      intro v9 w9 ho9 hg9 hv9
      clear hi hz0 hz1 hz2 hv9
      rw [Nat.zero_add, List.nil_append] at ho9
      have b9 : Below wr.heap.size wr w9 := btr (below_dr wr) (below_dr wr).size ((Below.refl _ _).grown hg9 (Nat.le_refl _) (fun j hj => by simp [Value.ownBlock] at hj))
      clear hg9
      obtain ⟨A9, c9, rfl, -, -⟩ := own_shape ho9
      have HH := hmk w9 _ b9 ho9
      have kb9 : w9.cell? ⟨w.heap.size, 4, none⟩ = some (.slice (some ⟨gn, 0, none⟩) m c5) := (b9.cell (p := ⟨w.heap.size, 4, none⟩) HI.box.lt).trans kb
      have kbH : (w9.setCell ⟨gn, k * 5 + 3, none⟩ (.slice A9 n.tg.length c9)).cell? ⟨w.heap.size, 4, none⟩ = some (.slice (some ⟨gn, 0, none⟩) s.ts.length c5) := HH.box.cell_ 4
      rw [HM.out] at kbH
      have z3 := World.ownsRow.frozenAt (own_belowW hon b9) (k * 5 + 3)
      have x3 := (b9.cell (p := ⟨gn, k * 5 + 3, none⟩) (World.ownsRow.lt hon gn rfl).2).trans ycell
      refine hK.out _ _ ?_ (fun hNew => ?_)
      · (first | with_reducible assumption | exact kbH | exact kbJ)
      clear hK K hHeld
      have hHeld := hNew
      clear hNew
      try simp only [Act.put, pz1, pz2, pz3]
      refine tk 10 ?_; try simp only [Act.put, pz1, pz2, pz3]
      refine tk 11 ?_; try simp only [Act.put, pz1, pz2, pz3]
      refine wpAnyH_ready (rs := [12]) (by kernel_rfl) (by simp) ?_
      refine AllReadyH.cons (o := ⟨none, .store 38 (.tmp 30) (.tmp 28), 0, "ref.go:113", #[⟨11, .data⟩, ⟨9, .data⟩, ⟨9, .chain⟩, ⟨0, .phase⟩, ⟨1, .phase⟩, ⟨2, .phase⟩, ⟨3, .phase⟩, ⟨4, .phase⟩, ⟨5, .phase⟩, ⟨6, .phase⟩, ⟨7, .phase⟩, ⟨8, .phase⟩, ⟨9, .phase⟩], none⟩) rfl (fun K hK => ?_) AllReadyH.nil
      go_simp
      refine hK.out _ _ ?_ (fun hNew => ?_)
      · (first | with_reducible assumption | exact kbH | exact kbJ)
      clear hK K hHeld
      have hHeld := hNew
      clear hNew
      try simp only [Act.put, pz1, pz2, pz3]
      refine wpAnyH_done (by kernel_rfl) ?_ _
      refine NoPanic.normal ?_
      go_upto_region 7 with fail
      obtain ⟨wh, hwh⟩ : ∃ V : World, V = w9.setCell ⟨gn, k * 5 + 3, none⟩ (.slice A9 n.tg.length c9) := ⟨_, rfl⟩
      rw [← hwh] at HH kbH ⊢
      clear hwh kb kb' kb9 z3 x3 ycell ycd hmk hHeld ho9 hon HI b9
      have kb2 := kbH
      have kb2' : wh.drew.cell? ⟨w.heap.size, 4, none⟩ = some (.slice (some ⟨gn, 0, none⟩) m c5) := kb2
      clear kbH
      obtain ⟨ycell2, hmk2⟩ := HH.whole HN.out hgw
      have ycd2 : wh.drew.cell? ⟨gn, k * 5 + 4, none⟩ = some (.slice As n.sh.length cs) := ycell2
      obtain ⟨es2, vt2, -, -, hon2, -⟩ := HH.es
      have hAs2 : Sl wh.drew wh.drew.heap.size As (n.sh.map (Value.int .i64)) := (HH.sl.below ((below_dr wh).mono HH.be.size)).mono_ HH.be.size
      refine wp_region_noPanic ?_
      refine wp_region_held_drew (S := (fun w_ => w_.cell? ⟨w.heap.size, 4, none⟩ = some (.slice (some ⟨gn, 0, none⟩) m c5))) (by kernel_rfl) ?_ (fun hHeld => ?_)
      · (first | with_reducible assumption | exact kbH | exact kbJ)
      refine tk 0 ?_; try simp only [Act.put, pz1, pz2, pz3]
      refine tk 1 ?_; try simp only [Act.put, pz1, pz2, pz3]
      refine tk 2 ?_; try simp only [Act.put, pz1, pz2, pz3]
      refine tk 3 ?_; try simp only [Act.put, pz1, pz2, pz3]
      refine tk 4 ?_; try simp only [Act.put, pz1, pz2, pz3]
      refine tk 5 ?_; try simp only [Act.put, pz1, pz2, pz3]
      refine tk 6 ?_; try simp only [Act.put, pz1, pz2, pz3]
      refine tk 7 ?_; try simp only [Act.put, pz1, pz2, pz3]
      refine wpAnyH_ready (rs := [8]) (by kernel_rfl) (by simp) ?_
      refine AllReadyH.cons (o := ⟨some 39, .load 52 (.tmp 38), 52, "ref.go:114", #[⟨7, .data⟩], none⟩) rfl (fun K hK => ?_) AllReadyH.nil
      go_simp
      refine hK.out _ _ ?_ (fun hNew => ?_)
      · (first | with_reducible assumption | exact kbH | exact kbJ)
      clear hK K hHeld
      have hHeld := hNew
      clear hNew
      try simp only [Act.put, pz1, pz2, pz3]
      refine wpAnyH_ready (rs := [9]) (by kernel_rfl) (by simp) ?_
      refine AllReadyH.cons (o := ⟨some 40, .call { callee := .builtin .append, args := #[.const (.slice none 0 0), .tmp 39], argTypes := #[52, 52] }, 52, "ref.go:114", #[⟨8, .data⟩], none⟩) rfl (fun K hK => ?_) AllReadyH.nil
      obtain ⟨ti0, hi, hz0, hz1, hz2⟩ := info_parts info_clInt
      refine step_app _ rfl (.const (.slice none 0 0)) (.tmp 39) _ rfl wh.drew.heap.size 3 ti0 _ 1 8 Tryz.underlying52 hi hz0 hz1 hz2 rfl (by decide) (.slice none 0 0) 0 [] rfl (World.ownsRow_nil _ _ _ _) As n.sh.length cs (n.sh.map (Value.int .i64)) rfl (Rd.of_sl hAs2 (by rw [List.length_map])) o2 (by unfold maxLen; omega) (by omega) (Nat.le_refl _) ?_
      intro v8 w8 ho9 hg9 hv9
      clear hi hz0 hz1 hz2 hv9
      rw [Nat.zero_add, List.nil_append] at ho9
      have b8 : Below wh.heap.size wh w8 := btr (below_dr wh) (below_dr wh).size ((Below.refl _ _).grown hg9 (Nat.le_refl _) (fun j hj => by simp [Value.ownBlock] at hj))
      clear hg9
      obtain ⟨A8, c8, rfl, -, -⟩ := own_shape ho9
      have HJ := hmk2 w8 _ b8 ho9
      have kb8 : w8.cell? ⟨w.heap.size, 4, none⟩ = some (.slice (some ⟨gn, 0, none⟩) m c5) := (b8.cell (p := ⟨w.heap.size, 4, none⟩) HH.box.lt).trans kb2
      have kbJ : (w8.setCell ⟨gn, k * 5 + 4, none⟩ (.slice A8 n.sh.length c8)).cell? ⟨w.heap.size, 4, none⟩ = some (.slice (some ⟨gn, 0, none⟩) s.ts.length c5) := HJ.box.cell_ 4
      rw [HM.out] at kbJ
      have z4 := World.ownsRow.frozenAt (own_belowW hon2 b8) (k * 5 + 4)
      have x4 := (b8.cell (p := ⟨gn, k * 5 + 4, none⟩) (World.ownsRow.lt hon2 gn rfl).2).trans ycell2
      refine hK.out _ _ ?_ (fun hNew => ?_)
      · (first | with_reducible assumption | exact kbH | exact kbJ)
      clear hK K hHeld
      have hHeld := hNew
      clear hNew
      try simp only [Act.put, pz1, pz2, pz3]
      refine tk 10 ?_; try simp only [Act.put, pz1, pz2, pz3]
      refine tk 11 ?_; try simp only [Act.put, pz1, pz2, pz3]
      refine wpAnyH_ready (rs := [12]) (by kernel_rfl) (by simp) ?_
      refine AllReadyH.cons (o := ⟨none, .store 52 (.tmp 42) (.tmp 40), 0, "ref.go:114", #[⟨11, .data⟩, ⟨9, .data⟩, ⟨9, .chain⟩, ⟨0, .phase⟩, ⟨1, .phase⟩, ⟨2, .phase⟩, ⟨3, .phase⟩, ⟨4, .phase⟩, ⟨5, .phase⟩, ⟨6, .phase⟩, ⟨7, .phase⟩, ⟨8, .phase⟩, ⟨9, .phase⟩], none⟩) rfl (fun K hK => ?_) AllReadyH.nil
      go_simp
      refine hK.out _ _ ?_ (fun hNew => ?_)
      · (first | with_reducible assumption | exact kbH | exact kbJ)
      clear hK K hHeld
      have hHeld := hNew
      clear hNew
      try simp only [Act.put, pz1, pz2, pz3]
      refine wpAnyH_done (by kernel_rfl) ?_ _
      refine NoPanic.normal ?_
      go_wp2_with fail
      go_roundw
      case rel => exact ⟨k + 1, by omega, by go_num, HJ⟩
      case measure => simp [intOf]; omega
    · have hjn : k = m := by omega
      subst hjn
      clear hlt
      obtain ⟨es, hel, hC, hon, hnew, -⟩ := HI.es
      have p0 := HI.box.cell_ 0
      have p1 := HI.box.cell_ 1
      have p2 := HI.box.cell_ 2
      have p3 := HI.box.cell_ 3
      have p4 := HI.box.cell_ 4
      simp at p0 p1 p2 p3 p4
      have t0 := HI.res.free 0
      have t1 := HI.res.free 1
      have t2 := HI.res.free 2
      have t3 := HI.res.free 3
      have t4 := HI.res.free 4
      have r0 := HI.res.cell_ 0
      have r1 := HI.res.cell_ 1
      have r2 := HI.res.cell_ 2
      have r3 := HI.res.cell_ 3
      have r4 := HI.res.cell_ 4
      simp at r0 r1 r2 r3 r4
      obtain ⟨hbe, hsz, hob, hres⟩ : Below w.heap.size w wr ∧ w.heap.size + 2 ≤ wr.heap.size ∧ wr.ownsRow (w.heap.size + 2) 60 2 (.slice A3 s.bs.length c3) s.bs.length (s.bs.map bkC).flatten ∧ Blk wr (w.heap.size + 1) 25 #[.int .i64 0, .int .i64 0, .int .i64 0, .slice none 0 0, .slice none 0 0] := ⟨HI.be, HI.sz, HI.ob, HI.res⟩
      rw [HM.out] at p4
      clear HI
      go_wp2_with fail
      have B2u := (Blk.set_ (Blk.set_ (Blk.set_ (Blk.set_ (Blk.set_ hres 0 (.int .i64 s.nb)) 1 (.int .i64 s.nn)) 2 (.int .i64 s.ns)) 3 (.slice A3 s.bs.length c3)) 4 (.slice A5 k c5))
      simp at B2u
      have hG : wr.grownBy (st5 wr (w.heap.size + 1) 0 (.int .i64 s.nb) (.int .i64 s.nn) (.int .i64 s.ns) (.slice A3 s.bs.length c3) (.slice A5 k c5)) (some (w.heap.size + 1)) := grown_set (grown_set (grown_set (grown_set (grown_set (World.grownBy.refl wr _) _ _) _ _) _ _) _ _) _ _
      have hb2 := below_grown hbe hG (by omega) hbe.size
      have hob2 := hob.kept hG (own_off hob (by omega))
      have hon2 := hon.kept hG (own_off hon (by omega))
      have hnew2 : ∀ (j : Nat) (n : Nt) (e : List Value), s.ts[j]? = some n → es[j]? = some e → NtW (st5 wr (w.heap.size + 1) 0 (.int .i64 s.nb) (.int .i64 s.nn) (.int .i64 s.ns) (.slice A3 s.bs.length c3) (.slice A5 k c5)) (w.heap.size + 2) n e := by
        intro j n e a b
        obtain ⟨vt, vs, r, q1, q2⟩ := hnew j n e (by rw [← HM.out]; exact (List.getElem?_eq_some_iff.1 a).1) a b
        exact ⟨vt, vs, r, q1.kept hG (own_off q1 (by omega)), q2.kept hG (own_off q2 (by omega))⟩
      change bodyPost _ _ _ _ _ (st5 wr (w.heap.size + 1) 0 (.int .i64 s.nb) (.int .i64 s.nn) (.int .i64 s.ns) (.slice A3 s.bs.length c3) (.slice A5 k c5))
      change Blk (st5 wr (w.heap.size + 1) 0 (.int .i64 s.nb) (.int .i64 s.nn) (.int .i64 s.ns) (.slice A3 s.bs.length c3) (.slice A5 k c5)) _ _ _ at B2u
      generalize st5 wr (w.heap.size + 1) 0 (.int .i64 s.nb) (.int .i64 s.nn) (.int .i64 s.ns) (.slice A3 s.bs.length c3) (.slice A5 k c5) = Wd at B2u hb2 hob2 hon2 hnew2 ⊢
      have s0 := B2u.cell_ 0
      have s1 := B2u.cell_ 1
      have s2 := B2u.cell_ 2
      have s3 := B2u.cell_ 3
      have s4 := B2u.cell_ 4
      simp at s0 s1 s2 s3 s4
      apply bodyPost_ret (v := .agg #[.int .i64 s.nb, .int .i64 s.nn, .int .i64 s.ns, .slice A3 s.bs.length c3, .slice A5 k c5]) 
      · exact results_cell_row Tryz.results11 _ Wd (w.heap.size + 1) 25 #[.int .i64 s.nb, .int .i64 s.nn, .int .i64 s.ns, .slice A3 s.bs.length c3, .slice A5 k c5] (0, 0) _ rfl B2u Tryz.underlying25 rfl (by kernel_rfl)
      · rfl
      · rw [HM.out] at hon2
        exact ⟨_, rfl, ⟨_, _, es, rfl, own_base hob2 (by omega), hel, by rw [HM.out]; exact own_base hon2 (by omega), fun j n e a b => by
          obtain ⟨vt, vs, r, q1, q2⟩ := hnew2 j n e a b
          exact ⟨vt, vs, r, own_base q1 (by omega), own_base q2 (by omega)⟩⟩, hb2⟩
end Go.Proofs.YteokeghenjobaaaGreatDoor
namespace Go.Proofs.YteokeghenjobaaaGreatDoor
open Go.ChangeShapes Go.WideShapes Go.ChangeAt Go.RowKit
attribute [local go_sem ↓] Go.wp_at_zero Go.wp_at_succ
theorem inI_of {x lo hi : Int} (h1 : lo ≤ x) (h2 : x ≤ hi) : inI x lo hi = true := by
  unfold inI
  rw [decide_eq_true h1, decide_eq_true h2]
  rfl
theorem books_conv {s : Sf} : ∀ (l : List Bk) (bf : Int), (∀ b ∈ l, bf < b.id ∧ b.id ≤ s.nb - 1 ∧ mayN b.nm = true ∧ bookTk s b.nm b.id = false) → (l.Pairwise fun a b => a.id < b.id) → booksFrom s bf l = true
  | [], _, _, _ => rfl
  | x :: l, bf, h, hp => by
    obtain ⟨h1, h2, h3, h4⟩ := h x (by simp)
    rw [List.pairwise_cons] at hp
    show (inI x.id (bf + 1) (s.nb - 1) && (mayN x.nm && (!bookTk s x.nm x.id && booksFrom s x.id l))) = true
    rw [inI_of (by omega) h2, h3, h4, books_conv l x.id (fun b hb => ⟨hp.1 b hb, (h b (by simp [hb])).2⟩) hp.2]
    rfl
theorem notes_conv {s : Sf} : ∀ (l : List Nt) (bf : Int), (∀ b ∈ l, bf < b.id ∧ b.id ≤ s.nn - 1 ∧ mayNt s b = true) → (l.Pairwise fun a b => a.id < b.id) → notesFrom s bf l = true
  | [], _, _, _ => rfl
  | x :: l, bf, h, hp => by
    obtain ⟨h1, h2, h3⟩ := h x (by simp)
    rw [List.pairwise_cons] at hp
    show (inI x.id (bf + 1) (s.nn - 1) && (mayNt s x && notesFrom s x.id l)) = true
    rw [inI_of (by omega) h2, h3, notes_conv l x.id (fun b hb => ⟨hp.1 b hb, (h b (by simp [hb])).2⟩) hp.2]
    rfl
theorem shIn_iff (ns : Int) : ∀ (l seen : List Int), sheetsIn ns seen l = true ↔ (∀ x ∈ l, inI x 1 (ns - 1) = true ∧ x ∉ seen) ∧ l.Nodup
  | [], seen => by simp [sheetsIn]
  | x :: l, seen => by
    have ih := shIn_iff ns l (x :: seen)
    show (inI x 1 (ns - 1) && (!seen.contains x && sheetsIn ns (x :: seen) l)) = true ↔ _
    rw [Bool.and_eq_true, Bool.and_eq_true, ih, List.nodup_cons]
    simp only [Bool.not_eq_true', List.contains_eq_mem, decide_eq_false_iff_not, List.mem_cons, not_or]
    constructor
    · rintro ⟨h1, h2, h3, h4⟩
      refine ⟨fun y hy => ?_, fun hx => (h3 x hx).2.1 rfl, h4⟩
      rcases hy with rfl | hy
      · exact ⟨h1, h2⟩
      · exact ⟨(h3 y hy).1, (h3 y hy).2.2⟩
    · rintro ⟨h1, h2, h3⟩
      refine ⟨(h1 x (Or.inl rfl)).1, (h1 x (Or.inl rfl)).2, fun y hy => ⟨(h1 y (Or.inr hy)).1, fun e => h2 (e ▸ hy), (h1 y (Or.inr hy)).2⟩, h3⟩
theorem sh_iff (ns : Int) : ∀ (l : List Nt) (seen : List Int), sheetsFrom ns seen l = true ↔ (∀ n ∈ l, n.sh.length ≤ 8) ∧ (∀ x ∈ l.flatMap Nt.sh, inI x 1 (ns - 1) = true ∧ x ∉ seen) ∧ (l.flatMap Nt.sh).Nodup
  | [], seen => by simp [sheetsFrom]
  | n :: l, seen => by
    have ih := sh_iff ns l (n.sh.reverse ++ seen)
    show (decide (n.sh.length ≤ 8) && (sheetsIn ns seen n.sh && sheetsFrom ns (n.sh.reverse ++ seen) l)) = true ↔ _
    rw [Bool.and_eq_true, Bool.and_eq_true, ih, shIn_iff, List.flatMap_cons, List.nodup_append]
    simp only [decide_eq_true_eq, List.mem_cons, List.mem_append, List.mem_reverse, not_or]
    constructor
    · rintro ⟨h1, ⟨h2, h3⟩, h4, h5, h6⟩
      refine ⟨fun m hm => ?_, fun x hx => ?_, h3, h6, fun a ha b hb e => ?_⟩
      · rcases hm with rfl | hm
        · exact h1
        · exact h4 m hm
      · rcases hx with hx | hx
        · exact h2 x hx
        · exact ⟨(h5 x hx).1, (h5 x hx).2.2⟩
      · subst e
        exact (h5 a hb).2.1 ha
    · rintro ⟨h1, h2, h3, h4, h5⟩
      exact ⟨h1 n (Or.inl rfl), ⟨fun x hx => h2 x (Or.inl hx), h3⟩, fun m hm => h1 m (Or.inr hm), fun x hx => ⟨(h2 x (Or.inr hx)).1, fun hx2 => h5 x hx2 x hx rfl, (h2 x (Or.inr hx)).2⟩, h4⟩
theorem flat_sub {α β : Type} {f : α → List β} {a b : List α} (h : a.Sublist b) : (a.flatMap f).Sublist (b.flatMap f) := by
  induction h with
  | slnil => exact List.Sublist.refl _
  | cons x _ ih => rw [List.flatMap_cons]; exact ih.trans (List.sublist_append_right _ _)
  | cons_cons x _ ih => rw [List.flatMap_cons, List.flatMap_cons]; exact (List.Sublist.refl _).append ih
theorem mayS_conv {s : Sf} (h : MayF s) : mayS s = true := by
  unfold mayS
  rw [inI_of h.nb.1 h.nb.2, inI_of h.nn.1 h.nn.2, inI_of h.ns.1 h.ns.2, decide_eq_true h.bl, decide_eq_true h.tl, books_conv s.bs 0 h.bs h.bo, notes_conv s.ts 0 h.ts h.tord, h.sh]
  rfl
theorem tk_sub {ts ts' : List Nt} (hs : ts'.Sublist ts) {p : Nt → Bool} (h : ts.any p = false) : ts'.any p = false := by
  rw [List.any_eq_false] at h ⊢
  exact fun x hx => h x (hs.subset hx)
theorem mayNt_sub {s : Sf} {ts' : List Nt} (hs : ts'.Sublist s.ts) {n : Nt} (h : mayNt s n = true) : mayNt { s with ts := ts' } n = true := by
  unfold mayNt at h ⊢
  simp only [Bool.and_eq_true, Bool.not_eq_true'] at h ⊢
  exact ⟨h.1, h.2.1, tk_sub hs h.2.2.1, h.2.2.2⟩
theorem MayF.sub {s : Sf} (h : MayF s) {ts' : List Nt} (hs : ts'.Sublist s.ts) : MayF { s with ts := ts' } := by
  obtain ⟨q1, q2, q3⟩ := (sh_iff _ _ _).1 h.sh
  exact ⟨h.nb, h.nn, h.ns, h.bl, Nat.le_trans hs.length_le h.tl, h.bs, h.bo, fun n hn => ⟨(h.ts n (hs.subset hn)).1, (h.ts n (hs.subset hn)).2.1, mayNt_sub hs (h.ts n (hs.subset hn)).2.2⟩, h.tord.sublist hs,
    (sh_iff _ _ _).2 ⟨fun n hn => q1 n (hs.subset hn), fun x hx => q2 x ((flat_sub hs).subset hx), q3.sublist (flat_sub hs)⟩⟩
def discL (s : Sf) (L : List Int) : Sf := { s with ts := s.ts.filter fun n => !L.contains n.id }
theorem MayF.idinj {s : Sf} (h : MayF s) {a b : Nt} (ha : a ∈ s.ts) (hb : b ∈ s.ts) (he : a.id = b.id) : a = b := by
  obtain ⟨i, hi, rfl⟩ := List.mem_iff_getElem.1 ha
  obtain ⟨j, hj, rfl⟩ := List.mem_iff_getElem.1 hb
  rcases Nat.lt_trichotomy i j with hij | rfl | hij
  · have := List.pairwise_iff_getElem.1 h.tord i j hi hj hij
    omega
  · rfl
  · have := List.pairwise_iff_getElem.1 h.tord j i hj hi hij
    omega
theorem MayF.bidinj {s : Sf} (h : MayF s) {a b : Bk} (ha : a ∈ s.bs) (hb : b ∈ s.bs) (he : a.id = b.id) : a = b := by
  obtain ⟨i, hi, rfl⟩ := List.mem_iff_getElem.1 ha
  obtain ⟨j, hj, rfl⟩ := List.mem_iff_getElem.1 hb
  rcases Nat.lt_trichotomy i j with hij | rfl | hij
  · have := List.pairwise_iff_getElem.1 h.bo i j hi hj hij
    omega
  · rfl
  · have := List.pairwise_iff_getElem.1 h.bo j i hj hi hij
    omega
structure DrpF (s : Sf) (x : Int) (its : List It) : Prop where
  disc : ∀ (i : Nat) (y : It), its[i]? = some y → discC (discL s ((its.map It.id).take i)) y.id = 0
  step : ∀ (i : Nat) (y : It), its[i]? = some y → discS (discL s ((its.map It.id).take i)) y.id = discL s ((its.map It.id).take (i + 1))
  last : dropC (discL s (its.map It.id)) x = 0
  same : dropS (discL s (its.map It.id)) x = dropS s x
  notes : ((dropS s x).ts.length : Int) = (s.ts.length : Int) - (its.length : Int)
  books : ((dropS s x).bs.length : Int) = (s.bs.length : Int) - 1
end Go.Proofs.YteokeghenjobaaaGreatDoor
namespace Go.Proofs.YteokeghenjobaaaGreatDoor
open Go.ChangeShapes Go.WideShapes Go.ChangeAt Go.RowKit
attribute [local go_sem ↓] Go.wp_at_zero Go.wp_at_succ
theorem rSheets_any (s : Sf) (v : Value) (w : World) (hS : ShR w w.heap.size v s) (hln : s.ts.length ≤ 100000) (hlL : (s.ts.flatMap Nt.sh).length ≤ 100000) :
    Calls Tryz.prog 113 #[v] w fun e' w' => ∃ A c, e' = .returned (.slice A (s.ts.flatMap Nt.sh).length c) ∧ Sl w' w'.heap.size A ((s.ts.flatMap Nt.sh).map (Value.int .i64)) ∧ (s.ts.flatMap Nt.sh).length ≤ c ∧ c ≤ maxLen ∧ Below w.heap.size w w' := by
  have hS0 := hS
  obtain ⟨Ab, cb, An, cn, rfl, hB, hN, hcb, hmb, hcn, hmn⟩ := hS.ex
  clear hS
  have HB : Below w.heap.size w (w.alloc (.cells #[.int .i64 s.nb, .int .i64 s.nn, .int .i64 s.ns, .slice Ab s.bs.length cb, .slice An s.ts.length cn] 25)) := ((Below.refl w.heap.size w).alloc (by first | (simp; done) | (simp; omega)) _)
  have B1 : Blk (w.alloc (.cells #[.int .i64 s.nb, .int .i64 s.nn, .int .i64 s.ns, .slice Ab s.bs.length cb, .slice An s.ts.length cn] 25)) w.heap.size 25 #[.int .i64 s.nb, .int .i64 s.nn, .int .i64 s.ns, .slice Ab s.bs.length cb, .slice An s.ts.length cn] := Blk.new_ w 25 #[.int .i64 s.nb, .int .i64 s.nn, .int .i64 s.ns, .slice Ab s.bs.length cb, .slice An s.ts.length cn]
  obtain ⟨es, hel, hse, hnt⟩ := hN.ex
  obtain ⟨n, hn⟩ : ∃ n, s.ts.length = n := ⟨_, rfl⟩
  have HN := Lib.hid hn
  clear hn
  obtain ⟨W, hW⟩ : ∃ V : World, V = (w.alloc (.cells #[.int .i64 s.nb, .int .i64 s.nn, .int .i64 s.ns, .slice Ab s.bs.length cb, .slice An s.ts.length cn] 25)) := ⟨_, rfl⟩
  have hlw : w.heap.size < W.heap.size := by rw [hW]; simp
  have HLL := Lib.hid hlL
  go_enter Tryz.func113, Tryz.ntmps113
  go_upto_region 1 with fail
  rw [← hW] at HB B1 ⊢
  clear hW hS0 hB
  have k4 := B1.cell_ 4
  simp at k4
  rw [HN.out] at k4 hln
  go_wp2_with fail
  go_loopw [3, 4] (fun sv iv wr => ∃ k : Nat, k ≤ n ∧ iv = .int .i64 k ∧ Hid (wr.ownsRow W.heap.size 3 1 sv ((s.ts.take k).flatMap Nt.sh).length (((s.ts.take k).flatMap Nt.sh).map (Value.int .i64))) ∧ Below w.heap.size w wr ∧ wr.cell? ⟨w.heap.size, 4, none⟩ = some (.slice An n cn) ∧ W.heap.size ≤ wr.heap.size) (fun _ iv _ => n - (intOf iv).toNat)
  case atStart => exact ⟨0, by omega, rfl, Lib.hid (World.ownsRow_nil _ _ _ _), HB, k4, Nat.le_refl _⟩
  case round =>
    clear k4 HB B1
    obtain ⟨k, hk, rfl, HR, HBr, k4, hsz⟩ := hrel
    by_cases hlt : k < n
    · have hlx : k < s.ts.length := by have := HN.out; omega
      have i0 : (0 : Int) ≤ (k : Int) := by omega
      have i1 : (k : Int) < (n : Int) := by omega
      obtain ⟨y, hx⟩ : ∃ y, s.ts[k]? = some y := ⟨_, List.getElem?_eq_getElem hlx⟩
      obtain ⟨e0, he⟩ : ∃ e, es[k]? = some e := ⟨_, List.getElem?_eq_getElem (by have := HN.out; omega)⟩
      obtain ⟨At, ct, As, cs, rfl, hAt, hAs, -⟩ := (hnt k y e0 hx he).ex
      obtain ⟨b1, o1, rfl, l1, q1⟩ := hse.at_ (by have := HN.out; omega)
      have y4 : wr.cell? ⟨b1, o1 + k * 5 + 4, none⟩ = some (.slice As y.sh.length cs) := (HBr.cell (p := ⟨b1, _, none⟩) l1).trans (q1 k _ he 4 _ rfl)
      obtain ⟨L, hL⟩ : ∃ L, (s.ts.take k).flatMap Nt.sh = L := ⟨_, rfl⟩
      have hLn : (s.ts.take (k + 1)).flatMap Nt.sh = L ++ y.sh := by rw [List.take_add_one, hx, List.flatMap_append, hL]; simp
      have hsub : (L ++ y.sh).length ≤ 100000 := by
        rw [← hLn]
        exact Nat.le_trans (flat_sub (List.take_sublist _ _)).length_le HLL.out
      rw [List.length_append] at hsub
      rw [hL] at HR
      have hon := HR.out
      have hAs2 := (hAs.below HBr).mono_ HBr.size
      have o2 : ∀ u ∈ y.sh.map (Value.int .i64), u.oneCell' = true := fun u hu => by obtain ⟨x, _, rfl⟩ := List.mem_map.1 hu; rfl
      have HLN := Lib.hid hLn
      have hrow := World.ownsRow.lt hon
      have HROW := Lib.hid hrow
      clear hx he q1 hL hLn hlx HR hrow hAs hAt
      go_wp2_with (at_builtin; obtain ⟨ti0, hi, hz0, hz1, hz2⟩ := info_parts info_clInt; refine wpList_app _ rfl (.tmp 12) (.tmp 18) _ rfl W.heap.size 3 ti0 _ 1 8 Tryz.underlying52 hi hz0 hz1 hz2 rfl (by decide) _ L.length (L.map (Value.int .i64)) rfl hon As y.sh.length cs (y.sh.map (Value.int .i64)) rfl (Rd.of_sl hAs2 (by rw [List.length_map])) o2 (by unfold maxLen; omega) (by omega) hsz ?_; intro v' w' ho' hg' hv'; clear hi hz0 hz1 hz2 hv')
      have hk4 := hg'.cell k4 (fun h => by have h2 : W.heap.size ≤ w.heap.size ∧ w.heap.size < wr.heap.size := HROW.out _ h.symm; omega)
      have HF : Below w.heap.size w w' := HBr.grown hg' HBr.size (fun g h => by have := HROW.out g h; omega)
      have hsz2 := Nat.le_trans hsz hg'.size
      have HR2 : Hid (w'.ownsRow W.heap.size 3 1 v' ((s.ts.take (k + 1)).flatMap Nt.sh).length (((s.ts.take (k + 1)).flatMap Nt.sh).map (Value.int .i64))) := Lib.hid (by rw [HLN.out, List.length_append, List.map_append]; exact ho')
      clear ho' hg' hon y4 HROW hAs2
      go_roundw
      case rel => exact ⟨k + 1, by omega, by go_num, HR2, HF, hk4, hsz2⟩
      case measure => simp [intOf]; omega
    · have hjn : k = n := by omega
      subst hjn
      have hfull : (s.ts.take k).flatMap Nt.sh = s.ts.flatMap Nt.sh := by rw [List.take_of_length_le (by rw [HN.out]; exact Nat.le_refl _)]
      rw [hfull] at HR
      obtain ⟨A9, c9, rfl, h9, h10⟩ := own_shape HR.out
      go_wp2_with fail
      go_ret
      exact ⟨A9, c9, rfl, Sl.of_own HR.out, h9, h10, HBr⟩
theorem leq_not {p c : ByteArray} (h : lessS p c = false) : (Op.bytesLess c.toList p.toList || c.toList == p.toList) = true := by
  cases h1 : Op.bytesLess c.toList p.toList
  · have h2 : ¬ Lib.compareBytes c.data.toList p.data.toList < 0 := by
      rw [cmp_less, ByteArray.toList_eq, ByteArray.toList_eq] at h1
      exact of_decide_eq_false h1
    have h3 : ¬ Lib.compareBytes p.data.toList c.data.toList < 0 := by
      unfold lessS at h
      rw [cmp_less, ByteArray.toList_eq, ByteArray.toList_eq] at h
      exact of_decide_eq_false h
    rw [ByteArray.toList_eq, ByteArray.toList_eq, cmp_tri _ _ h2 h3]
    simp
  · rfl
def tgOk (l : List ByteArray) (k : Nat) : Bool := match l[k]? with
  | some t => mayN t && (match k with
    | 0 => true
    | j + 1 => match l[j]? with
      | some p => lessS p t
      | none => true)
  | none => true
theorem lt_not {p c : ByteArray} (h : lessS p c = true) : Op.bytesLess c.toList p.toList = false ∧ (c.toList == p.toList) = false := by
  constructor
  · cases h2 : Op.bytesLess c.toList p.toList
    · rfl
    · unfold lessS at h
      rw [cmp_less] at h h2
      exact absurd (cmpB_trans _ _ _ (of_decide_eq_true h) (of_decide_eq_true h2)) (by rw [cmpB_refl]; decide)
  · rw [beq_eq_false_iff_ne]
    intro he
    unfold lessS at h
    rw [he, less_irr] at h
    cases h
theorem rtags_any (l : List ByteArray) (A : Option Addr) (cp : Nat) (w : World) (hS : Sl w w.heap.size A (l.map strV)) (hsz : ∀ t ∈ l, t.size ≤ 100000) (hl : l.length ≤ 100000) (T : Bool) (hB : mayTg l = T) :
    Calls Tryz.prog 112 #[.slice A l.length cp] w fun e' w' => e' = .returned (.bool T) ∧ Below w.heap.size w w' := by
  obtain ⟨n, hn⟩ : ∃ n, l.length = n := ⟨_, rfl⟩
  rw [hn] at hl ⊢
  unfold mayTg at hB
  rw [hn] at hB
  have HB0 : Below w.heap.size w w := Below.refl _ _
  have HN := Lib.hid hn
  have HSZ := Lib.hid hsz
  clear hn hsz
  by_cases h4 : n ≤ 4
  · rw [decide_eq_true h4, Bool.true_and] at hB
    have HTG : Hid (tagsFrom (prevT l 0) (l.drop 0) = T) := Lib.hid (by rw [List.drop_zero]; exact hB)
    have g4 : (n : Int) ≤ 4 := by omega
    clear hB
    go_enter Tryz.func112, Tryz.ntmps112
    go_wp2_with fail
    go_loopw [3] (fun i wr => ∃ k : Nat, k ≤ n ∧ i = .int .i64 k ∧ Hid (tagsFrom (prevT l k) (l.drop k) = T) ∧ Below w.heap.size w wr) (fun i _ => n - (intOf i).toNat)
    case atStart => exact ⟨0, by omega, rfl, HTG, HB0⟩
    case round =>
      clear HB0 HTG
      obtain ⟨k, hk, rfl, HK, HBr⟩ := hrel
      by_cases hlt : k < n
      · have hlx : k < l.length := by have := HN.out; omega
        obtain ⟨b1, o1, rfl, l1, q1⟩ := hS.at_ (by rw [List.length_map]; omega)
        obtain ⟨t, ht0⟩ : ∃ t, l[k]? = some t := ⟨_, List.getElem?_eq_getElem hlx⟩
        have cx : wr.cell? ⟨b1, o1 + k, none⟩ = some (.string t) := (HBr.cell (p := ⟨b1, o1 + k, none⟩) l1).trans (q1 k (.string t) (by rw [List.getElem?_map, ht0]; rfl))
        have ht := HSZ.out t (List.mem_of_getElem? ht0)
        have i0 : (0 : Int) ≤ (k : Int) := by omega
        have i1 : (k : Int) < (n : Int) := by omega
        have HT0 := Lib.hid ht0
        have HQ1 := Lib.hid q1
        obtain ⟨N, hN⟩ : ∃ N, mayN t = N := ⟨_, rfl⟩
        have HNM : Hid (nameB t.data.toList = N) := Lib.hid hN
        clear ht0 q1 hlx
        rcases (by omega : k = 0 ∨ 0 < k) with hk0 | hk0
        · have HST : Hid (T = (N && tagsFrom (prevT l (k + 1)) (l.drop (k + 1)))) := Lib.hid (by
            have h1 := HK.out
            have h2 := HT0.out
            subst hk0
            rw [tags_first h2, hN] at h1
            exact h1.symm)
          have hdk : decide (0 < k) = false := decide_eq_false (by omega)
          have QD : wr.drew.cell? ⟨b1, o1 + k, none⟩ = some (.string t) := drew_cell cx
          clear hk0 hN
          go_upto_region 4 with fail
          cases N
          · have HTT : Hid (T = false) := Lib.hid HST.out
            refine wp_region_noPanic ?_
            refine wp_region_held_drew (S := (fun w_ => w_.cell? ⟨b1, o1 + k, none⟩ = some (.string t))) (by kernel_rfl) ?_ (fun hHeld => ?_)
            · (first | with_reducible exact QD | with_reducible assumption)
            refine tk 0 ?_; try simp only [Act.put, pz1, pz2, pz3]
            refine tk 1 ?_; try simp only [Act.put, pz1, pz2, pz3]
            refine tk 2 ?_; try simp only [Act.put, pz1, pz2, pz3]
            refine tk 3 ?_; try simp only [Act.put, pz1, pz2, pz3]
            refine wpAnyH_ready (rs := [4]) (by kernel_rfl) (by simp) ?_
            refine AllReadyH.cons (o := ⟨some 19, .call { callee := .value (.func 111), args := #[.tmp 18], argTypes := #[9] }, 4, "ref.go:31", #[⟨3, .data⟩], none⟩) rfl (fun K hK => ?_) AllReadyH.nil
            go_simp
            (go_at_call 111; ((with_reducible refine (rmay_any3 t _ _ ht HNM.out).mono ?_); rintro e' wN ⟨rfl, rfl⟩))
            go_wp2_with fail
            refine hK.out _ _ ?_ (fun hNew => ?_)
            · (first | with_reducible exact QD | with_reducible assumption)
            clear hK K hHeld
            have hHeld := hNew
            clear hNew
            try simp only [Act.put, pz1, pz2, pz3]
            refine tk 5 ?_; try simp only [Act.put, pz1, pz2, pz3]
            refine tk 6 ?_; try simp only [Act.put, pz1, pz2, pz3]
            refine tu 7 ?_
            try simp only [Act.put, pz1, pz2, pz3]
            refine tu 8 ?_
            try simp only [Act.put, pz1, pz2, pz3]
            refine tu 9 ?_
            try simp only [Act.put, pz1, pz2, pz3]
            refine tu 10 ?_
            try simp only [Act.put, pz1, pz2, pz3]
            refine tu 11 ?_
            try simp only [Act.put, pz1, pz2, pz3]
            refine tu 12 ?_
            try simp only [Act.put, pz1, pz2, pz3]
            refine tu 13 ?_
            try simp only [Act.put, pz1, pz2, pz3]
            refine tu 14 ?_
            try simp only [Act.put, pz1, pz2, pz3]
            refine tu 15 ?_
            try simp only [Act.put, pz1, pz2, pz3]
            refine tu 16 ?_
            try simp only [Act.put, pz1, pz2, pz3]
            refine tu 17 ?_
            try simp only [Act.put, pz1, pz2, pz3]
            refine tu 18 ?_
            try simp only [Act.put, pz1, pz2, pz3]
            refine tu 19 ?_
            try simp only [Act.put, pz1, pz2, pz3]
            refine tu 20 ?_
            try simp only [Act.put, pz1, pz2, pz3]
            refine tk 21 ?_; try simp only [Act.put, pz1, pz2, pz3]
            refine wpAnyH_done (by kernel_rfl) ?_ _
            refine NoPanic.normal ?_
            go_wp2_with fail
            go_ret
            exact ⟨by rw [HTT.out]; rfl, (by first | exact HBr | exact drew_below HBr)⟩
          · have HNX : Hid (tagsFrom (prevT l (k + 1)) (l.drop (k + 1)) = T) := Lib.hid (by have := HST.out; rw [Bool.true_and] at this; exact this.symm)
            refine wp_region_noPanic ?_
            refine wp_region_held_drew (S := (fun w_ => w_.cell? ⟨b1, o1 + k, none⟩ = some (.string t))) (by kernel_rfl) ?_ (fun hHeld => ?_)
            · (first | with_reducible exact QD | with_reducible assumption)
            refine tk 0 ?_; try simp only [Act.put, pz1, pz2, pz3]
            refine tk 1 ?_; try simp only [Act.put, pz1, pz2, pz3]
            refine tk 2 ?_; try simp only [Act.put, pz1, pz2, pz3]
            refine tk 3 ?_; try simp only [Act.put, pz1, pz2, pz3]
            refine wpAnyH_ready (rs := [4]) (by kernel_rfl) (by simp) ?_
            refine AllReadyH.cons (o := ⟨some 19, .call { callee := .value (.func 111), args := #[.tmp 18], argTypes := #[9] }, 4, "ref.go:31", #[⟨3, .data⟩], none⟩) rfl (fun K hK => ?_) AllReadyH.nil
            go_simp
            (go_at_call 111; ((with_reducible refine (rmay_any3 t _ _ ht HNM.out).mono ?_); rintro e' wN ⟨rfl, rfl⟩))
            go_wp2_with fail
            refine hK.out _ _ ?_ (fun hNew => ?_)
            · (first | with_reducible exact QD | with_reducible assumption)
            clear hK K hHeld
            have hHeld := hNew
            clear hNew
            try simp only [Act.put, pz1, pz2, pz3]
            refine tk 5 ?_; try simp only [Act.put, pz1, pz2, pz3]
            refine tk 6 ?_; try simp only [Act.put, pz1, pz2, pz3]
            refine tk 7 ?_; try simp only [Act.put, pz1, pz2, pz3]
            refine tk 8 ?_; try simp only [Act.put, pz1, pz2, pz3]
            refine tk 9 ?_; try simp only [Act.put, pz1, pz2, pz3]
            refine tu 10 ?_
            try simp only [Act.put, pz1, pz2, pz3]
            refine tu 11 ?_
            try simp only [Act.put, pz1, pz2, pz3]
            refine tu 12 ?_
            try simp only [Act.put, pz1, pz2, pz3]
            refine tu 13 ?_
            try simp only [Act.put, pz1, pz2, pz3]
            refine tu 14 ?_
            try simp only [Act.put, pz1, pz2, pz3]
            refine tu 15 ?_
            try simp only [Act.put, pz1, pz2, pz3]
            refine tu 16 ?_
            try simp only [Act.put, pz1, pz2, pz3]
            refine tu 17 ?_
            try simp only [Act.put, pz1, pz2, pz3]
            refine tu 18 ?_
            try simp only [Act.put, pz1, pz2, pz3]
            refine tu 19 ?_
            try simp only [Act.put, pz1, pz2, pz3]
            refine tk 20 ?_; try simp only [Act.put, pz1, pz2, pz3]
            refine tk 21 ?_; try simp only [Act.put, pz1, pz2, pz3]
            refine wpAnyH_done (by kernel_rfl) ?_ _
            refine NoPanic.normal ?_
            go_wp2_with fail
            go_roundw
            case rel => exact ⟨k + 1, by omega, by go_num, HNX, (by first | exact HBr | exact drew_below HBr)⟩
            case measure => simp [intOf]; omega
        · obtain ⟨j, hj⟩ : ∃ j, k = j + 1 := ⟨k - 1, by omega⟩
          obtain ⟨p, hp0⟩ : ∃ p, l[j]? = some p := ⟨_, List.getElem?_eq_getElem (by have := HN.out; omega)⟩
          have cy : wr.cell? ⟨b1, o1 + j, none⟩ = some (.string p) := (HBr.cell (p := ⟨b1, o1 + j, none⟩) l1).trans (HQ1.out j (.string p) (by rw [List.getElem?_map, hp0]; rfl))
          obtain ⟨LS, hLS⟩ : ∃ b, lessS p t = b := ⟨_, rfl⟩
          have HST : Hid (T = (N && (LS && tagsFrom (prevT l (k + 1)) (l.drop (k + 1))))) := Lib.hid (by
            have h1 := HK.out
            have h2 := HT0.out
            subst hj
            rw [tags_next h2 hp0, hN, hLS] at h1
            exact h1.symm)
          have j00 : (0 : Int) ≤ (j : Int) := by omega
          have j01 : (j : Int) < (n : Int) := by omega
          have jsub : (k : Int) - 1 = (j : Int) := by omega
          have jwr : IntKind.i64.wrap (j : Int) = (j : Int) := wrapS _ (by omega) (by omega)
          have QD : wr.drew.cell? ⟨b1, o1 + k, none⟩ = some (.string t) ∧ wr.drew.cell? ⟨b1, o1 + j, none⟩ = some (.string p) := ⟨drew_cell cx, drew_cell cy⟩
          clear hj hp0 hN
          go_upto_region 4 with fail
          cases N
          · have HTT : Hid (T = false) := Lib.hid HST.out
            refine wp_region_noPanic ?_
            refine wp_region_held_drew (S := (fun w_ => w_.cell? ⟨b1, o1 + k, none⟩ = some (.string t) ∧ w_.cell? ⟨b1, o1 + j, none⟩ = some (.string p))) (by kernel_rfl) ?_ (fun hHeld => ?_)
            · (first | with_reducible exact QD | with_reducible assumption)
            refine tk 0 ?_; try simp only [Act.put, pz1, pz2, pz3]
            refine tk 1 ?_; try simp only [Act.put, pz1, pz2, pz3]
            refine tk 2 ?_; try simp only [Act.put, pz1, pz2, pz3]
            refine tk 3 ?_; try simp only [Act.put, pz1, pz2, pz3]
            refine wpAnyH_ready (rs := [4]) (by kernel_rfl) (by simp) ?_
            refine AllReadyH.cons (o := ⟨some 19, .call { callee := .value (.func 111), args := #[.tmp 18], argTypes := #[9] }, 4, "ref.go:31", #[⟨3, .data⟩], none⟩) rfl (fun K hK => ?_) AllReadyH.nil
            go_simp
            (go_at_call 111; ((with_reducible refine (rmay_any3 t _ _ ht HNM.out).mono ?_); rintro e' wN ⟨rfl, rfl⟩))
            go_wp2_with fail
            refine hK.out _ _ ?_ (fun hNew => ?_)
            · (first | with_reducible exact QD | with_reducible assumption)
            clear hK K hHeld
            have hHeld := hNew
            clear hNew
            try simp only [Act.put, pz1, pz2, pz3]
            refine tk 5 ?_; try simp only [Act.put, pz1, pz2, pz3]
            refine tk 6 ?_; try simp only [Act.put, pz1, pz2, pz3]
            refine tu 7 ?_
            try simp only [Act.put, pz1, pz2, pz3]
            refine tu 8 ?_
            try simp only [Act.put, pz1, pz2, pz3]
            refine tu 9 ?_
            try simp only [Act.put, pz1, pz2, pz3]
            refine tu 10 ?_
            try simp only [Act.put, pz1, pz2, pz3]
            refine tu 11 ?_
            try simp only [Act.put, pz1, pz2, pz3]
            refine tu 12 ?_
            try simp only [Act.put, pz1, pz2, pz3]
            refine tu 13 ?_
            try simp only [Act.put, pz1, pz2, pz3]
            refine tu 14 ?_
            try simp only [Act.put, pz1, pz2, pz3]
            refine tu 15 ?_
            try simp only [Act.put, pz1, pz2, pz3]
            refine tu 16 ?_
            try simp only [Act.put, pz1, pz2, pz3]
            refine tu 17 ?_
            try simp only [Act.put, pz1, pz2, pz3]
            refine tu 18 ?_
            try simp only [Act.put, pz1, pz2, pz3]
            refine tu 19 ?_
            try simp only [Act.put, pz1, pz2, pz3]
            refine tu 20 ?_
            try simp only [Act.put, pz1, pz2, pz3]
            refine tk 21 ?_; try simp only [Act.put, pz1, pz2, pz3]
            refine wpAnyH_done (by kernel_rfl) ?_ _
            refine NoPanic.normal ?_
            go_wp2_with fail
            go_ret
            exact ⟨by rw [HTT.out]; rfl, (by first | exact HBr | exact drew_below HBr)⟩
          · cases LS
            · have HTT : Hid (T = false) := Lib.hid HST.out
              have hle := leq_not hLS
              clear hLS
              refine wp_region_noPanic ?_
              refine wp_region_held_drew (S := (fun w_ => w_.cell? ⟨b1, o1 + k, none⟩ = some (.string t) ∧ w_.cell? ⟨b1, o1 + j, none⟩ = some (.string p))) (by kernel_rfl) ?_ (fun hHeld => ?_)
              · (first | with_reducible exact QD | with_reducible assumption)
              refine tk 0 ?_; try simp only [Act.put, pz1, pz2, pz3]
              refine tk 1 ?_; try simp only [Act.put, pz1, pz2, pz3]
              refine tk 2 ?_; try simp only [Act.put, pz1, pz2, pz3]
              refine tk 3 ?_; try simp only [Act.put, pz1, pz2, pz3]
              refine wpAnyH_ready (rs := [4]) (by kernel_rfl) (by simp) ?_
              refine AllReadyH.cons (o := ⟨some 19, .call { callee := .value (.func 111), args := #[.tmp 18], argTypes := #[9] }, 4, "ref.go:31", #[⟨3, .data⟩], none⟩) rfl (fun K hK => ?_) AllReadyH.nil
              go_simp
              (go_at_call 111; ((with_reducible refine (rmay_any3 t _ _ ht HNM.out).mono ?_); rintro e' wN ⟨rfl, rfl⟩))
              go_wp2_with fail
              refine hK.out _ _ ?_ (fun hNew => ?_)
              · (first | with_reducible exact QD | with_reducible assumption)
              clear hK K hHeld
              have hHeld := hNew
              clear hNew
              try simp only [Act.put, pz1, pz2, pz3]
              refine tk 5 ?_; try simp only [Act.put, pz1, pz2, pz3]
              refine tk 6 ?_; try simp only [Act.put, pz1, pz2, pz3]
              refine tk 7 ?_; try simp only [Act.put, pz1, pz2, pz3]
              refine tk 8 ?_; try simp only [Act.put, pz1, pz2, pz3]
              refine tk 9 ?_; try simp only [Act.put, pz1, pz2, pz3]
              refine tk 10 ?_; try simp only [Act.put, pz1, pz2, pz3]
              refine tk 11 ?_; try simp only [Act.put, pz1, pz2, pz3]
              refine tk 12 ?_; try simp only [Act.put, pz1, pz2, pz3]
              refine tk 13 ?_; try simp only [Act.put, pz1, pz2, pz3]
              refine tk 14 ?_; try simp only [Act.put, pz1, pz2, pz3]
              refine tk 15 ?_; try simp only [Act.put, pz1, pz2, pz3]
              refine tk 16 ?_; try simp only [Act.put, pz1, pz2, pz3]
              refine tk 17 ?_; try simp only [Act.put, pz1, pz2, pz3]
              refine tk 18 ?_; try simp only [Act.put, pz1, pz2, pz3]
              refine tk 19 ?_; try simp only [Act.put, pz1, pz2, pz3]
              refine tk 20 ?_; try simp only [Act.put, pz1, pz2, pz3]
              refine tk 21 ?_; try simp only [Act.put, pz1, pz2, pz3]
              refine wpAnyH_done (by kernel_rfl) ?_ _
              refine NoPanic.normal ?_
              go_wp2_with fail
              go_ret
              exact ⟨by rw [HTT.out]; rfl, (by first | exact HBr | exact drew_below HBr)⟩
            · have hle := lt_not hLS
              have hA := hle.1
              have hE := hle.2
              clear hLS hle
              have HNX : Hid (tagsFrom (prevT l (k + 1)) (l.drop (k + 1)) = T) := Lib.hid (by have := HST.out; rw [Bool.true_and, Bool.true_and] at this; exact this.symm)
              refine wp_region_noPanic ?_
              refine wp_region_held_drew (S := (fun w_ => w_.cell? ⟨b1, o1 + k, none⟩ = some (.string t) ∧ w_.cell? ⟨b1, o1 + j, none⟩ = some (.string p))) (by kernel_rfl) ?_ (fun hHeld => ?_)
              · (first | with_reducible exact QD | with_reducible assumption)
              refine tk 0 ?_; try simp only [Act.put, pz1, pz2, pz3]
              refine tk 1 ?_; try simp only [Act.put, pz1, pz2, pz3]
              refine tk 2 ?_; try simp only [Act.put, pz1, pz2, pz3]
              refine tk 3 ?_; try simp only [Act.put, pz1, pz2, pz3]
              refine wpAnyH_ready (rs := [4]) (by kernel_rfl) (by simp) ?_
              refine AllReadyH.cons (o := ⟨some 19, .call { callee := .value (.func 111), args := #[.tmp 18], argTypes := #[9] }, 4, "ref.go:31", #[⟨3, .data⟩], none⟩) rfl (fun K hK => ?_) AllReadyH.nil
              go_simp
              (go_at_call 111; ((with_reducible refine (rmay_any3 t _ _ ht HNM.out).mono ?_); rintro e' wN ⟨rfl, rfl⟩))
              go_wp2_with fail
              refine hK.out _ _ ?_ (fun hNew => ?_)
              · (first | with_reducible exact QD | with_reducible assumption)
              clear hK K hHeld
              have hHeld := hNew
              clear hNew
              try simp only [Act.put, pz1, pz2, pz3]
              refine tk 5 ?_; try simp only [Act.put, pz1, pz2, pz3]
              refine tk 6 ?_; try simp only [Act.put, pz1, pz2, pz3]
              refine tk 7 ?_; try simp only [Act.put, pz1, pz2, pz3]
              refine tk 8 ?_; try simp only [Act.put, pz1, pz2, pz3]
              refine tk 9 ?_; try simp only [Act.put, pz1, pz2, pz3]
              refine tk 10 ?_; try simp only [Act.put, pz1, pz2, pz3]
              refine tk 11 ?_; try simp only [Act.put, pz1, pz2, pz3]
              refine tk 12 ?_; try simp only [Act.put, pz1, pz2, pz3]
              refine tk 13 ?_; try simp only [Act.put, pz1, pz2, pz3]
              refine tk 14 ?_; try simp only [Act.put, pz1, pz2, pz3]
              refine tk 15 ?_; try simp only [Act.put, pz1, pz2, pz3]
              refine tk 16 ?_; try simp only [Act.put, pz1, pz2, pz3]
              refine tk 17 ?_; try simp only [Act.put, pz1, pz2, pz3]
              refine tk 18 ?_; try simp only [Act.put, pz1, pz2, pz3]
              refine tk 19 ?_; try simp only [Act.put, pz1, pz2, pz3]
              refine tk 20 ?_; try simp only [Act.put, pz1, pz2, pz3]
              refine tk 21 ?_; try simp only [Act.put, pz1, pz2, pz3]
              refine wpAnyH_done (by kernel_rfl) ?_ _
              refine NoPanic.normal ?_
              go_wp2_with fail
              go_roundw
              case rel => exact ⟨k + 1, by omega, by go_num, HNX, (by first | exact HBr | exact drew_below HBr)⟩
              case measure => simp [intOf]; omega
      · have hjn : k = n := by omega
        subst hjn
        have HTT : Hid (T = true) := Lib.hid (by have := HK.out; rw [← HN.out, tags_end] at this; exact this.symm)
        go_wp2_with fail
        go_ret
        exact ⟨by rw [HTT.out]; rfl, HBr⟩
  · have g4 : ¬ (n : Int) ≤ 4 := by omega
    have HTT : Hid (T = false) := Lib.hid (by rw [← hB, decide_eq_false h4]; rfl)
    clear hB h4
    go_enter Tryz.func112, Tryz.ntmps112
    go_wp2_with fail
    go_loop [3] (fun i => i = .int .i64 0) (fun i => 0)
    case atStart => rfl
    case round =>
      obtain rfl := hrel
      rcases Nat.eq_zero_or_pos n with h0 | h0
      · omega
      · have g0 : (0 : Int) < (n : Int) := by omega
        go_wp2_with fail
        go_ret
        exact ⟨by rw [HTT.out]; show Ending.returned (.bool (decide ((n : Int) ≤ 4))) = _; rw [decide_eq_false (by omega)], HB0⟩
end Go.Proofs.YteokeghenjobaaaGreatDoor
