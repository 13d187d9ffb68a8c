/- Wider strokes; a point's picture; Draw as RasterWider calls it. -/
import Derived.Test.YtnbiioighjdkjaaRaQ
namespace Go.Proofs.Ytnbiioighjdkjaa
open Go.ChangeShapes Go.WideShapes Go.ChangeAt Go.RowKit
set_option linter.unusedSimpArgs false
set_option linter.unusedVariables false

theorem or_bits (a b k n : Nat) : (a ||| b) / 2 ^ k % 2 ^ n = (a / 2 ^ k % 2 ^ n) ||| (b / 2 ^ k % 2 ^ n) := by
  rw [Nat.or_div_two_pow, Nat.or_mod_two_pow]
theorem pop4_mono : ∀ a, a < 16 → ∀ b, b < 16 → a ||| b = b → pop4 a ≤ pop4 b := by decide +kernel
theorem pop8_mono (a b : Nat) (h : a ||| b = b) : pop8 a ≤ pop8 b := by
  have h0 := or_bits a b 0 4
  have h1 := or_bits a b 4 4
  rw [h] at h0 h1
  rw [show (2 : Nat) ^ 0 = 1 by decide, show (2 : Nat) ^ 4 = 16 by decide, Nat.div_one, Nat.div_one] at h0
  rw [show (2 : Nat) ^ 4 = 16 by decide] at h1
  unfold pop8
  exact Nat.add_le_add (pop4_mono _ (by omega) _ (by omega) h0.symm) (pop4_mono _ (by omega) _ (by omega) h1.symm)
theorem byte_mono (a b k : Nat) (h : a ||| b = b) : pop8 (a / 2 ^ k % 2 ^ 8) ≤ pop8 (b / 2 ^ k % 2 ^ 8) := by
  have h1 := or_bits a b k 8
  rw [h] at h1
  exact pop8_mono _ _ h1.symm
theorem pop_mono (a b : Nat) (h : a ||| b = b) : popN a ≤ popN b := by
  have p0 := byte_mono a b 0 h
  have p1 := byte_mono a b 8 h
  have p2 := byte_mono a b 16 h
  have p3 := byte_mono a b 24 h
  have p4 := byte_mono a b 32 h
  have p5 := byte_mono a b 40 h
  have p6 := byte_mono a b 48 h
  have p7 := byte_mono a b 56 h
  rw [Nat.pow_zero, Nat.div_one, Nat.div_one] at p0
  unfold popN bytesN
  simp only [List.map_cons, List.map_nil, List.sum_cons, List.sum_nil]
  exact Nat.add_le_add p0 (Nat.add_le_add p1 (Nat.add_le_add p2 (Nat.add_le_add p3 (Nat.add_le_add p4 (Nat.add_le_add p5 (Nat.add_le_add p6 (Nat.add_le_add p7 (Nat.le_refl _))))))))
theorem mask_test {l r : Nat} (h : l ≤ r) (i : Nat) : (maskN l r).testBit i = (decide (l ≤ i) && decide (i ≤ r)) := by
  unfold maskN
  rw [← Nat.shiftLeft_eq, Nat.testBit_shiftLeft, Nat.testBit_two_pow_sub_one]
  by_cases h1 : l ≤ i
  · rw [decide_eq_true (show i ≥ l from h1), Bool.true_and, Bool.true_and]
    exact decide_eq_decide.2 (by omega)
  · rw [decide_eq_false (show ¬ i ≥ l from h1), Bool.false_and, Bool.false_and]
theorem mask_sub {l r l' r' : Nat} (h : l ≤ r) (h1 : l' ≤ l) (h2 : r ≤ r') : maskN l r ||| maskN l' r' = maskN l' r' := by
  apply Nat.eq_of_testBit_eq
  intro i
  rw [Nat.testBit_or, mask_test h, mask_test (by omega : l' ≤ r')]
  by_cases q : l ≤ i ∧ i ≤ r
  · rw [decide_eq_true q.1, decide_eq_true q.2, decide_eq_true (by omega : l' ≤ i), decide_eq_true (by omega : i ≤ r')]
    rfl
  · have : (decide (l ≤ i) && decide (i ≤ r)) = false := by
      by_cases q1 : l ≤ i
      · rw [decide_eq_false (fun q2 => q ⟨q1, q2⟩), Bool.and_false]
      · rw [decide_eq_false q1, Bool.false_and]
    rw [this, Bool.false_or]
theorem or_four {f m g k : Nat} (h1 : f ||| g = g) (h2 : m ||| k = k) : (f ||| m) ||| (g ||| k) = g ||| k := by
  rw [Nat.or_assoc, ← Nat.or_assoc m g k, Nat.or_comm m g, Nat.or_assoc g m k, h2, ← Nat.or_assoc, h1]
theorem stamp_wide (WW wid : Int) (hw : 1 ≤ wid) (f g : Nat → Nat) (d : Int × Int) (h : ∀ y, f y ||| g y = g y) : ∀ y, stampF WW wid f d y ||| stampF WW (wid + 1) g d y = stampF WW (wid + 1) g d y := by
  intro y
  unfold stampF loX hiX
  obtain ⟨B, hB⟩ : ∃ B, (wid - 1) / 2 = B := ⟨_, rfl⟩
  obtain ⟨E, hE⟩ : ∃ E, wid / 2 = E := ⟨_, rfl⟩
  obtain ⟨B2, hB2⟩ : ∃ B, (wid + 1 - 1) / 2 = B := ⟨_, rfl⟩
  obtain ⟨E2, hE2⟩ : ∃ E, (wid + 1) / 2 = E := ⟨_, rfl⟩
  rw [hB, hE, hB2, hE2]
  have k1 : B ≤ B2 := by omega
  have k2 : E ≤ E2 := by omega
  by_cases c1 : max 0 (d.1 - B) ≤ min (WW - 1) (d.1 + E) ∧ d.2 - B ≤ (y : Int) ∧ (y : Int) ≤ d.2 + E
  · have c2 : max 0 (d.1 - B2) ≤ min (WW - 1) (d.1 + E2) ∧ d.2 - B2 ≤ (y : Int) ∧ (y : Int) ≤ d.2 + E2 := ⟨by have := c1.1; omega, by omega, by omega⟩
    rw [if_pos c1, if_pos c2]
    exact or_four (h y) (mask_sub (by have := c1.1; omega) (by have := c1.1; omega) (by have := c1.1; omega))
  · rw [if_neg c1]
    by_cases c2 : max 0 (d.1 - B2) ≤ min (WW - 1) (d.1 + E2) ∧ d.2 - B2 ≤ (y : Int) ∧ (y : Int) ≤ d.2 + E2
    · rw [if_pos c2, ← Nat.or_assoc, h y]
    · rw [if_neg c2, h y]
theorem stamps_wide (WW wid : Int) (hw : 1 ≤ wid) : ∀ (ds : List (Int × Int)) (f g : Nat → Nat), (∀ y, f y ||| g y = g y) → ∀ y, ds.foldl (stampF WW wid) f y ||| ds.foldl (stampF WW (wid + 1)) g y = ds.foldl (stampF WW (wid + 1)) g y
  | [], f, g, h, y => h y
  | d :: ds, f, g, h, y => stamps_wide WW wid hw ds _ _ (stamp_wide WW wid hw f g d h) y
theorem pic_wide (WW wid : Int) (hw : 1 ≤ wid) (ds : List (Int × Int)) (y : Nat) : picF WW wid ds y ||| picF WW (wid + 1) ds y = picF WW (wid + 1) ds y := stamps_wide WW wid hw ds (fun _ => 0) (fun _ => 0) (fun _ => by rfl) y
theorem sumN_congr (f g : Nat → Nat) (n : Nat) (h : ∀ y, y < n → f y = g y) : sumN f n = sumN g n :=
  Nat.le_antisymm (sumN_le f g n (fun y hy => Nat.le_of_eq (h y hy))) (sumN_le g f n (fun y hy => Nat.le_of_eq (h y hy).symm))
theorem pop_mask : ∀ n, n < 9 → ∀ l, l < 56 → popN ((2 ^ n - 1) * 2 ^ l) = n := by decide +kernel
theorem sq_rows : ∀ n : Nat, n < 9 → sumN (fun y => if (30 : Int) - ((n : Int) - 1) / 2 ≤ (y : Int) ∧ (y : Int) ≤ 30 + (n : Int) / 2 then n else 0) 64 = n * n := by decide +kernel
theorem point_pic (n : Nat) (x : Int) (hn : 1 ≤ n ∧ n ≤ 8) (hx : 10 ≤ x ∧ x < 50) : sumN (fun y => popN (picF 64 (n : Int) (lineD [(x, 30)] 0) y)) 64 = n * n := by
  rw [← sq_rows n (by omega)]
  apply sumN_congr
  intro y _
  show popN (stampF 64 (n : Int) (fun _ => 0) (x, 30) y) = _
  unfold stampF loX hiX
  dsimp only
  by_cases c : (30 : Int) - ((n : Int) - 1) / 2 ≤ (y : Int) ∧ (y : Int) ≤ 30 + (n : Int) / 2
  · rw [if_pos c, if_pos ⟨by omega, c⟩, Nat.zero_or]
    unfold maskN
    have e : (min (64 - 1) (x + (n : Int) / 2)).toNat + 1 - (max 0 (x - ((n : Int) - 1) / 2)).toNat = n := by omega
    rw [e]
    exact pop_mask n (by omega) _ (by omega)
  · rw [if_neg c, if_neg (fun q => c q.2)]
    decide
def ptW (zs : List Int) (j : Nat) : List (Int × Int) := (List.range j).map fun k => (lowI (zs.getD (2 * k) 0) 100, lowI (zs.getD (2 * k + 1) 0) 100)
theorem ptW_len (zs : List Int) (j : Nat) : (ptW zs j).length = j := by simp [ptW]
theorem ptW_succ (zs : List Int) (j : Nat) : ptW zs (j + 1) = ptW zs j ++ [(lowI (zs.getD (2 * j) 0) 100, lowI (zs.getD (2 * j + 1) 0) 100)] := by
  unfold ptW
  rw [List.range_succ, List.map_append]
  rfl
theorem ptW_bd (zs : List Int) (j : Nat) : ∀ p ∈ ptW zs j, (0 ≤ p.1 ∧ p.1 < 100) ∧ 0 ≤ p.2 ∧ p.2 < 100 := by
  intro p hp
  obtain ⟨k, _, rfl⟩ := List.mem_map.1 hp
  exact ⟨lowI_bd _ 100 (by omega), lowI_bd _ 100 (by omega)⟩
theorem ptW_getD (zs : List Int) (j k : Nat) : (0 ≤ ((ptW zs j).getD k (0, 0)).1 ∧ ((ptW zs j).getD k (0, 0)).1 < 100) ∧ 0 ≤ ((ptW zs j).getD k (0, 0)).2 ∧ ((ptW zs j).getD k (0, 0)).2 < 100 := by
  by_cases h : k < (ptW zs j).length
  · have := ptW_bd zs j ((ptW zs j)[k]) (List.getElem_mem h)
    rwa [List.getD_eq_getElem?_getD, List.getElem?_eq_getElem h]
  · rw [List.getD_eq_getElem?_getD, List.getElem?_eq_none (by omega)]
    decide
theorem ptW_far (zs : List Int) (j k : Nat) (h : k + 1 < j) : wayN (((ptW zs j).map (subP (20, 0))).getD k (0, 0)) (((ptW zs j).map (subP (20, 0))).getD (k + 1) (0, 0)) ≤ 1000 := by
  have hl := ptW_len zs j
  rw [getD_sub _ _ _ (by omega), getD_sub _ _ _ (by omega)]
  have a := ptW_getD zs j k
  have b := ptW_getD zs j (k + 1)
  unfold wayN subP
  dsimp only
  omega
theorem ptW_ok (zs : List Int) (j : Nat) : PtsOk (ptW zs j) := fun p hp => ⟨mayZ_of (by have := ptW_bd zs j p hp; omega), mayZ_of (by have := ptW_bd zs j p hp; omega)⟩
theorem ptW_ok2 (zs : List Int) (j : Nat) : PtsOk ((ptW zs j).map (subP (20, 0))) := by
  intro p hp
  obtain ⟨q, hq, rfl⟩ := List.mem_map.1 hp
  have := ptW_bd zs j q hq
  unfold subP
  exact ⟨mayZ_of (by dsimp only; omega), mayZ_of (by dsimp only; omega)⟩
theorem k_20 : F 20 = 4626322717216342016 := by decide +kernel
theorem k_30 : F 30 = 4629137466983448576 := by decide +kernel
theorem draw_h (wid ax ay : Int) (bx by_ : Nat) (WW HI : Int) (H : Nat) (gp N c : Nat) (ps ds : List (Int × Int)) (f : Nat → Nat) (w0 : World) (hbx : Hid (F ax = bx)) (hby : Hid (F ay = by_)) (hHI : Hid ((H : Int) = HI)) (hH : 1 ≤ H ∧ H ≤ 64) (hw : 1 ≤ wid ∧ wid ≤ 9) (hN : Hid (ps.length = N)) (hN2 : 1 ≤ N ∧ N ≤ 10) (hP : RowT w0 gp 22 (ps.map cV)) (hok : Hid (PtsOk ps)) (ha : Hid (mayZ ax = true ∧ mayZ ay = true)) (hds : Hid (ps.map (subP (ax, ay)) = ds)) (hok2 : Hid (PtsOk ds)) (hW : 1 ≤ WW ∧ WW ≤ 64)
    (hfar : Hid (∀ j, j + 1 < N → wayN (ds.getD j (0, 0)) (ds.getD (j + 1) (0, 0)) ≤ 1000)) (hf : Hid (picF WW wid (lineD ds (N - 1)) = f)) :
    Calls Try.prog 11 #[.slice (some ⟨w0.heap.size, 0, none⟩) 1 1, .complex .f64 bx by_, .int .i64 1, .int .i64 WW, .int .i64 HI] (w0.alloc (.cells #[.int .i64 0, .int .i64 wid, .slice (some ⟨gp, 0, none⟩) N c] 39)) fun e' w' => (∃ gr, e' = .returned (.tuple #[.slice (some ⟨gr, 0, none⟩) H H, .int .i64 0]) ∧ RowT w' gr 43 (rowsV f H) ∧ w0.heap.size ≤ gr) ∧ Below w0.heap.size w0 w' := by
  have hb : Below w0.heap.size w0 (w0.alloc (.cells #[.int .i64 0, .int .i64 wid, .slice (some ⟨gp, 0, none⟩) N c] 39)) := (Below.refl _ _).alloc (Nat.le_refl _) _
  have h := draw_1 0 wid ax ay (some ⟨gp, 0, none⟩) N c w0.heap.size ps WW H (w0.alloc (.cells #[.int .i64 0, .int .i64 wid, .slice (some ⟨gp, 0, none⟩) N c] 39)) (Blk.new_ _ _ _) (by decide) hw hN.out hN2 ((sl_row hP).alloc_ _) hok.out ha.out.1 ha.out.2 (by rw [hds.out]; exact hok2.out) hW hH (by rw [hds.out]; exact hfar.out)
  rw [hds.out, hf.out, hbx.out, hby.out, hHI.out] at h
  refine Calls.mono h fun e' w' ⟨⟨gr, h1, h2, h3⟩, h4⟩ => ⟨⟨gr, h1, h2, ?_⟩, btr hb hb.size h4⟩
  exact Nat.le_trans hb.size h3
theorem draw_p (n : Nat) (x : Int) (f : Nat → Nat) (w0 : World) (hn : 1 ≤ n ∧ n ≤ 8) (hx : 10 ≤ x ∧ x < 50) (hf : Hid (picF 64 (n : Int) (lineD [(x, 30)] 0) = f)) :
    Calls Try.prog 11 #[.slice (some ⟨w0.heap.size + 1, 0, none⟩) 1 1, .complex .f64 0 0, .int .i64 1, .int .i64 64, .int .i64 64] ((w0.alloc (.cells #[.complex .f64 (F x) 4629137466983448576] 22)).alloc (.cells #[.int .i64 0, .int .i64 (n : Int), .slice (some ⟨w0.heap.size, 0, none⟩) 1 1] 39)) fun e' w' => (∃ gr, e' = .returned (.tuple #[.slice (some ⟨gr, 0, none⟩) 64 64, .int .i64 0]) ∧ RowT w' gr 43 (rowsV f 64)) ∧ Below w0.heap.size w0 w' := by
  have hb : Below w0.heap.size w0 (w0.alloc (.cells #[.complex .f64 (F x) 4629137466983448576] 22)) := (Below.refl _ _).alloc (Nat.le_refl _) _
  have hP : RowT (w0.alloc (.cells #[.complex .f64 (F x) 4629137466983448576] 22)) w0.heap.size 22 ([(x, 30)].map cV) := by
    have := RowT.of_blk (xs := [.complex .f64 (F x) 4629137466983448576]) (Blk.new_ w0 22 #[.complex .f64 (F x) 4629137466983448576])
    rw [← k_30] at this
    rw [← k_30]
    exact this
  have hm : ([(x, (30 : Int))].map (subP (0, 0))) = [(x, 30)] := sub_0 _
  have hok : PtsOk [(x, (30 : Int))] := by
    intro p hp
    simp only [List.mem_cons, List.not_mem_nil, or_false] at hp
    subst hp
    exact ⟨mayZ_of (by dsimp only; omega), mayZ_of (by dsimp only; omega)⟩
  have h := draw_h (n : Int) 0 0 0 0 64 64 64 w0.heap.size 1 1 [(x, 30)] [(x, 30)] f _ (Lib.hid rfl) (Lib.hid rfl) (Lib.hid rfl) (by decide) (by omega) (Lib.hid rfl) (by decide) hP (Lib.hid hok) (Lib.hid ⟨by decide, by decide⟩) (Lib.hid hm) (Lib.hid hok) (by decide) (Lib.hid (fun j hj => by omega)) hf
  have hz : (w0.alloc (.cells #[.complex .f64 (F x) 4629137466983448576] 22)).heap.size = w0.heap.size + 1 := by simp
  rw [hz] at h
  refine Calls.mono h fun e' w' ⟨⟨gr, h1, h2, _⟩, h4⟩ => ⟨⟨gr, h1, h2⟩, ?_⟩
  exact hb.trans (h4.mono (by omega))
end Go.Proofs.Ytnbiioighjdkjaa
