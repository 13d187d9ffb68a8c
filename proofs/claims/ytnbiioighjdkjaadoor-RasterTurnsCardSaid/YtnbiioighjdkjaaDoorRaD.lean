/- stamp. -/
import Derived.Test.YtnbiioighjdkjaaDoorRaC
namespace Go.Proofs.YtnbiioighjdkjaaDoor
open Go.ChangeShapes Go.WideShapes Go.ChangeAt Go.RowKit
set_option linter.unusedSimpArgs false
set_option linter.unusedVariables false

theorem wrapS (x : Int) (h0 : -1000000000000 ≤ x) (h1 : x ≤ 1000000000000) : IntKind.i64.wrap x = x := by
  rw [IntKind.wrap_i64]
  omega
def rowsV (f : Nat → Nat) (H : Nat) : List Value := (List.range H).map fun y => .int .u64 ((f y : Nat) : Int)
theorem rowsV_len (f : Nat → Nat) (H : Nat) : (rowsV f H).length = H := by simp [rowsV]
theorem rowsV_at (f : Nat → Nat) (H k : Nat) (h : k < H) : (rowsV f H)[k]? = some (.int .u64 ((f k : Nat) : Int)) := by
  unfold rowsV
  rw [List.getElem?_map, List.getElem?_range h]
  rfl
theorem rowsV_set (f : Nat → Nat) (H k v : Nat) (h : k < H) : (rowsV f H).set k (.int .u64 ((v : Nat) : Int)) = rowsV (fun y => if y = k then v else f y) H := by
  apply List.ext_getElem?
  intro i
  rw [List.getElem?_set]
  by_cases hi : i < H
  · rw [rowsV_at (fun y => if y = k then v else f y) H i hi, rowsV_at f H i hi, rowsV_len]
    by_cases hk : k = i
    · subst hk
      rw [if_pos rfl, if_pos h, if_pos rfl]
    · rw [if_neg hk, if_neg (by omega)]
  · rw [if_neg (by omega), List.getElem?_eq_none (by rw [rowsV_len]; omega), List.getElem?_eq_none (by rw [rowsV_len]; omega)]
theorem rowsV_eq {f f' : Nat → Nat} {H : Nat} (h : ∀ y, y < H → f y = f' y) : rowsV f H = rowsV f' H := by
  unfold rowsV
  apply List.map_congr_left
  intro y hy
  rw [h y (List.mem_range.1 hy)]
def loX (dx width : Int) : Int := max 0 (dx - (width - 1) / 2)
def hiX (WW dx width : Int) : Int := min (WW - 1) (dx + width / 2)
/-- The bits from l to r. -/
def maskN (l r : Nat) : Nat := (2 ^ (r + 1 - l) - 1) * 2 ^ l
theorem mask_lt {l r : Nat} (h : l ≤ r) (hr : r < 64) : maskN l r < 18446744073709551616 := by
  unfold maskN
  have e : 2 ^ (r + 1 - l) * 2 ^ l = 2 ^ (r + 1) := by rw [← Nat.pow_add]; congr 1; omega
  have h1 : (2 ^ (r + 1 - l) - 1) * 2 ^ l < 2 ^ (r + 1 - l) * 2 ^ l := Nat.mul_lt_mul_of_pos_right (by have := Nat.two_pow_pos (r + 1 - l); omega) (Nat.two_pow_pos l)
  have h2 : 2 ^ (r + 1) ≤ 2 ^ 64 := Nat.pow_le_pow_right (by decide) (by omega)
  omega
theorem wrap_u64 (x : Nat) (h : x < 18446744073709551616) : IntKind.u64.wrap (x : Int) = (x : Int) := by
  unfold IntKind.wrap
  simp [IntKind.bits, IntKind.signed]
  omega
theorem mask_word {l r : Nat} (h : l ≤ r) (hr : r < 64) : IntKind.u64.wrap (IntKind.u64.wrap (IntKind.u64.wrap (1 * 2 ^ (r + 1 - l)) - 1) * 2 ^ l) = (maskN l r : Int) := by
  have hp := Nat.two_pow_pos (r + 1 - l)
  have h2 : 2 ^ (r + 1 - l) ≤ 2 ^ 64 := Nat.pow_le_pow_right (by decide) (by omega)
  have e1 : IntKind.u64.wrap (IntKind.u64.wrap (1 * 2 ^ (r + 1 - l)) - 1) = ((2 ^ (r + 1 - l) - 1 : Nat) : Int) := by
    have e0 : (1 * 2 ^ (r + 1 - l) : Int) = ((2 ^ (r + 1 - l) : Nat) : Int) := by push_cast; omega
    rw [e0]
    generalize 2 ^ (r + 1 - l) = P at *
    unfold IntKind.wrap
    simp [IntKind.bits, IntKind.signed]
    omega
  rw [e1]
  have e2 : (((2 ^ (r + 1 - l) - 1 : Nat) : Int) * 2 ^ l) = ((maskN l r : Nat) : Int) := by
    unfold maskN
    push_cast
    rfl
  rw [e2]
  exact wrap_u64 _ (mask_lt h hr)
def stampF (WW width : Int) (f : Nat → Nat) (d : Int × Int) : Nat → Nat := fun y =>
  if loX d.1 width ≤ hiX WW d.1 width ∧ d.2 - (width - 1) / 2 ≤ (y : Int) ∧ (y : Int) ≤ d.2 + width / 2 then f y ||| maskN (loX d.1 width).toNat (hiX WW d.1 width).toNat else f y
set_option maxRecDepth 100000 in
set_option maxHeartbeats 4000000 in
theorem stamp_any (g H cR : Nat) (WW : Int) (f : Nat → Nat) (dx dy width : Int) (w : World) (hR : RowT w g 29 (rowsV f H)) (hcR : H ≤ cR) (hW : 1 ≤ WW ∧ WW ≤ 64) (hH : 1 ≤ H ∧ H ≤ 64) (hd1 : -100000 ≤ dx ∧ dx ≤ 100000) (hd2 : -100000 ≤ dy ∧ dy ≤ 100000) (hwd : 1 ≤ width ∧ width ≤ 9) (hf : ∀ y, f y < 18446744073709551616) :
    Calls Tryd.prog 36 #[.agg #[.slice (some ⟨g, 0, none⟩) H cR, .int .i64 WW, .int .i64 (H : Int)], .complex .f64 (F dx) (F dy), .int .i64 width] w fun e' w' => (∃ v, e' = .returned v) ∧ RowT w' g 29 (rowsV (stampF WW width f (dx, dy)) H) ∧ Tch (fun k => k = g) w w' := by
  have G1 : Blk (w.alloc (.cells #[.slice (some ⟨g, 0, none⟩) H cR, .int .i64 WW, .int .i64 (H : Int)] 58)) w.heap.size 58 #[.slice (some ⟨g, 0, none⟩) H cR, .int .i64 WW, .int .i64 (H : Int)] := Blk.new_ _ _ _
  have z0 : (w.alloc (.cells #[.slice (some ⟨g, 0, none⟩) H cR, .int .i64 WW, .int .i64 (H : Int)] 58)).cell? ⟨w.heap.size, 0, none⟩ = some (.slice (some ⟨g, 0, none⟩) H cR) := G1.cell_ 0
  have z1 : (w.alloc (.cells #[.slice (some ⟨g, 0, none⟩) H cR, .int .i64 WW, .int .i64 (H : Int)] 58)).cell? ⟨w.heap.size, 1, none⟩ = some (.int .i64 WW) := G1.cell_ 1
  have z2 : (w.alloc (.cells #[.slice (some ⟨g, 0, none⟩) H cR, .int .i64 WW, .int .i64 (H : Int)] 58)).cell? ⟨w.heap.size, 2, none⟩ = some (.int .i64 (H : Int)) := G1.cell_ 2
  have hconv1 := run_convert_float_int (P := Tryd.prog) (w.alloc (.cells #[.slice (some ⟨g, 0, none⟩) H cR, .int .i64 WW, .int .i64 (H : Int)] 58)) 49 3 .f64 .i64 (F dx) dx (by rfl) (by rfl) (toInt_F dx (by unfold Sm; omega))
  have hconv2 := run_convert_float_int (P := Tryd.prog) (w.alloc (.cells #[.slice (some ⟨g, 0, none⟩) H cR, .int .i64 WW, .int .i64 (H : Int)] 58)) 49 3 .f64 .i64 (F dy) dy (by rfl) (by rfl) (toInt_F dy (by unfold Sm; omega))
  obtain ⟨B, hB⟩ : ∃ B, (width - 1) / 2 = B := ⟨_, rfl⟩
  obtain ⟨E, hE⟩ : ∃ E, width / 2 = E := ⟨_, rfl⟩
  have hB2 : (width - 1).tdiv 2 = B := by rw [← hB]; exact Int.tdiv_eq_ediv_of_nonneg (by omega)
  have hE2 : width.tdiv 2 = E := by rw [← hE]; exact Int.tdiv_eq_ediv_of_nonneg (by omega)
  obtain ⟨D1, hD1⟩ : ∃ D, dx - B = D := ⟨_, rfl⟩
  obtain ⟨D2, hD2⟩ : ∃ D, dx + E = D := ⟨_, rfl⟩
  obtain ⟨W1, hW1⟩ : ∃ D, WW - 1 = D := ⟨_, rfl⟩
  have b1 : 0 ≤ B ∧ B ≤ 4 ∧ 0 ≤ E ∧ E ≤ 4 := by omega
  have e1 : IntKind.i64.wrap D1 = D1 := wrapS _ (by omega) (by omega)
  have e2 : IntKind.i64.wrap D2 = D2 := wrapS _ (by omega) (by omega)
  have e3 : IntKind.i64.wrap W1 = W1 := wrapS _ (by omega) (by omega)
  obtain ⟨L, hL⟩ : ∃ L, loX dx width = L := ⟨_, rfl⟩
  obtain ⟨Q, hQ⟩ : ∃ Q, hiX WW dx width = Q := ⟨_, rfl⟩
  have hL2 : max 0 D1 = L := by rw [← hL, ← hD1, ← hB]; rfl
  have hQ2 : min W1 D2 = Q := by rw [← hQ, ← hW1, ← hD2, ← hE]; rfl
  have HLQ := Lib.hid (And.intro hL2 hQ2)
  have HS := Lib.hid (And.intro hL hQ)
  have HBE := Lib.hid (And.intro hB hE)
  have HR := Lib.hid hR
  have HF := Lib.hid hf
  have hgw := hR.lt
  have HDD := Lib.hid (And.intro hD1 (And.intro hD2 hW1))
  clear hL hQ hL2 hQ2 hB hE hR hf
  go_enter Tryd.func36, Tryd.ntmps36
  go_upto_region 3 with fail
  go_cut [10, 11] (fun s10 s11 wx => s10 = .int .i64 L ∧ s11 = .int .i64 Q ∧ Blk wx w.heap.size 58 #[.slice (some ⟨g, 0, none⟩) H cR, .int .i64 WW, .int .i64 (H : Int)] ∧ Below w.heap.size w wx)
  case first =>
    rcases (by omega : (0 < D1 ∨ ¬ 0 < D1)) with q1 | q1
    all_goals
      rcases (by omega : (D2 < W1 ∨ ¬ D2 < W1)) with q2 | q2
      all_goals
        refine wp_region_noPanic ?_
        refine wp_region_held_drew (S := (fun w' => w'.cell? ⟨w.heap.size, 1, none⟩ = some (.int .i64 WW))) (by kernel_rfl) ?_ (fun hHeld => ?_)
        · (first | exact z1 | assumption)
        refine wpAnyH_take (i := 0) (oi := { dst := some 25, op := Op.move (Operand.tmp 6), type := 3, pos := "raster.go:107", after := #[], guard := none }) (v := ?_) rfl (by kernel_rfl) (by kernel_rfl) (by kernel_rfl) (fun _ _ _ h => h) (Or.inl ⟨by rfl, ?_⟩) (by assumption) ?_
        rotate_left
        · (intro wS hSw; (try dsimp only at hSw); go_simp; (try with_reducible rfl))
        try simp only [Act.put, List.setIfInBounds_toArray, List.set_cons_zero, List.set_cons_succ]
        refine wpAnyH_take (i := 1) (oi := { dst := some 26, op := Op.move (Operand.tmp 8), type := 3, pos := "raster.go:107", after := #[], guard := none }) (v := ?_) rfl (by kernel_rfl) (by kernel_rfl) (by kernel_rfl) (fun _ _ _ h => h) (Or.inl ⟨by rfl, ?_⟩) (by assumption) ?_
        rotate_left
        · (intro wS hSw; (try dsimp only at hSw); go_simp; (try with_reducible rfl))
        try simp only [Act.put, List.setIfInBounds_toArray, List.set_cons_zero, List.set_cons_succ]
        refine wpAnyH_take (i := 2) (oi := { dst := some 27, op := Op.binOp BinOp.sub 3 (Operand.tmp 25) (Operand.tmp 26) 3, type := 3, pos := "raster.go:107", after := #[{ on := 0, ground := Ground.data }, { on := 1, ground := Ground.data }], guard := none }) (v := ?_) rfl (by kernel_rfl) (by kernel_rfl) (by kernel_rfl) (fun _ _ _ h => h) (Or.inl ⟨by rfl, ?_⟩) (by assumption) ?_
        rotate_left
        · (intro wS hSw; (try dsimp only at hSw); go_simp; (try with_reducible rfl))
        try simp only [Act.put, List.setIfInBounds_toArray, List.set_cons_zero, List.set_cons_succ]
        refine wpAnyH_take (i := 3) (oi := { dst := some 28, op := Op.call { callee := Callee.builtin Builtin.max, args := #[Operand.const (Value.int IntKind.i64 0), Operand.tmp 27], argTypes := #[3, 3] }, type := 3, pos := "raster.go:107", after := #[{ on := 2, ground := Ground.data }], guard := none }) (v := ?_) rfl (by kernel_rfl) (by kernel_rfl) (by kernel_rfl) (fun _ _ _ h => h) (Or.inl ⟨by rfl, ?_⟩) (by assumption) ?_
        rotate_left
        · (intro wS hSw; (try dsimp only at hSw); go_simp; (try with_reducible rfl))
        try simp only [Act.put, List.setIfInBounds_toArray, List.set_cons_zero, List.set_cons_succ]
        refine wpAnyH_take (i := 4) (oi := { dst := some 29, op := Op.fieldAddr 58 (Operand.tmp 3) 1, type := 0, pos := "raster.go:107", after := #[], guard := none }) (v := ?_) rfl (by kernel_rfl) (by kernel_rfl) (by kernel_rfl) (fun _ _ _ h => h) (Or.inl ⟨by rfl, ?_⟩) (by assumption) ?_
        rotate_left
        · (intro wS hSw; (try dsimp only at hSw); go_simp; (try with_reducible rfl))
        try simp only [Act.put, List.setIfInBounds_toArray, List.set_cons_zero, List.set_cons_succ]
        refine wpAnyH_take (i := 5) (oi := { dst := some 30, op := Op.load 3 (Operand.tmp 29), type := 3, pos := "raster.go:107", after := #[{ on := 4, ground := Ground.data }], guard := none }) (v := ?_) rfl (by kernel_rfl) (by kernel_rfl) (by kernel_rfl) (fun _ _ _ h => h) (Or.inl ⟨by rfl, ?_⟩) (by assumption) ?_
        rotate_left
        · (intro wS hSw; (try dsimp only at hSw); go_simp; (try with_reducible rfl))
        try simp only [Act.put, List.setIfInBounds_toArray, List.set_cons_zero, List.set_cons_succ]
        refine wpAnyH_take (i := 6) (oi := { dst := some 31, op := Op.binOp BinOp.sub 3 (Operand.tmp 30) (Operand.const (Value.int IntKind.i64 1)) 3, type := 3, pos := "raster.go:107", after := #[{ on := 5, ground := Ground.data }], guard := none }) (v := ?_) rfl (by kernel_rfl) (by kernel_rfl) (by kernel_rfl) (fun _ _ _ h => h) (Or.inl ⟨by rfl, ?_⟩) (by assumption) ?_
        rotate_left
        · (intro wS hSw; (try dsimp only at hSw); go_simp; (try with_reducible rfl))
        try simp only [Act.put, List.setIfInBounds_toArray, List.set_cons_zero, List.set_cons_succ]
        refine wpAnyH_take (i := 7) (oi := { dst := some 32, op := Op.move (Operand.tmp 6), type := 3, pos := "raster.go:107", after := #[], guard := none }) (v := ?_) rfl (by kernel_rfl) (by kernel_rfl) (by kernel_rfl) (fun _ _ _ h => h) (Or.inl ⟨by rfl, ?_⟩) (by assumption) ?_
        rotate_left
        · (intro wS hSw; (try dsimp only at hSw); go_simp; (try with_reducible rfl))
        try simp only [Act.put, List.setIfInBounds_toArray, List.set_cons_zero, List.set_cons_succ]
        refine wpAnyH_take (i := 8) (oi := { dst := some 33, op := Op.move (Operand.tmp 9), type := 3, pos := "raster.go:107", after := #[], guard := none }) (v := ?_) rfl (by kernel_rfl) (by kernel_rfl) (by kernel_rfl) (fun _ _ _ h => h) (Or.inl ⟨by rfl, ?_⟩) (by assumption) ?_
        rotate_left
        · (intro wS hSw; (try dsimp only at hSw); go_simp; (try with_reducible rfl))
        try simp only [Act.put, List.setIfInBounds_toArray, List.set_cons_zero, List.set_cons_succ]
        refine wpAnyH_take (i := 9) (oi := { dst := some 34, op := Op.binOp BinOp.add 3 (Operand.tmp 32) (Operand.tmp 33) 3, type := 3, pos := "raster.go:107", after := #[{ on := 7, ground := Ground.data }, { on := 8, ground := Ground.data }], guard := none }) (v := ?_) rfl (by kernel_rfl) (by kernel_rfl) (by kernel_rfl) (fun _ _ _ h => h) (Or.inl ⟨by rfl, ?_⟩) (by assumption) ?_
        rotate_left
        · (intro wS hSw; (try dsimp only at hSw); go_simp; (try with_reducible rfl))
        try simp only [Act.put, List.setIfInBounds_toArray, List.set_cons_zero, List.set_cons_succ]
        refine wpAnyH_take (i := 10) (oi := { dst := some 35, op := Op.call { callee := Callee.builtin Builtin.min, args := #[Operand.tmp 31, Operand.tmp 34], argTypes := #[3, 3] }, type := 3, pos := "raster.go:107", after := #[{ on := 6, ground := Ground.data }, { on := 9, ground := Ground.data }], guard := none }) (v := ?_) rfl (by kernel_rfl) (by kernel_rfl) (by kernel_rfl) (fun _ _ _ h => h) (Or.inl ⟨by rfl, ?_⟩) (by assumption) ?_
        rotate_left
        · (intro wS hSw; (try dsimp only at hSw); go_simp; (try with_reducible rfl))
        try simp only [Act.put, List.setIfInBounds_toArray, List.set_cons_zero, List.set_cons_succ]
        refine wpAnyH_take (i := 11) (oi := { dst := some 10, op := Op.assign (Operand.tmp 28), type := 3, pos := "raster.go:107", after := #[{ on := 3, ground := Ground.data }, { on := 0, ground := Ground.phase }, { on := 1, ground := Ground.phase }, { on := 2, ground := Ground.phase }, { on := 3, ground := Ground.phase }, { on := 4, ground := Ground.textOnly Departure.lateStores }, { on := 5, ground := Ground.textOnly Departure.lateStores }, { on := 6, ground := Ground.textOnly Departure.lateStores }, { on := 7, ground := Ground.textOnly Departure.lateStores }, { on := 8, ground := Ground.textOnly Departure.lateStores }, { on := 9, ground := Ground.textOnly Departure.lateStores }, { on := 10, ground := Ground.textOnly Departure.lateStoresUnsure }], guard := none }) (v := ?_) rfl (by kernel_rfl) (by kernel_rfl) (by kernel_rfl) (fun _ _ _ h => h) (Or.inl ⟨by rfl, ?_⟩) (by assumption) ?_
        rotate_left
        · (intro wS hSw; (try dsimp only at hSw); go_simp; (try with_reducible rfl))
        try simp only [Act.put, List.setIfInBounds_toArray, List.set_cons_zero, List.set_cons_succ]
        refine wpAnyH_take (i := 12) (oi := { dst := some 11, op := Op.assign (Operand.tmp 35), type := 3, pos := "raster.go:107", after := #[{ on := 10, ground := Ground.data }, { on := 11, ground := Ground.chain }, { on := 0, ground := Ground.phase }, { on := 1, ground := Ground.phase }, { on := 2, ground := Ground.phase }, { on := 3, ground := Ground.phase }, { on := 4, ground := Ground.phase }, { on := 5, ground := Ground.phase }, { on := 6, ground := Ground.phase }, { on := 7, ground := Ground.phase }, { on := 8, ground := Ground.phase }, { on := 9, ground := Ground.phase }, { on := 10, ground := Ground.phase }, { on := 11, ground := Ground.phase }], guard := none }) (v := ?_) rfl (by kernel_rfl) (by kernel_rfl) (by kernel_rfl) (fun _ _ _ h => h) (Or.inl ⟨by rfl, ?_⟩) (by assumption) ?_
        rotate_left
        · (intro wS hSw; (try dsimp only at hSw); go_simp; (try with_reducible rfl))
        try simp only [Act.put, List.setIfInBounds_toArray, List.set_cons_zero, List.set_cons_succ]
        refine wpAnyH_done (by kernel_rfl) ?_ _
        refine NoPanic.normal ?_
        go_wp2_with fail
        go_meet
        exact ⟨congrArg (Value.int IntKind.i64) (by have := HLQ.out.1; omega), congrArg (Value.int IntKind.i64) (by have := HLQ.out.2; omega), G1, ((Below.refl _ _).alloc (Nat.le_refl _) _).drew⟩

  case rest =>
    clear z0 z1 z2 G1 hconv1 hconv2 e1 e2 e3
    obtain ⟨rfl, rfl, G1, hB0⟩ := hcut
    have z0 := G1.cell_ 0; have z2 := G1.cell_ 2; simp at z0 z2
    have hT0 := HLQ.out
    have hDD := HDD.out
    by_cases hQL : Q < L
    · go_wp2_with fail
      refine bodyPost_ret (v := .tuple #[]) (by simp [results, Tryd.results36, go_sem]) rfl ⟨⟨_, rfl⟩, ?_, Tch.of_below hB0⟩
      have he : rowsV (stampF WW width f (dx, dy)) H = rowsV f H := rowsV_eq (fun y _ => by
        unfold stampF
        dsimp only
        rw [HS.out.1, HS.out.2, if_neg (by omega)])
      rw [he]
      exact HR.out.below hB0
    obtain ⟨l, rfl⟩ : ∃ l : Nat, L = (l : Int) := ⟨L.toNat, by omega⟩
    obtain ⟨r, rfl⟩ : ∃ r : Nat, Q = (r : Int) := ⟨Q.toNat, by omega⟩
    have hlr : l ≤ r := by omega
    have hr64 : r < 64 := by omega
    obtain ⟨m, hm⟩ : ∃ m : Nat, m = r + 1 - l := ⟨_, rfl⟩
    obtain ⟨mk, hmk⟩ : ∃ mk : Nat, maskN l r = mk := ⟨_, rfl⟩
    have hmk2 : mk < 18446744073709551616 := by rw [← hmk]; exact mask_lt hlr hr64
    have hmw := mask_word hlr hr64
    rw [← hm, hmk] at hmw
    have hw1 : wrap64 ((r : Int) - (l : Int)) = (m : Int) - 1 := by unfold wrap64; omega
    have hm64 : m ≤ 64 := by omega
    have hm0 : (0 : Int) ≤ (m : Int) ∧ (m : Int) ≤ 64 := by omega
    have hw2 : wrap64 ((m : Int) - 1 + 1) = (m : Int) := by unfold wrap64; omega
    have hw3 : IntKind.i64.wrap ((r : Int) - (l : Int)) = (m : Int) - 1 := by rw [wrapS _ (by omega) (by omega)]; omega
    have hw4 : IntKind.i64.wrap ((m : Int) - 1 + 1) = (m : Int) := by rw [wrapS _ (by omega) (by omega)]; omega
    rw [Int.one_mul] at hmw
    obtain ⟨P1, hP1⟩ : ∃ P, IntKind.u64.wrap (2 ^ m) = P := ⟨_, rfl⟩
    obtain ⟨P2, hP2⟩ : ∃ P, IntKind.u64.wrap (P1 - 1) = P := ⟨_, rfl⟩
    rw [hP1, hP2] at hmw
    have HMK := Lib.hid hmk
    have HMK2 := Lib.hid hmk2
    have HLR := Lib.hid (And.intro hlr hr64)
    clear hmk hmk2 hT0 hDD hm
    obtain ⟨D3, hD3⟩ : ∃ D, dy - B = D := ⟨_, rfl⟩
    obtain ⟨D4, hD4⟩ : ∃ D, dy + E = D := ⟨_, rfl⟩
    obtain ⟨H1, hH1⟩ : ∃ D, (H : Int) - 1 = D := ⟨_, rfl⟩
    obtain ⟨T, hT⟩ : ∃ T, max 0 D3 = T := ⟨_, rfl⟩
    obtain ⟨Z, hZ⟩ : ∃ Z, min H1 D4 = Z := ⟨_, rfl⟩
    have HTZ := Lib.hid (And.intro hT hZ)
    have HD34 := Lib.hid (And.intro hD3 (And.intro hD4 hH1))
    clear hT hZ
    rcases (by omega : (0 < D3 ∨ ¬ 0 < D3)) with q3 | q3
    all_goals
      go_wp2_with fail
      go_loopw [13] (fun s13 wr => ∃ K : Int, T ≤ K ∧ (K = T ∨ K ≤ Z + 1) ∧ s13 = .int .i64 K ∧ Blk wr w.heap.size 58 #[.slice (some ⟨g, 0, none⟩) H cR, .int .i64 WW, .int .i64 (H : Int)] ∧ RowT wr g 29 (rowsV (fun y => if T ≤ (y : Int) ∧ (y : Int) < K then f y ||| mk else f y) H) ∧ Tch (fun k => k = g) w wr) (fun s13 _ => (Z + 1 - intOf s13).toNat)
      case atStart => exact ⟨T, Int.le_refl _, Or.inl rfl, congrArg (Value.int IntKind.i64) (by have := HTZ.out.1; omega), G1, by (have he : rowsV (fun y => if T ≤ (y : Int) ∧ (y : Int) < T then f y ||| mk else f y) H = rowsV f H := rowsV_eq (fun y _ => by rw [if_neg (by omega)])); rw [he]; exact HR.out.below hB0, Tch.of_below hB0⟩
      case round =>
        clear G1 hB0 z0 z2 hw1 hw2 hw3 hw4 hP1 hP2 hmw
        obtain ⟨K, hK1, hK2, rfl, G1, hRk, hTc⟩ := hrel
        have z0 := G1.cell_ 0; have z2 := G1.cell_ 2; simp at z0 z2
        have hTZ := HTZ.out
        have hD34 := HD34.out
        by_cases hKZ : K ≤ Z
        · obtain ⟨k, rfl⟩ : ∃ k : Nat, K = (k : Int) := ⟨K.toNat, by omega⟩
          have hkH : k < H := by omega
          obtain ⟨x, hx⟩ : ∃ x, f k = x := ⟨_, rfl⟩
          have hx2 : x < 18446744073709551616 := by rw [← hx]; exact HF.out k
          have c0 : wr.cell? ⟨g, k, none⟩ = some (.int .u64 ((x : Nat) : Int)) := by
            have := hRk.cell_ (rowsV_at (fun y => if T ≤ (y : Int) ∧ (y : Int) < (k : Int) then f y ||| mk else f y) H k hkH)
            rwa [if_neg (by omega), hx] at this
          have f0 := hRk.free k
          have hor := u64_or_nat x mk hx2 HMK2.out
          have k0 : (0 : Int) ≤ (k : Int) := by omega
          have k1 : (k : Int) < (H : Int) := by omega
          have hst := hRk.set_ (by rw [rowsV_len]; exact hkH) (.int .u64 ((x ||| mk : Nat) : Int))
          rw [rowsV_set _ _ _ _ hkH, rowsV_eq (f' := fun y => if T ≤ (y : Int) ∧ (y : Int) < (k : Int) + 1 then f y ||| mk else f y) (fun y hy => by
            try dsimp only
            by_cases hyk : y = k
            · subst hyk; rw [if_pos rfl, if_pos (by omega), hx]
            · rw [if_neg hyk]
              by_cases h5 : T ≤ (y : Int) ∧ (y : Int) < (k : Int)
              · rw [if_pos h5, if_pos (by omega)]
              · rw [if_neg h5, if_neg (by omega)])] at hst
          have HST := Lib.hid hst
          have hgs := Blk.far G1 (p := ⟨g, k, none⟩) (by show w.heap.size ≠ g; omega) (.int .u64 ((x ||| mk : Nat) : Int))
          have hTT := hTc.trans (Tch.set wr ⟨g, k, none⟩ (.int .u64 ((x ||| mk : Nat) : Int)) rfl)
          have HRK := Lib.hid hRk
          clear hst hRk hx2 hTc
          rcases (by omega : (D4 < H1 ∨ ¬ D4 < H1)) with q4 | q4
          all_goals
            go_wp2_with fail
            go_roundw
            case rel => exact ⟨(k : Int) + 1, by omega, Or.inr (by omega), by go_num, hgs, HST.out, hTT⟩
            case measure => simp [intOf]; omega
        · have HRK := Lib.hid hRk
          clear hRk
          rcases (by omega : (D4 < H1 ∨ ¬ D4 < H1)) with q4 | q4
          all_goals
            go_wp2_with fail
            refine bodyPost_end (v := .tuple #[]) (by simp [results, Tryd.results36, go_sem]) rfl ⟨⟨_, rfl⟩, ?_, hTc⟩
            have he : rowsV (stampF WW width f (dx, dy)) H = rowsV (fun y => if T ≤ (y : Int) ∧ (y : Int) < K then f y ||| mk else f y) H := rowsV_eq (fun y hy => by
              unfold stampF
              dsimp only
              rw [HS.out.1, HS.out.2, HBE.out.1, HBE.out.2, Int.toNat_natCast, Int.toNat_natCast, HMK.out]
              have := HLR.out.1
              by_cases h5 : T ≤ (y : Int) ∧ (y : Int) < K
              · rw [if_pos h5, if_pos (by omega)]
              · rw [if_neg h5, if_neg (by omega)])
            rw [he]
            exact HRK.out
end Go.Proofs.YtnbiioighjdkjaaDoor
