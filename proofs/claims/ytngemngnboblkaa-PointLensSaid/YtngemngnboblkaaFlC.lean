/- Box, of, awake. -/
import Derived.Test.YtngemngnboblkaaFlB
import Derived.Test.YtngemngnboblkaaSl
import Derived.Test.YtngemngnboblkaaLow
import Derived.Deep.RegionHeld3
import Derived.Deep.DrawnRows
import Derived.Deep.DeepCutAuto
import Derived.OwnWalk
namespace Go.Proofs.Ytngemngnboblkaa
open Go.ChangeShapes Go.WideShapes Go.ChangeAt Go.RowKit
set_option linter.unusedSimpArgs false
set_option linter.unusedVariables false

theorem run_minF (ts : Array TypeId) (t : TypeId) (P : Program) (x y : Int) (w : World) (hx : Sm x) (hy : Sm y) : (Builtin.min_ ts t #[.float .f64 (F x), .float .f64 (F y)]).run P w = .ok (.float .f64 (F (min x y))) w := by
  have h := ord_c (IsI.f x) (IsI.f y) hx hy
  have hc : compare x y = compareOfLessAndEq x y := rfl
  rw [hc] at h
  unfold compareOfLessAndEq at h
  by_cases h1 : x < y
  · rw [if_pos h1] at h
    simp [Builtin.min_, Builtin.min2, h, Int.min_eq_left (Int.le_of_lt h1)]
  · rw [if_neg h1] at h
    by_cases h2 : x = y
    · rw [if_pos h2] at h
      subst h2
      simp [Builtin.min_, Builtin.min2, h]
    · rw [if_neg h2] at h
      simp [Builtin.min_, Builtin.min2, h, Int.min_eq_right (by omega : y ≤ x)]
theorem run_maxF (ts : Array TypeId) (t : TypeId) (P : Program) (x y : Int) (w : World) (hx : Sm x) (hy : Sm y) : (Builtin.max_ ts t #[.float .f64 (F x), .float .f64 (F y)]).run P w = .ok (.float .f64 (F (max x y))) w := by
  have h := ord_c (IsI.f x) (IsI.f y) hx hy
  have hc : compare x y = compareOfLessAndEq x y := rfl
  rw [hc] at h
  unfold compareOfLessAndEq at h
  by_cases h1 : x < y
  · rw [if_pos h1] at h
    simp [Builtin.max_, Builtin.max2, h, Int.max_eq_right (Int.le_of_lt h1)]
  · rw [if_neg h1] at h
    by_cases h2 : x = y
    · rw [if_pos h2] at h
      subst h2
      simp [Builtin.max_, Builtin.max2, h]
    · rw [if_neg h2] at h
      simp [Builtin.max_, Builtin.max2, h, Int.max_eq_left (by omega : y ≤ x)]
def cV (p : Int × Int) : Value := .complex .f64 (F p.1) (F p.2)
def loS (a p : Int × Int) : Int × Int := (min a.1 p.1, min a.2 p.2)
def hiS (a p : Int × Int) : Int × Int := (max a.1 p.1, max a.2 p.2)
def loF (ps : List (Int × Int)) (i : Nat) : Int × Int := (ps.take i).foldl loS (ps.getD 0 (0, 0))
def hiF (ps : List (Int × Int)) (i : Nat) : Int × Int := (ps.take i).foldl hiS (ps.getD 0 (0, 0))
def PtsOk (ps : List (Int × Int)) : Prop := ∀ p ∈ ps, mayZ p.1 = true ∧ mayZ p.2 = true
theorem loF_step {ps : List (Int × Int)} {i : Nat} {p : Int × Int} (h : ps[i]? = some p) : loF ps (i + 1) = loS (loF ps i) p := by
  obtain ⟨hlt, rfl⟩ := List.getElem?_eq_some_iff.1 h
  unfold loF
  rw [List.take_succ_eq_append_getElem hlt, List.foldl_append]
  rfl
theorem hiF_step {ps : List (Int × Int)} {i : Nat} {p : Int × Int} (h : ps[i]? = some p) : hiF ps (i + 1) = hiS (hiF ps i) p := by
  obtain ⟨hlt, rfl⟩ := List.getElem?_eq_some_iff.1 h
  unfold hiF
  rw [List.take_succ_eq_append_getElem hlt, List.foldl_append]
  rfl
theorem mayZ_min {x y : Int} (hx : mayZ x = true) (hy : mayZ y = true) : mayZ (min x y) = true ∧ mayZ (max x y) = true := by
  have := mayZ_bd hx
  have := mayZ_bd hy
  exact ⟨mayZ_of (by omega), mayZ_of (by omega)⟩
theorem boxF_ok {ps : List (Int × Int)} (h : PtsOk ps) : ∀ i, i ≤ ps.length → 0 < ps.length → (mayZ (loF ps i).1 = true ∧ mayZ (loF ps i).2 = true) ∧ (mayZ (hiF ps i).1 = true ∧ mayZ (hiF ps i).2 = true)
  | 0, _, h0 => by
    have e : ps.getD 0 (0, 0) ∈ ps := by
      rw [List.getD_eq_getElem?_getD, List.getElem?_eq_getElem h0]
      exact List.getElem_mem h0
    have := h _ e
    exact ⟨this, this⟩
  | i + 1, hi, h0 => by
    obtain ⟨⟨a1, a2⟩, a3, a4⟩ := boxF_ok h i (by omega) h0
    have hg : ps[i]? = some (ps[i]'(by omega)) := List.getElem?_eq_getElem _
    obtain ⟨b1, b2⟩ := h _ (List.getElem_mem (h := (by omega : i < ps.length)))
    rw [loF_step hg, hiF_step hg]
    exact ⟨⟨(mayZ_min a1 b1).1, (mayZ_min a2 b2).1⟩, (mayZ_min a3 b1).2, (mayZ_min a4 b2).2⟩
set_option maxRecDepth 100000 in
set_option maxHeartbeats 4000000 in
theorem box_any (ps : List (Int × Int)) (A : Option Addr) (cap : Nat) (w : World) (hs : Sl w w.heap.size A (ps.map cV)) (hp : PtsOk ps) (h0 : 0 < ps.length) (hb : ps.length ≤ 1000000) :
    Calls Try.prog 14 #[.slice A ps.length cap] w fun e' w' => e' = .returned (.tuple #[cV (loF ps ps.length), cV (hiF ps ps.length), .bool true]) ∧ Below w.heap.size w w' := by
  obtain ⟨g, off, rfl, hg, hc⟩ := hs.at_ (by simpa using h0)
  obtain ⟨L, hL⟩ : ∃ L, ps.length = L := ⟨_, rfl⟩
  have HL := Lib.hid hL
  have hget : ps[0]? = some (ps.getD 0 (0, 0)) := by rw [List.getD_eq_getElem?_getD, List.getElem?_eq_getElem h0]; rfl
  have c0 : w.cell? ⟨g, off, none⟩ = some (cV (ps.getD 0 (0, 0))) := by have := hc 0 (cV (ps.getD 0 (0, 0))) (by rw [List.getElem?_map, hget]; rfl); simpa using this
  have HC := Lib.hid hc
  have HP := Lib.hid hp
  have hL0 : (0 : Int) < (L : Int) := by omega
  have hLe : ((L : Int) == 0) = false := by simp; omega
  rw [hL]
  rw [hL] at h0 hb
  clear hL hget hc hp hs
  go_enter Try.func14, Try.ntmps14
  go_upto_region 3 with fail
  refine wp_region_noPanic ?_
  refine wp_region_held_drew (S := (fun w' => w'.cell? ⟨g, off, none⟩ = some (cV (ps.getD 0 (0, 0))))) (by kernel_rfl) ?_ (fun hHeld => ?_)
  · (first | exact c0 | assumption)
  refine wpAnyH_take (i := 0) (oi := { dst := some 12, op := Op.move (Operand.tmp 0), type := 33, pos := "point.go:73", after := #[], guard := none }) (v := ?_) rfl (by kernel_rfl) (by kernel_rfl) (by kernel_rfl) (fun _ _ _ h => h) (Or.inl ⟨by rfl, ?_⟩) (by assumption) ?_
  rotate_left
  · (intro wS hSw; (try dsimp only at hSw); go_simp; (try with_reducible rfl))
  try simp only [Act.put, List.setIfInBounds_toArray, List.set_cons_zero, List.set_cons_succ]
  refine wpAnyH_take (i := 1) (oi := { dst := some 13, op := Op.indexAddr 33 (Operand.tmp 12) (Operand.const (Value.int IntKind.i64 0)), type := 0, pos := "point.go:73", after := #[{ on := 0, ground := Ground.data }], guard := none }) (v := ?_) rfl (by kernel_rfl) (by kernel_rfl) (by kernel_rfl) (fun _ _ _ h => h) (Or.inl ⟨by rfl, ?_⟩) (by assumption) ?_
  rotate_left
  · (intro wS hSw; (try dsimp only at hSw); go_simp; (try with_reducible rfl))
  try simp only [Act.put, List.setIfInBounds_toArray, List.set_cons_zero, List.set_cons_succ]
  refine wpAnyH_take (i := 2) (oi := { dst := some 14, op := Op.load 22 (Operand.tmp 13), type := 22, pos := "point.go:73", after := #[{ on := 1, ground := Ground.data }], guard := none }) (v := ?_) rfl (by kernel_rfl) (by kernel_rfl) (by kernel_rfl) (fun _ _ _ h => h) (Or.inl ⟨by rfl, ?_⟩) (by assumption) ?_
  rotate_left
  · (intro wS hSw; (try dsimp only at hSw); go_simp; (try with_reducible rfl))
  try simp only [Act.put, List.setIfInBounds_toArray, List.set_cons_zero, List.set_cons_succ]
  refine wpAnyH_take (i := 3) (oi := { dst := some 15, op := Op.move (Operand.tmp 0), type := 33, pos := "point.go:73", after := #[{ on := 6, ground := Ground.gcOnly Departure.lateStores }], guard := none }) (v := ?_) rfl (by kernel_rfl) (by kernel_rfl) (by kernel_rfl) (fun _ _ _ h => h) (Or.inl ⟨by rfl, ?_⟩) (by assumption) ?_
  rotate_left
  · (intro wS hSw; (try dsimp only at hSw); go_simp; (try with_reducible rfl))
  try simp only [Act.put, List.setIfInBounds_toArray, List.set_cons_zero, List.set_cons_succ]
  refine wpAnyH_take (i := 4) (oi := { dst := some 16, op := Op.indexAddr 33 (Operand.tmp 15) (Operand.const (Value.int IntKind.i64 0)), type := 0, pos := "point.go:73", after := #[{ on := 3, ground := Ground.data }, { on := 6, ground := Ground.gcOnly Departure.lateStores }], guard := none }) (v := ?_) rfl (by kernel_rfl) (by kernel_rfl) (by kernel_rfl) (fun _ _ _ h => h) (Or.inl ⟨by rfl, ?_⟩) (by assumption) ?_
  rotate_left
  · (intro wS hSw; (try dsimp only at hSw); go_simp; (try with_reducible rfl))
  try simp only [Act.put, List.setIfInBounds_toArray, List.set_cons_zero, List.set_cons_succ]
  refine wpAnyH_take (i := 5) (oi := { dst := some 17, op := Op.load 22 (Operand.tmp 16), type := 22, pos := "point.go:73", after := #[{ on := 4, ground := Ground.data }, { on := 6, ground := Ground.gcOnly Departure.lateStores }], guard := none }) (v := ?_) rfl (by kernel_rfl) (by kernel_rfl) (by kernel_rfl) (fun _ _ _ h => h) (Or.inl ⟨by rfl, ?_⟩) (by assumption) ?_
  rotate_left
  · (intro wS hSw; (try dsimp only at hSw); go_simp; (try with_reducible rfl))
  try simp only [Act.put, List.setIfInBounds_toArray, List.set_cons_zero, List.set_cons_succ]
  refine wpAnyH_take (i := 6) (oi := { dst := some 5, op := Op.assign (Operand.tmp 14), type := 22, pos := "point.go:73", after := #[{ on := 2, ground := Ground.data }, { on := 0, ground := Ground.phase }, { on := 1, ground := Ground.phase }, { on := 2, ground := Ground.phase }, { on := 3, ground := Ground.textOnly Departure.lateStores }, { on := 4, ground := Ground.textOnly Departure.lateStores }, { on := 5, ground := Ground.textOnly Departure.lateStores }], guard := none }) (v := ?_) rfl (by kernel_rfl) (by kernel_rfl) (by kernel_rfl) (fun _ _ _ h => h) (Or.inl ⟨by rfl, ?_⟩) (by assumption) ?_
  rotate_left
  · (intro wS hSw; (try dsimp only at hSw); go_simp; (try with_reducible rfl))
  try simp only [Act.put, List.setIfInBounds_toArray, List.set_cons_zero, List.set_cons_succ]
  refine wpAnyH_take (i := 7) (oi := { dst := some 6, op := Op.assign (Operand.tmp 17), type := 22, pos := "point.go:73", after := #[{ on := 5, ground := Ground.data }, { on := 6, ground := Ground.chain }, { on := 0, ground := Ground.phase }, { on := 1, ground := Ground.phase }, { on := 2, ground := Ground.phase }, { on := 3, ground := Ground.phase }, { on := 4, ground := Ground.phase }, { on := 5, ground := Ground.phase }, { on := 6, ground := Ground.phase }], guard := none }) (v := ?_) rfl (by kernel_rfl) (by kernel_rfl) (by kernel_rfl) (fun _ _ _ h => h) (Or.inl ⟨by rfl, ?_⟩) (by assumption) ?_
  rotate_left
  · (intro wS hSw; (try dsimp only at hSw); go_simp; (try with_reducible rfl))
  try simp only [Act.put, List.setIfInBounds_toArray, List.set_cons_zero, List.set_cons_succ]
  refine wpAnyH_done (by kernel_rfl) ?_ _
  refine NoPanic.normal ?_
  have HB : Below w.heap.size w w.drew := (Below.refl _ _).drew
  go_wp2_with fail
  go_loopw [5, 6, 20] (fun s5 s6 s20 wr => ∃ i : Nat, i ≤ L ∧ s5 = cV (loF ps i) ∧ s6 = cV (hiF ps i) ∧ s20 = .int .i64 (i : Int) ∧ Below w.heap.size w wr) (fun _ _ s20 _ => L - (intOf s20).toNat)
  case atStart => exact ⟨0, Nat.zero_le _, rfl, rfl, rfl, by first | exact HB | exact Below.refl _ _⟩
  case round =>
    obtain ⟨i, hi, rfl, rfl, rfl, hB⟩ := hrel
    obtain ⟨⟨a1, a2⟩, a3, a4⟩ := boxF_ok HP.out i (by have := HL.out; omega) (by have := HL.out; omega)
    obtain ⟨lo, hlo⟩ : ∃ q, loF ps i = q := ⟨_, rfl⟩
    obtain ⟨hh, hhh⟩ : ∃ q, hiF ps i = q := ⟨_, rfl⟩
    by_cases hlt : i < L
    · have i0 : (0 : Int) ≤ (i : Int) := by omega
      have i1 : (i : Int) < (L : Int) := by omega
      obtain ⟨p, hpg⟩ : ∃ p, ps[i]? = some p := ⟨_, List.getElem?_eq_getElem (by have := HL.out; omega)⟩
      have hpm : p ∈ ps := List.mem_of_getElem? hpg
      have ci : wr.cell? ⟨g, off + i, none⟩ = some (.complex .f64 (F p.1) (F p.2)) := (hB.cell (p := ⟨g, off + i, none⟩) hg).trans (HC.out i _ (by rw [List.getElem?_map, hpg]; rfl))
      obtain ⟨b1, b2⟩ := HP.out p hpm
      have s1 := loF_step hpg
      have s2 := hiF_step hpg
      rw [hlo] at a1 a2 s1 ⊢
      rw [hhh] at a3 a4 s2 ⊢
      have HS := Lib.hid (And.intro s1 s2)
      clear s1 s2 hlo hhh hpg hpm
      obtain ⟨l1, l2⟩ := lo
      obtain ⟨h1, h2⟩ := hh
      obtain ⟨p1, p2⟩ := p
      have m1 := run_minF #[26, 26] 26 Try.prog l1 p1 wr (sm_of a1) (sm_of b1)
      have m2 := run_minF #[26, 26] 26 Try.prog l2 p2 wr (sm_of a2) (sm_of b2)
      have m3 := run_maxF #[26, 26] 26 Try.prog h1 p1 wr (sm_of a3) (sm_of b1)
      have m4 := run_maxF #[26, 26] 26 Try.prog h2 p2 wr (sm_of a4) (sm_of b2)
      have HX := Lib.hid (sm_of b1)
      have HY := Lib.hid (sm_of b2)
      have HM1 : Hid ((mayZ p1 && mayZ p2) = true) := Lib.hid (by have e1 : mayZ p1 = true := b1; have e2 : mayZ p2 = true := b2; rw [e1, e2]; rfl)
      clear a1 a2 a3 a4 b1 b2
      unfold cV
      dsimp only at ci m1 m2 m3 m4 ⊢
      go_wp2_with (go_at_call 17; ((with_reducible refine (may_b p1 p2 true _ HX.out HY.out HM1).mono ?_); rintro e' wN ⟨rfl, rfl⟩; skip))
      go_roundw
      case rel => exact ⟨i + 1, by omega, by rw [HS.out.1]; rfl, by rw [HS.out.2]; rfl, by go_num, hB⟩
      case measure => simp [intOf]; omega
    · have i1 : ¬ (i : Int) < (L : Int) := by omega
      obtain rfl : i = L := by omega
      rw [hlo, hhh]
      unfold cV
      go_wp2_with fail
      go_ret3
      exact ⟨rfl, hB⟩
theorem ofInt_c (z : Int) (hz : Sm z) : floatOfInt .f64 z = F z := ofInt_F hz
def ofZ (a most : Int) : Int := lowI a (2 * most + 1) - most
theorem ofZ_bd (a most : Int) (h : 0 ≤ most) : -most ≤ ofZ a most ∧ ofZ a most ≤ most := by
  have := lowI_bd a (2 * most + 1) (by omega)
  unfold ofZ
  omega
theorem of_any (a b most : Int) (w : World) (h0 : 0 ≤ most) (h1 : most ≤ 32767) : Calls Try.prog 8 #[.int .i64 a, .int .i64 b, .int .i64 most] w fun e' w' => e' = .returned (.complex .f64 (F (ofZ a most)) (F (ofZ b most))) ∧ w = w' := by
  have b1 := ofZ_bd a most h0
  have b2 := ofZ_bd b most h0
  have f1 := ofInt_c (ofZ a most) (by unfold Sm; omega)
  have f2 := ofInt_c (ofZ b most) (by unfold Sm; omega)
  unfold ofZ at f1 f2 b1 b2 ⊢
  go_enter Try.func8, Try.ntmps8
  go_wp2_with (go_at_call 15; ((with_reducible refine (low_any _ _ _ (by omega) (by omega)).mono ?_); rintro e' wN ⟨rfl, rfl⟩; skip))
  go_ret
  exact ⟨rfl, rfl⟩
end Go.Proofs.Ytngemngnboblkaa
