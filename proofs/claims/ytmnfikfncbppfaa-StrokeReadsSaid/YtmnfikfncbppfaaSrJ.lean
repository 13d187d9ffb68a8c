/- Chapter 2's own Read. -/
import Derived.Test.YtmnfikfncbppfaaSrI
import Derived.Deep.RegionHeld3
import Derived.Deep.DrawnRows
import Derived.Deep.DeepCutAuto
namespace Go.Proofs.Ytmnfikfncbppfaa
open Go.ChangeShapes Go.WideShapes Go.ChangeAt Go.RowKit
set_option linter.unusedSimpArgs false
set_option linter.unusedVariables false

attribute [local go_sem ↓] Go.wp_at_zero Go.wp_at_succ
theorem cell_far3 {w : World} {g b o : Nat} {u0 u1 u2 : Value} (h : b ≠ g) : (((w.setCell ⟨g, 0, none⟩ u0).setCell ⟨g, 1, none⟩ u1).setCell ⟨g, 2, none⟩ u2).cell? ⟨b, o, none⟩ = w.cell? ⟨b, o, none⟩ := by
  have k : ∀ (W : World) (i : Nat) (u : Value), (W.setCell ⟨g, i, none⟩ u).cell? ⟨b, o, none⟩ = W.cell? ⟨b, o, none⟩ := fun W i u => by
    unfold World.cell?
    rw [Below.heap_setCell _ _ _ _ h]
  rw [k, k, k]
theorem rpt_facts {wN w2 : World} {base g : Nat} {v q v2 x0 x1 : Value} {es : List (St × Value)} {ps : List Pt} {p : Pt} (hX : Blk wN g 44 #[x0, x1, q]) (hP : RowP wN base q ps) (hS : RowS wN base v es) (hav : Ap q v) (hae : ∀ e ∈ es, Ap e.2 q) (hqg : q.ownBlock ≠ some g) (hvg : v.ownBlock ≠ some g) (heg : ∀ e ∈ es, e.2.ownBlock ≠ some g) (hgb : base ≤ g)
    (ho : w2.ownsRow base 41 1 v2 (ps.length + 1) (ps.map ptV ++ [ptV p])) (hg : wN.grownBy w2 q.ownBlock) (hv : v2.ownBlock = q.ownBlock ∨ v2.ownBlock = some wN.heap.size) (hsz : base ≤ wN.heap.size) :
    Blk w2 g 44 #[x0, x1, q] ∧ ∃ wz, wz = w2.setCell ⟨g, 2, none⟩ v2 ∧ Below base wN wz ∧ Blk wz g 44 #[x0, x1, v2] ∧ RowP wz base v2 (ps ++ [p]) ∧ Ap v2 v ∧ (∀ e ∈ es, Ap e.2 v2) ∧ v2.ownBlock ≠ some g ∧ RowS wz base v es := by
  obtain ⟨h1, h2, h3⟩ := pts_app hP hS hav hae hg hv
  have hX2 : Blk w2 g 44 #[x0, x1, q] := (hg.block g hX.lt (fun he => hqg he.symm)).trans hX
  have h4 : v2.ownBlock ≠ some g := by
    rcases hv with hv | hv
    · rw [hv]
      exact hqg
    · rw [hv]
      have := hX.lt
      intro hc
      cases hc
      omega
  have hP2 : RowP w2 base v2 (ps ++ [p]) := rowP_snoc ho rfl
  refine ⟨hX2, _, rfl, (below_gr hg hP (Nat.le_refl _) hsz).setCell (p := ⟨g, 2, none⟩) hgb _, hX2.set_ 2 v2, hP2.far (p := ⟨g, 2, none⟩) h4 _, h2, h3, h4, h1.far (p := ⟨g, 2, none⟩) hvg heg _⟩
theorem lrP_stop {n : Nat} {b : List Nat} {ps : List Pt} (h : n = 0 ∨ b.length < 4) : lrP n b ps = (ps, b) := by
  match n, b, h with
  | 0, b, _ => rfl
  | n + 1, [], _ => rfl
  | n + 1, [_], _ => rfl
  | n + 1, [_, _], _ => rfl
  | n + 1, [_, _, _], _ => rfl
  | n + 1, _ :: _ :: _ :: _ :: _, h => simp at h; omega
theorem lrS_stop {n : Nat} {b : List Nat} {ss : List St} (h : n = 0 ∨ b.length < 2) : lrS n b ss = ss := by
  match n, b, h with
  | 0, b, _ => rfl
  | n + 1, [], _ => rfl
  | n + 1, [_], _ => rfl
  | n + 1, _ :: _ :: _, h => simp at h; omega
attribute [local go_sem] build_onec
theorem w16_1 (a : Nat) (h : a < 256) : IntKind.u16.wrap (a : Int) = (a : Int) := by simp only [IntKind.wrap, IntKind.bits, IntKind.signed]; simp; omega
theorem w16_2 (a : Nat) (h : a < 256) : IntKind.u16.wrap ((a : Int) * 256) = (a : Int) * 256 := by simp only [IntKind.wrap, IntKind.bits, IntKind.signed]; simp; omega
theorem w16_3 (a c : Nat) (h : a < 256) (h2 : c < 256) : IntKind.u16.wrap ((a : Int) * 256 + (c : Int)) = (a : Int) * 256 + (c : Int) := by simp only [IntKind.wrap, IntKind.bits, IntKind.signed]; simp; omega
theorem w16_4 (a c : Nat) (h : a < 256) (h2 : c < 256) : IntKind.i16.wrap ((a : Int) * 256 + (c : Int)) = ptz a c := by
  unfold ptz
  simp only [IntKind.wrap, IntKind.bits, IntKind.signed]
  simp
  split <;> omega
theorem own_slB {w : World} {base n : Nat} {e : TypeId} {v : Value} {xs : List Value} (h : w.ownsRow base e 1 v n xs) : ∃ A c, v = .slice A n c ∧ Sl w w.heap.size A xs := by
  have h0 := h
  rcases h.2 with ⟨rfl, h1⟩ | ⟨g, cap, cur, rfl, hb, hh, hnc, hcm, hsz, ht⟩
  · have h2 := h.1
    subst h1
    have : xs = [] := List.eq_nil_of_length_eq_zero (by simpa using h2)
    subst this
    exact ⟨none, 0, rfl, Sl.nil_⟩
  · exact ⟨_, cap, rfl, Sl.of_own h0⟩
def GotR (w0 : World) (b : List Nat) (e' : Ending) (w' : World) : Prop :=
  (∃ v es, rref b = some (es.map Prod.fst) ∧ RowS w' w0.heap.size v es ∧ e' = .returned (.tuple #[v, .int .i64 0])) ∨ (rref b = none ∧ e' = .returned (.tuple #[.slice none 0 0, .int .i64 5]))
set_option maxRecDepth 100000 in
set_option maxHeartbeats 4000000 in
theorem rread_any (b : List Nat) (n : Nat) (A : Option Addr) (c : Nat) (w : World) (hn : b.length = n) (h : Sl w w.heap.size A (b.map byteV)) (h8 : Bytes8 b) (n1 : n ≤ 1000) :
    Calls Try.prog 7 #[.slice A n c] w fun e' w' => GotR w b e' w' ∧ Below w.heap.size w w' := by
  have HN := Lib.hid (And.intro hn h8)
  clear hn h8
  go_enter Try.func7, Try.ntmps7
  go_wp2
  go_loopw [4, 5] (fun s4 s5 wr => ∃ (at1 : Nat) (v : Value) (es : List (St × Value)), 1 ≤ at1 ∧ at1 ≤ n + 1 ∧ s5 = .int .i64 (at1 : Int) ∧ s4 = v ∧ Hid (lrS (7 - es.length) (b.drop at1) (es.map Prod.fst) = lrS 7 (b.drop 1) []) ∧ RowS wr w.heap.size v es ∧ es.length ≤ 7 ∧ Hid (∀ e ∈ es, e.1.2.length ≤ 255) ∧ Below w.heap.size w wr) (fun _ s5 _ => n + 1 - (iOf s5).toNat)
  case atStart => exact ⟨1, _, [], Nat.le_refl _, by omega, rfl, rfl, Lib.hid (by rfl), RowS.nil_ _ _, by simp, Lib.hid (by simp), Below.refl _ _⟩
  case round =>
    obtain ⟨at1, v, es, ha1, ha2, rfl, e4, HL, hS, hes, hpl, hB⟩ := hrel
    have e4' := e4.symm
    subst e4'
    obtain ⟨A2, c2, rfl, hsh⟩ := hS.sh
    have i0 : (1 : Int) ≤ (at1 : Int) := by omega
    have i1 : (at1 : Int) ≤ (n : Int) + 1 := by omega
    by_cases hgo : at1 + 1 < n ∧ es.length ≤ 6
    · obtain ⟨hlt, hm6⟩ := hgo
      obtain ⟨b1, o1, rfl, lb1, q1⟩ := h.at_ (by rw [List.length_map, HN.out.1]; omega)
      obtain ⟨hh, kk, bs, hbs⟩ : ∃ hh kk bs, b.drop at1 = hh :: kk :: bs := by
        have hl : (b.drop at1).length = n - at1 := by rw [List.length_drop, HN.out.1]
        match hd : b.drop at1, hl with
        | [], hl => simp at hl; omega
        | [_], hl => simp at hl; omega
        | x :: y :: z, _ => exact ⟨x, y, z, rfl⟩
      obtain ⟨px, hpx⟩ : ∃ p, ((hh / 16 : Nat) : Int) = p := ⟨_, rfl⟩
      obtain ⟨qx, hqx⟩ : ∃ p, ((hh % 16 : Nat) : Int) = p := ⟨_, rfl⟩
      have hget : ∀ j, b[at1 + j]? = (hh :: kk :: bs)[j]? := fun j => by rw [← hbs, List.getElem?_drop]
      have h81 : hh < 256 := HN.out.2 hh (List.mem_of_getElem? (hget 0))
      have h82 : kk < 256 := HN.out.2 kk (List.mem_of_getElem? (hget 1))
      have z0w := q1 at1 (byteV hh) (by rw [List.getElem?_map, show b[at1]? = some hh from hget 0]; rfl)
      have z1w := q1 (at1 + 1) (byteV kk) (by rw [List.getElem?_map, show b[at1 + 1]? = some kk from hget 1]; rfl)
      unfold byteV at z0w z1w
      have z0 := (hB.cell (p := ⟨b1, o1 + at1, none⟩) lb1).trans z0w
      have i2 : (at1 : Int) + 1 < (n : Int) := by omega
      have i3 : (es.length : Int) ≤ 6 := by omega
      have i4 : at1 < n := by omega
      have i5 : (at1 : Int) < (n : Int) := by omega
      have j1 : (0 : Int) ≤ (hh : Int) := by omega
      have j2 : (hh : Int) < 256 := by omega
      have k1 : (0 : Int) ≤ (kk : Int) := by omega
      have k2 : (kk : Int) < 256 := by omega
      have f5 : IntKind.i64.wrap (kk : Int) = (kk : Int) := IntWalk.i64_in _ (by omega)
      have f1 : IntKind.u8.wrap ((hh : Int) / 16) = px := by rw [← hpx, IntWalk.u8_in _ (by omega)]; omega
      have f2 : IntKind.i64.wrap px = px := IntWalk.i64_in _ (by omega)
      have f3 : (hh : Int).tmod 16 = qx := by rw [← hqx, Int.tmod_eq_emod_of_nonneg (by omega)]; omega
      have f4 : IntKind.i64.wrap qx = qx := IntWalk.i64_in _ (by omega)
      have HPQ := Lib.hid (And.intro hpx hqx)
      have HBS := Lib.hid hbs
      have HGET := Lib.hid hget
      have HES := Lib.hid hes
      clear hpx hqx hget hbs hes
      go_upto_region 4 with fail
      refine wp_region_noPanic ?_
      refine wp_region_held_drew (S := (fun w' => w'.cell? ⟨b1, o1 + at1, none⟩ = some (.int .u8 (hh : Int)))) (by kernel_rfl) ?_ (fun hHeld => ?_)
      · (first | exact z0 | exact z0X | (show _ = _; rw [cell_far3 (Nat.ne_of_lt (Nat.lt_of_lt_of_le lb1 hgb))]; exact z0X) | assumption)
      refine wpAnyH_take (i := 0) (oi := { dst := some 23, op := Op.move (Operand.tmp 0), type := 22, pos := "ref.go:61", after := #[], guard := none }) (v := ?_) rfl (by kernel_rfl) (by kernel_rfl) (by kernel_rfl) (fun _ _ _ h => h) (Or.inl ⟨by rfl, ?_⟩) (by assumption) ?_
      rotate_left
      · (intro wS hSw; (try dsimp only at hSw); go_simp; (try with_reducible rfl))
      try simp only [Act.put, List.setIfInBounds_toArray, List.set_cons_zero, List.set_cons_succ]
      refine wpAnyH_take (i := 1) (oi := { dst := some 24, op := Op.move (Operand.tmp 5), type := 3, pos := "ref.go:61", after := #[], guard := none }) (v := ?_) rfl (by kernel_rfl) (by kernel_rfl) (by kernel_rfl) (fun _ _ _ h => h) (Or.inl ⟨by rfl, ?_⟩) (by assumption) ?_
      rotate_left
      · (intro wS hSw; (try dsimp only at hSw); go_simp; (try with_reducible rfl))
      try simp only [Act.put, List.setIfInBounds_toArray, List.set_cons_zero, List.set_cons_succ]
      refine wpAnyH_take (i := 2) (oi := { dst := some 25, op := Op.indexAddr 22 (Operand.tmp 23) (Operand.tmp 24), type := 0, pos := "ref.go:61", after := #[{ on := 0, ground := Ground.data }, { on := 1, ground := Ground.data }], guard := none }) (v := ?_) rfl (by kernel_rfl) (by kernel_rfl) (by kernel_rfl) (fun _ _ _ h => h) (Or.inl ⟨by rfl, ?_⟩) (by assumption) ?_
      rotate_left
      · (intro wS hSw; (try dsimp only at hSw); go_simp; (try with_reducible rfl))
      try simp only [Act.put, List.setIfInBounds_toArray, List.set_cons_zero, List.set_cons_succ]
      refine wpAnyH_take (i := 3) (oi := { dst := some 26, op := Op.load 5 (Operand.tmp 25), type := 5, pos := "ref.go:61", after := #[{ on := 2, ground := Ground.data }], guard := none }) (v := ?_) rfl (by kernel_rfl) (by kernel_rfl) (by kernel_rfl) (fun _ _ _ h => h) (Or.inl ⟨by rfl, ?_⟩) (by assumption) ?_
      rotate_left
      · (intro wS hSw; (try dsimp only at hSw); go_simp; (try with_reducible rfl))
      try simp only [Act.put, List.setIfInBounds_toArray, List.set_cons_zero, List.set_cons_succ]
      refine wpAnyH_take (i := 4) (oi := { dst := some 27, op := Op.binOp BinOp.quo 5 (Operand.tmp 26) (Operand.const (Value.int IntKind.u8 16)) 5, type := 5, pos := "ref.go:61", after := #[{ on := 3, ground := Ground.data }], guard := none }) (v := ?_) rfl (by kernel_rfl) (by kernel_rfl) (by kernel_rfl) (fun _ _ _ h => h) (Or.inl ⟨by rfl, ?_⟩) (by assumption) ?_
      rotate_left
      · (intro wS hSw; (try dsimp only at hSw); go_simp; (try with_reducible rfl))
      try simp only [Act.put, List.setIfInBounds_toArray, List.set_cons_zero, List.set_cons_succ]
      refine wpAnyH_take (i := 5) (oi := { dst := some 28, op := Op.convert 5 3 (Operand.tmp 27), type := 3, pos := "ref.go:61", after := #[{ on := 4, ground := Ground.data }], guard := none }) (v := ?_) rfl (by kernel_rfl) (by kernel_rfl) (by kernel_rfl) (fun _ _ _ h => h) (Or.inl ⟨by rfl, ?_⟩) (by assumption) ?_
      rotate_left
      · (intro wS hSw; (try dsimp only at hSw); go_simp; (try with_reducible rfl))
      try simp only [Act.put, List.setIfInBounds_toArray, List.set_cons_zero, List.set_cons_succ]
      refine wpAnyH_take (i := 6) (oi := { dst := some 29, op := Op.move (Operand.tmp 0), type := 22, pos := "ref.go:61", after := #[], guard := none }) (v := ?_) rfl (by kernel_rfl) (by kernel_rfl) (by kernel_rfl) (fun _ _ _ h => h) (Or.inl ⟨by rfl, ?_⟩) (by assumption) ?_
      rotate_left
      · (intro wS hSw; (try dsimp only at hSw); go_simp; (try with_reducible rfl))
      try simp only [Act.put, List.setIfInBounds_toArray, List.set_cons_zero, List.set_cons_succ]
      refine wpAnyH_take (i := 7) (oi := { dst := some 30, op := Op.move (Operand.tmp 5), type := 3, pos := "ref.go:61", after := #[], guard := none }) (v := ?_) rfl (by kernel_rfl) (by kernel_rfl) (by kernel_rfl) (fun _ _ _ h => h) (Or.inl ⟨by rfl, ?_⟩) (by assumption) ?_
      rotate_left
      · (intro wS hSw; (try dsimp only at hSw); go_simp; (try with_reducible rfl))
      try simp only [Act.put, List.setIfInBounds_toArray, List.set_cons_zero, List.set_cons_succ]
      refine wpAnyH_take (i := 8) (oi := { dst := some 31, op := Op.indexAddr 22 (Operand.tmp 29) (Operand.tmp 30), type := 0, pos := "ref.go:61", after := #[{ on := 6, ground := Ground.data }, { on := 7, ground := Ground.data }], guard := none }) (v := ?_) rfl (by kernel_rfl) (by kernel_rfl) (by kernel_rfl) (fun _ _ _ h => h) (Or.inl ⟨by rfl, ?_⟩) (by assumption) ?_
      rotate_left
      · (intro wS hSw; (try dsimp only at hSw); go_simp; (try with_reducible rfl))
      try simp only [Act.put, List.setIfInBounds_toArray, List.set_cons_zero, List.set_cons_succ]
      refine wpAnyH_take (i := 9) (oi := { dst := some 32, op := Op.load 5 (Operand.tmp 31), type := 5, pos := "ref.go:61", after := #[{ on := 8, ground := Ground.data }], guard := none }) (v := ?_) rfl (by kernel_rfl) (by kernel_rfl) (by kernel_rfl) (fun _ _ _ h => h) (Or.inl ⟨by rfl, ?_⟩) (by assumption) ?_
      rotate_left
      · (intro wS hSw; (try dsimp only at hSw); go_simp; (try with_reducible rfl))
      try simp only [Act.put, List.setIfInBounds_toArray, List.set_cons_zero, List.set_cons_succ]
      refine wpAnyH_take (i := 10) (oi := { dst := some 33, op := Op.binOp BinOp.rem 5 (Operand.tmp 32) (Operand.const (Value.int IntKind.u8 16)) 5, type := 5, pos := "ref.go:61", after := #[{ on := 9, ground := Ground.data }], guard := none }) (v := ?_) rfl (by kernel_rfl) (by kernel_rfl) (by kernel_rfl) (fun _ _ _ h => h) (Or.inl ⟨by rfl, ?_⟩) (by assumption) ?_
      rotate_left
      · (intro wS hSw; (try dsimp only at hSw); go_simp; (try with_reducible rfl))
      try simp only [Act.put, List.setIfInBounds_toArray, List.set_cons_zero, List.set_cons_succ]
      refine wpAnyH_take (i := 11) (oi := { dst := some 34, op := Op.convert 5 3 (Operand.tmp 33), type := 3, pos := "ref.go:61", after := #[{ on := 10, ground := Ground.data }], guard := none }) (v := ?_) rfl (by kernel_rfl) (by kernel_rfl) (by kernel_rfl) (fun _ _ _ h => h) (Or.inl ⟨by rfl, ?_⟩) (by assumption) ?_
      rotate_left
      · (intro wS hSw; (try dsimp only at hSw); go_simp; (try with_reducible rfl))
      try simp only [Act.put, List.setIfInBounds_toArray, List.set_cons_zero, List.set_cons_succ]
      refine wpAnyH_take (i := 12) (oi := { dst := some 35, op := Op.build 44 #[(0, Operand.tmp 28), (1, Operand.tmp 34)], type := 44, pos := "ref.go:61", after := #[{ on := 5, ground := Ground.data }, { on := 11, ground := Ground.data }], guard := none }) (v := ?_) rfl (by kernel_rfl) (by kernel_rfl) (by kernel_rfl) (fun _ _ _ h => h) (Or.inl ⟨by rfl, ?_⟩) (by assumption) ?_
      rotate_left
      · (intro wS hSw; (try dsimp only at hSw); go_simp; (try with_reducible rfl))
      try simp only [Act.put, List.setIfInBounds_toArray, List.set_cons_zero, List.set_cons_succ]
      refine wpAnyH_ready (rs := [13]) (by kernel_rfl) (by simp) ?_
      refine AllReadyH.cons (o := { dst := some 6, op := Op.alloc 44, type := 0, pos := "ref.go:61", after := #[], guard := none }) rfl (fun K hK => ?_) AllReadyH.nil
      refine wp_allocst rfl ?_
      intro wX g HX hgX hbX
      have z0X := (hbX.cell (p := ⟨b1, o1 + at1, none⟩) (by have := hB.size; exact Nat.lt_of_lt_of_le lb1 this)).trans z0
      have HSX := (hS.below (Below.refl _ wr).drew).below hbX
      have hvg : (Value.slice A2 es.length c2).ownBlock ≠ some g := own_ne hS.row (by rw [hgX]; exact Nat.le_refl _)
      have heg : ∀ e ∈ es, e.2.ownBlock ≠ some g := fun e he => own_ne (hS.pts e he) (by rw [hgX]; exact Nat.le_refl _)
      have HBX : Below w.heap.size w wX := hB.drew.trans (hbX.mono hB.size)
      have hgb : w.heap.size ≤ g := by have := hB.size; rw [hgX]; exact this
      have y0 := HX.cell_ 0
      have y1 := HX.cell_ 1
      have y2 := HX.cell_ 2
      simp at y0 y1 y2
      have y9 := HX.free
      clear hbX hgX
      refine hK.out _ _ ?_ (fun hNew => ?_)
      · (first | exact z0 | exact z0X | (show _ = _; rw [cell_far3 (Nat.ne_of_lt (Nat.lt_of_lt_of_le lb1 hgb))]; exact z0X) | assumption)
      clear hK K hHeld
      have hHeld := hNew
      clear hNew
      try simp only [Act.put, List.setIfInBounds_toArray, List.set_cons_zero, List.set_cons_succ]
      refine wpAnyH_ready (rs := [14]) (by kernel_rfl) (by simp) ?_
      refine AllReadyH.cons (o := { dst := none, op := Op.store 44 (Operand.tmp 6) (Operand.tmp 35), type := 0, pos := "ref.go:61", after := #[{ on := 13, ground := Ground.data }, { on := 12, ground := Ground.data }, { on := 0, ground := Ground.phase }, { on := 1, ground := Ground.phase }, { on := 2, ground := Ground.phase }, { on := 3, ground := Ground.phase }, { on := 4, ground := Ground.phase }, { on := 5, ground := Ground.phase }, { on := 6, ground := Ground.phase }, { on := 7, ground := Ground.phase }, { on := 8, ground := Ground.phase }, { on := 9, ground := Ground.phase }, { on := 10, ground := Ground.phase }, { on := 11, ground := Ground.phase }, { on := 12, ground := Ground.phase }, { on := 13, ground := Ground.phase }], guard := none }) rfl (fun K hK => ?_) AllReadyH.nil
      go_simp
      refine hK.out _ _ ?_ (fun hNew => ?_)
      · (first | exact z0 | exact z0X | (show _ = _; rw [cell_far3 (Nat.ne_of_lt (Nat.lt_of_lt_of_le lb1 hgb))]; exact z0X) | assumption)
      clear hK K hHeld
      have hHeld := hNew
      clear hNew
      try simp only [Act.put, List.setIfInBounds_toArray, List.set_cons_zero, List.set_cons_succ]
      refine wpAnyH_done (by kernel_rfl) ?_ _
      refine NoPanic.normal ?_
      clear hHeld
      obtain ⟨wq, hwq, HWQ, HXQ, HSQ⟩ := stR_facts px qx HX HSX hvg heg
      have HBQ := HBX.trans (HWQ.mono hgb)
      have HWH := Lib.hid hwq
      clear hwq
      rw [← HWH.out]
      clear HWH y0 y1 y2 y9 z0X HX HSX HBX HWQ
      have z1q := (HBQ.cell (p := ⟨b1, o1 + (at1 + 1), none⟩) lb1).trans z1w
      go_wp2_with fail
      go_loopw [5, 8] (fun s5 s8 wy => ∃ (k at2 : Nat) (q : Value) (ps : List Pt) (rest : List Nat), k ≤ kk ∧ s8 = .int .i64 (k : Int) ∧ s5 = .int .i64 (at2 : Int) ∧ at1 + 2 ≤ at2 ∧ at2 ≤ n ∧ Hid (b.drop at2 = rest) ∧ Hid (lrP (kk - k) rest ps = lrP kk bs []) ∧ Hid (ps.length = k) ∧ Blk wy g 44 #[.int .i64 px, .int .i64 qx, q] ∧ RowP wy w.heap.size q ps ∧ Ap q (.slice A2 es.length c2) ∧ (∀ e ∈ es, Ap e.2 q) ∧ q.ownBlock ≠ some g ∧ RowS wy w.heap.size (.slice A2 es.length c2) es ∧ Below w.heap.size w wy) (fun _ s8 _ => kk - (iOf s8).toNat)
      case atStart => exact ⟨0, at1 + 2, _, [], bs, Nat.zero_le _, rfl, rfl, Nat.le_refl _, by omega, Lib.hid (by rw [← List.drop_drop, HBS.out]; rfl), Lib.hid rfl, Lib.hid rfl, HXQ, RowP.nil_ _ _, Ap.nil_ _, (fun e he => Ap.nil2 _), (by simp [Value.ownBlock]), HSQ, HBQ⟩
      case round =>
        obtain ⟨k, at2, q, ps, rest, hk, rfl, rfl, hat, hat2, HR, HLP, HPL, HXB, HPR, hav, hae, hqg, HSR, hB2⟩ := hrel
        obtain ⟨-, A3, c3, hq3⟩ := own_slP HPR
        have hq3' := hq3.symm
        subst hq3'
        have k0 : (0 : Int) ≤ (k : Int) := by omega
        have k9 : (k : Int) ≤ 255 := by omega
        have a0 : (0 : Int) ≤ (at2 : Int) := by omega
        by_cases hin : k < kk ∧ at2 + 3 < n
        · obtain ⟨hin1, hin2⟩ := hin
          obtain ⟨a, cc, d, e, bs2, hbs2⟩ : ∃ a cc d e bs2, rest = a :: cc :: d :: e :: bs2 := by
            have hl : rest.length = n - at2 := by rw [← HR.out, List.length_drop, HN.out.1]
            match rest, hl with
            | [], hl => simp at hl; omega
            | [_], hl => simp at hl; omega
            | [_, _], hl => simp at hl; omega
            | [_, _, _], hl => simp at hl; omega
            | x :: y :: z :: t :: r, _ => exact ⟨x, y, z, t, r, rfl⟩
          subst hbs2
          have hget : ∀ j, b[at2 + j]? = (a :: cc :: d :: e :: bs2)[j]? := fun j => by rw [← HR.out, List.getElem?_drop]
          have ha8 : a < 256 := HN.out.2 a (List.mem_of_getElem? (hget 0))
          have hc8 : cc < 256 := HN.out.2 cc (List.mem_of_getElem? (hget 1))
          have hd8 : d < 256 := HN.out.2 d (List.mem_of_getElem? (hget 2))
          have he8 : e < 256 := HN.out.2 e (List.mem_of_getElem? (hget 3))
          have y0 := (hB2.cell (p := ⟨b1, o1 + at2, none⟩) lb1).trans (q1 at2 (byteV a) (by rw [List.getElem?_map, show b[at2]? = some a from hget 0]; rfl))
          have y1 := (hB2.cell (p := ⟨b1, o1 + (at2 + 1), none⟩) lb1).trans (q1 (at2 + 1) (byteV cc) (by rw [List.getElem?_map, show b[at2 + 1]? = some cc from hget 1]; rfl))
          have y2 := (hB2.cell (p := ⟨b1, o1 + (at2 + 2), none⟩) lb1).trans (q1 (at2 + 2) (byteV d) (by rw [List.getElem?_map, show b[at2 + 2]? = some d from hget 2]; rfl))
          have y3 := (hB2.cell (p := ⟨b1, o1 + (at2 + 3), none⟩) lb1).trans (q1 (at2 + 3) (byteV e) (by rw [List.getElem?_map, show b[at2 + 3]? = some e from hget 3]; rfl))
          unfold byteV at y0 y1 y2 y3
          obtain ⟨Z1, hZ1⟩ : ∃ z, ptz a cc = z := ⟨_, rfl⟩
          obtain ⟨Z2, hZ2⟩ : ∃ z, ptz d e = z := ⟨_, rfl⟩
          have r1 := w16_1 a ha8
          have r2 := w16_2 a ha8
          have r3 := w16_1 cc hc8
          have r4 := w16_3 a cc ha8 hc8
          have r5 := w16_4 a cc ha8 hc8
          have r6 := w16_1 d hd8
          have r7 := w16_2 d hd8
          have r8 := w16_1 e he8
          have r9 := w16_3 d e hd8 he8
          have r10 := w16_4 d e hd8 he8
          have r11 := ofInt_c (ptz a cc) (ptz_sm a cc)
          have r12 := ofInt_c (ptz d e) (ptz_sm d e)
          rw [hZ1] at r5 r11
          rw [hZ2] at r10 r12
          have HZV : Hid (ptV (a, cc, d, e) = .complex .f64 (F Z1) (F Z2)) := Lib.hid (by unfold ptV; dsimp only; rw [hZ1, hZ2])
          have s1 : (k : Int) < (kk : Int) := by omega
          have s2 : (at2 : Int) + 3 < (n : Int) := by omega
          have s3 : (n : Int) ≤ 1000 := by omega
          have s4 : at2 < n := by omega
          have s5 : (at2 : Int) < (n : Int) := by omega
          have s6 : (at2 : Int) + 1 < (n : Int) := by omega
          have s7 : (at2 : Int) + 2 < (n : Int) := by omega
          have s8 : at2 + 1 < n := by omega
          have s9 : at2 + 2 < n := by omega
          have t1 : IntKind.i64.wrap ((at2 : Int) + 1) = (at2 : Int) + 1 := IntWalk.i64_in _ (by omega)
          have t2 : IntKind.i64.wrap ((at2 : Int) + 2) = (at2 : Int) + 2 := IntWalk.i64_in _ (by omega)
          have t3 : IntKind.i64.wrap ((at2 : Int) + 3) = (at2 : Int) + 3 := IntWalk.i64_in _ (by omega)
          have t4 : ((at2 : Int) + 1).toNat = at2 + 1 := by omega
          have t5 : ((at2 : Int) + 2).toNat = at2 + 2 := by omega
          have t6 : ((at2 : Int) + 3).toNat = at2 + 3 := by omega
          have t7 : (0 : Int) ≤ (at2 : Int) + 1 := by omega
          have t8 : (0 : Int) ≤ (at2 : Int) + 2 := by omega
          have t9 : (0 : Int) ≤ (at2 : Int) + 3 := by omega
          clear hget hZ1 hZ2
          go_upto_region 10 with fail
          refine wp_region_noPanic ?_
          refine wp_region_held_drew (S := (fun w' => w'.cell? ⟨b1, o1 + at2, none⟩ = some (.int .u8 (a : Int)) ∧ w'.cell? ⟨b1, o1 + (at2 + 1), none⟩ = some (.int .u8 (cc : Int)))) (by kernel_rfl) ?_ (fun hHeld => ?_)
          · (first | exact ⟨y0, y1⟩ | assumption)
          refine wpAnyH_take (i := 0) (oi := { dst := some 56, op := Op.move (Operand.tmp 0), type := 22, pos := "ref.go:65", after := #[], guard := none }) (v := ?_) rfl (by kernel_rfl) (by kernel_rfl) (by kernel_rfl) (fun _ _ _ h => h) (Or.inl ⟨by rfl, ?_⟩) (by assumption) ?_
          rotate_left
          · (intro wS hSw; (try dsimp only at hSw); go_simp; (try with_reducible rfl))
          try simp only [Act.put, List.setIfInBounds_toArray, List.set_cons_zero, List.set_cons_succ]
          refine wpAnyH_take (i := 1) (oi := { dst := some 57, op := Op.move (Operand.tmp 5), type := 3, pos := "ref.go:65", after := #[], guard := none }) (v := ?_) rfl (by kernel_rfl) (by kernel_rfl) (by kernel_rfl) (fun _ _ _ h => h) (Or.inl ⟨by rfl, ?_⟩) (by assumption) ?_
          rotate_left
          · (intro wS hSw; (try dsimp only at hSw); go_simp; (try with_reducible rfl))
          try simp only [Act.put, List.setIfInBounds_toArray, List.set_cons_zero, List.set_cons_succ]
          refine wpAnyH_take (i := 2) (oi := { dst := some 58, op := Op.indexAddr 22 (Operand.tmp 56) (Operand.tmp 57), type := 0, pos := "ref.go:65", after := #[{ on := 0, ground := Ground.data }, { on := 1, ground := Ground.data }], guard := none }) (v := ?_) rfl (by kernel_rfl) (by kernel_rfl) (by kernel_rfl) (fun _ _ _ h => h) (Or.inl ⟨by rfl, ?_⟩) (by assumption) ?_
          rotate_left
          · (intro wS hSw; (try dsimp only at hSw); go_simp; (try with_reducible rfl))
          try simp only [Act.put, List.setIfInBounds_toArray, List.set_cons_zero, List.set_cons_succ]
          refine wpAnyH_take (i := 3) (oi := { dst := some 59, op := Op.load 5 (Operand.tmp 58), type := 5, pos := "ref.go:65", after := #[{ on := 2, ground := Ground.data }], guard := none }) (v := ?_) rfl (by kernel_rfl) (by kernel_rfl) (by kernel_rfl) (fun _ _ _ h => h) (Or.inl ⟨by rfl, ?_⟩) (by assumption) ?_
          rotate_left
          · (intro wS hSw; (try dsimp only at hSw); go_simp; (try with_reducible rfl))
          try simp only [Act.put, List.setIfInBounds_toArray, List.set_cons_zero, List.set_cons_succ]
          refine wpAnyH_take (i := 4) (oi := { dst := some 60, op := Op.convert 5 51 (Operand.tmp 59), type := 51, pos := "ref.go:65", after := #[{ on := 3, ground := Ground.data }], guard := none }) (v := ?_) rfl (by kernel_rfl) (by kernel_rfl) (by kernel_rfl) (fun _ _ _ h => h) (Or.inl ⟨by rfl, ?_⟩) (by assumption) ?_
          rotate_left
          · (intro wS hSw; (try dsimp only at hSw); go_simp; (try with_reducible rfl))
          try simp only [Act.put, List.setIfInBounds_toArray, List.set_cons_zero, List.set_cons_succ]
          refine wpAnyH_take (i := 5) (oi := { dst := some 61, op := Op.binOp BinOp.mul 51 (Operand.tmp 60) (Operand.const (Value.int IntKind.u16 256)) 51, type := 51, pos := "ref.go:65", after := #[{ on := 4, ground := Ground.data }], guard := none }) (v := ?_) rfl (by kernel_rfl) (by kernel_rfl) (by kernel_rfl) (fun _ _ _ h => h) (Or.inl ⟨by rfl, ?_⟩) (by assumption) ?_
          rotate_left
          · (intro wS hSw; (try dsimp only at hSw); go_simp; (try with_reducible rfl))
          try simp only [Act.put, List.setIfInBounds_toArray, List.set_cons_zero, List.set_cons_succ]
          refine wpAnyH_take (i := 6) (oi := { dst := some 62, op := Op.move (Operand.tmp 0), type := 22, pos := "ref.go:65", after := #[], guard := none }) (v := ?_) rfl (by kernel_rfl) (by kernel_rfl) (by kernel_rfl) (fun _ _ _ h => h) (Or.inl ⟨by rfl, ?_⟩) (by assumption) ?_
          rotate_left
          · (intro wS hSw; (try dsimp only at hSw); go_simp; (try with_reducible rfl))
          try simp only [Act.put, List.setIfInBounds_toArray, List.set_cons_zero, List.set_cons_succ]
          refine wpAnyH_take (i := 7) (oi := { dst := some 63, op := Op.move (Operand.tmp 5), type := 3, pos := "ref.go:65", after := #[], guard := none }) (v := ?_) rfl (by kernel_rfl) (by kernel_rfl) (by kernel_rfl) (fun _ _ _ h => h) (Or.inl ⟨by rfl, ?_⟩) (by assumption) ?_
          rotate_left
          · (intro wS hSw; (try dsimp only at hSw); go_simp; (try with_reducible rfl))
          try simp only [Act.put, List.setIfInBounds_toArray, List.set_cons_zero, List.set_cons_succ]
          refine wpAnyH_take (i := 8) (oi := { dst := some 64, op := Op.binOp BinOp.add 3 (Operand.tmp 63) (Operand.const (Value.int IntKind.i64 1)) 3, type := 3, pos := "ref.go:65", after := #[{ on := 7, ground := Ground.data }], guard := none }) (v := ?_) rfl (by kernel_rfl) (by kernel_rfl) (by kernel_rfl) (fun _ _ _ h => h) (Or.inl ⟨by rfl, ?_⟩) (by assumption) ?_
          rotate_left
          · (intro wS hSw; (try dsimp only at hSw); go_simp; (try with_reducible rfl))
          try simp only [Act.put, List.setIfInBounds_toArray, List.set_cons_zero, List.set_cons_succ]
          refine wpAnyH_take (i := 9) (oi := { dst := some 65, op := Op.indexAddr 22 (Operand.tmp 62) (Operand.tmp 64), type := 0, pos := "ref.go:65", after := #[{ on := 6, ground := Ground.data }, { on := 8, ground := Ground.data }], guard := none }) (v := ?_) rfl (by kernel_rfl) (by kernel_rfl) (by kernel_rfl) (fun _ _ _ h => h) (Or.inl ⟨by rfl, ?_⟩) (by assumption) ?_
          rotate_left
          · (intro wS hSw; (try dsimp only at hSw); go_simp; (try with_reducible rfl))
          try simp only [Act.put, List.setIfInBounds_toArray, List.set_cons_zero, List.set_cons_succ]
          refine wpAnyH_take (i := 10) (oi := { dst := some 66, op := Op.load 5 (Operand.tmp 65), type := 5, pos := "ref.go:65", after := #[{ on := 9, ground := Ground.data }], guard := none }) (v := ?_) rfl (by kernel_rfl) (by kernel_rfl) (by kernel_rfl) (fun _ _ _ h => h) (Or.inl ⟨by rfl, ?_⟩) (by assumption) ?_
          rotate_left
          · (intro wS hSw; (try dsimp only at hSw); go_simp; (try with_reducible rfl))
          try simp only [Act.put, List.setIfInBounds_toArray, List.set_cons_zero, List.set_cons_succ]
          refine wpAnyH_take (i := 11) (oi := { dst := some 67, op := Op.convert 5 51 (Operand.tmp 66), type := 51, pos := "ref.go:65", after := #[{ on := 10, ground := Ground.data }], guard := none }) (v := ?_) rfl (by kernel_rfl) (by kernel_rfl) (by kernel_rfl) (fun _ _ _ h => h) (Or.inl ⟨by rfl, ?_⟩) (by assumption) ?_
          rotate_left
          · (intro wS hSw; (try dsimp only at hSw); go_simp; (try with_reducible rfl))
          try simp only [Act.put, List.setIfInBounds_toArray, List.set_cons_zero, List.set_cons_succ]
          refine wpAnyH_take (i := 12) (oi := { dst := some 68, op := Op.binOp BinOp.add 51 (Operand.tmp 61) (Operand.tmp 67) 51, type := 51, pos := "ref.go:65", after := #[{ on := 5, ground := Ground.data }, { on := 11, ground := Ground.data }], guard := none }) (v := ?_) rfl (by kernel_rfl) (by kernel_rfl) (by kernel_rfl) (fun _ _ _ h => h) (Or.inl ⟨by rfl, ?_⟩) (by assumption) ?_
          rotate_left
          · (intro wS hSw; (try dsimp only at hSw); go_simp; (try with_reducible rfl))
          try simp only [Act.put, List.setIfInBounds_toArray, List.set_cons_zero, List.set_cons_succ]
          refine wpAnyH_take (i := 13) (oi := { dst := some 69, op := Op.convert 51 50 (Operand.tmp 68), type := 50, pos := "ref.go:65", after := #[{ on := 12, ground := Ground.data }], guard := none }) (v := ?_) rfl (by kernel_rfl) (by kernel_rfl) (by kernel_rfl) (fun _ _ _ h => h) (Or.inl ⟨by rfl, ?_⟩) (by assumption) ?_
          rotate_left
          · (intro wS hSw; (try dsimp only at hSw); go_simp; (try with_reducible rfl))
          try simp only [Act.put, List.setIfInBounds_toArray, List.set_cons_zero, List.set_cons_succ]
          refine wpAnyH_take (i := 14) (oi := { dst := some 9, op := Op.assign (Operand.tmp 69), type := 50, pos := "ref.go:65", after := #[{ on := 13, ground := Ground.data }, { on := 0, ground := Ground.phase }, { on := 1, ground := Ground.phase }, { on := 2, ground := Ground.phase }, { on := 3, ground := Ground.phase }, { on := 4, ground := Ground.phase }, { on := 5, ground := Ground.phase }, { on := 6, ground := Ground.phase }, { on := 7, ground := Ground.phase }, { on := 8, ground := Ground.phase }, { on := 9, ground := Ground.phase }, { on := 10, ground := Ground.phase }, { on := 11, ground := Ground.phase }, { on := 12, ground := Ground.phase }, { on := 13, ground := Ground.phase }], guard := none }) (v := ?_) rfl (by kernel_rfl) (by kernel_rfl) (by kernel_rfl) (fun _ _ _ h => h) (Or.inl ⟨by rfl, ?_⟩) (by assumption) ?_
          rotate_left
          · (intro wS hSw; (try dsimp only at hSw); go_simp; (try with_reducible rfl))
          try simp only [Act.put, List.setIfInBounds_toArray, List.set_cons_zero, List.set_cons_succ]
          refine wpAnyH_done (by kernel_rfl) ?_ _
          refine NoPanic.normal ?_
          clear hHeld
          go_upto_region 11 with fail
          refine wp_region_noPanic ?_
          refine wp_region_held_drew (S := (fun w' => w'.cell? ⟨b1, o1 + (at2 + 2), none⟩ = some (.int .u8 (d : Int)) ∧ w'.cell? ⟨b1, o1 + (at2 + 3), none⟩ = some (.int .u8 (e : Int)))) (by kernel_rfl) ?_ (fun hHeld => ?_)
          · (first | exact ⟨y2, y3⟩ | assumption)
          refine wpAnyH_take (i := 0) (oi := { dst := some 70, op := Op.move (Operand.tmp 0), type := 22, pos := "ref.go:66", after := #[], guard := none }) (v := ?_) rfl (by kernel_rfl) (by kernel_rfl) (by kernel_rfl) (fun _ _ _ h => h) (Or.inl ⟨by rfl, ?_⟩) (by assumption) ?_
          rotate_left
          · (intro wS hSw; (try dsimp only at hSw); go_simp; (try with_reducible rfl))
          try simp only [Act.put, List.setIfInBounds_toArray, List.set_cons_zero, List.set_cons_succ]
          refine wpAnyH_take (i := 1) (oi := { dst := some 71, op := Op.move (Operand.tmp 5), type := 3, pos := "ref.go:66", after := #[], guard := none }) (v := ?_) rfl (by kernel_rfl) (by kernel_rfl) (by kernel_rfl) (fun _ _ _ h => h) (Or.inl ⟨by rfl, ?_⟩) (by assumption) ?_
          rotate_left
          · (intro wS hSw; (try dsimp only at hSw); go_simp; (try with_reducible rfl))
          try simp only [Act.put, List.setIfInBounds_toArray, List.set_cons_zero, List.set_cons_succ]
          refine wpAnyH_take (i := 2) (oi := { dst := some 72, op := Op.binOp BinOp.add 3 (Operand.tmp 71) (Operand.const (Value.int IntKind.i64 2)) 3, type := 3, pos := "ref.go:66", after := #[{ on := 1, ground := Ground.data }], guard := none }) (v := ?_) rfl (by kernel_rfl) (by kernel_rfl) (by kernel_rfl) (fun _ _ _ h => h) (Or.inl ⟨by rfl, ?_⟩) (by assumption) ?_
          rotate_left
          · (intro wS hSw; (try dsimp only at hSw); go_simp; (try with_reducible rfl))
          try simp only [Act.put, List.setIfInBounds_toArray, List.set_cons_zero, List.set_cons_succ]
          refine wpAnyH_take (i := 3) (oi := { dst := some 73, op := Op.indexAddr 22 (Operand.tmp 70) (Operand.tmp 72), type := 0, pos := "ref.go:66", after := #[{ on := 0, ground := Ground.data }, { on := 2, ground := Ground.data }], guard := none }) (v := ?_) rfl (by kernel_rfl) (by kernel_rfl) (by kernel_rfl) (fun _ _ _ h => h) (Or.inl ⟨by rfl, ?_⟩) (by assumption) ?_
          rotate_left
          · (intro wS hSw; (try dsimp only at hSw); go_simp; (try with_reducible rfl))
          try simp only [Act.put, List.setIfInBounds_toArray, List.set_cons_zero, List.set_cons_succ]
          refine wpAnyH_take (i := 4) (oi := { dst := some 74, op := Op.load 5 (Operand.tmp 73), type := 5, pos := "ref.go:66", after := #[{ on := 3, ground := Ground.data }], guard := none }) (v := ?_) rfl (by kernel_rfl) (by kernel_rfl) (by kernel_rfl) (fun _ _ _ h => h) (Or.inl ⟨by rfl, ?_⟩) (by assumption) ?_
          rotate_left
          · (intro wS hSw; (try dsimp only at hSw); go_simp; (try with_reducible rfl))
          try simp only [Act.put, List.setIfInBounds_toArray, List.set_cons_zero, List.set_cons_succ]
          refine wpAnyH_take (i := 5) (oi := { dst := some 75, op := Op.convert 5 51 (Operand.tmp 74), type := 51, pos := "ref.go:66", after := #[{ on := 4, ground := Ground.data }], guard := none }) (v := ?_) rfl (by kernel_rfl) (by kernel_rfl) (by kernel_rfl) (fun _ _ _ h => h) (Or.inl ⟨by rfl, ?_⟩) (by assumption) ?_
          rotate_left
          · (intro wS hSw; (try dsimp only at hSw); go_simp; (try with_reducible rfl))
          try simp only [Act.put, List.setIfInBounds_toArray, List.set_cons_zero, List.set_cons_succ]
          refine wpAnyH_take (i := 6) (oi := { dst := some 76, op := Op.binOp BinOp.mul 51 (Operand.tmp 75) (Operand.const (Value.int IntKind.u16 256)) 51, type := 51, pos := "ref.go:66", after := #[{ on := 5, ground := Ground.data }], guard := none }) (v := ?_) rfl (by kernel_rfl) (by kernel_rfl) (by kernel_rfl) (fun _ _ _ h => h) (Or.inl ⟨by rfl, ?_⟩) (by assumption) ?_
          rotate_left
          · (intro wS hSw; (try dsimp only at hSw); go_simp; (try with_reducible rfl))
          try simp only [Act.put, List.setIfInBounds_toArray, List.set_cons_zero, List.set_cons_succ]
          refine wpAnyH_take (i := 7) (oi := { dst := some 77, op := Op.move (Operand.tmp 0), type := 22, pos := "ref.go:66", after := #[], guard := none }) (v := ?_) rfl (by kernel_rfl) (by kernel_rfl) (by kernel_rfl) (fun _ _ _ h => h) (Or.inl ⟨by rfl, ?_⟩) (by assumption) ?_
          rotate_left
          · (intro wS hSw; (try dsimp only at hSw); go_simp; (try with_reducible rfl))
          try simp only [Act.put, List.setIfInBounds_toArray, List.set_cons_zero, List.set_cons_succ]
          refine wpAnyH_take (i := 8) (oi := { dst := some 78, op := Op.move (Operand.tmp 5), type := 3, pos := "ref.go:66", after := #[], guard := none }) (v := ?_) rfl (by kernel_rfl) (by kernel_rfl) (by kernel_rfl) (fun _ _ _ h => h) (Or.inl ⟨by rfl, ?_⟩) (by assumption) ?_
          rotate_left
          · (intro wS hSw; (try dsimp only at hSw); go_simp; (try with_reducible rfl))
          try simp only [Act.put, List.setIfInBounds_toArray, List.set_cons_zero, List.set_cons_succ]
          refine wpAnyH_take (i := 9) (oi := { dst := some 79, op := Op.binOp BinOp.add 3 (Operand.tmp 78) (Operand.const (Value.int IntKind.i64 3)) 3, type := 3, pos := "ref.go:66", after := #[{ on := 8, ground := Ground.data }], guard := none }) (v := ?_) rfl (by kernel_rfl) (by kernel_rfl) (by kernel_rfl) (fun _ _ _ h => h) (Or.inl ⟨by rfl, ?_⟩) (by assumption) ?_
          rotate_left
          · (intro wS hSw; (try dsimp only at hSw); go_simp; (try with_reducible rfl))
          try simp only [Act.put, List.setIfInBounds_toArray, List.set_cons_zero, List.set_cons_succ]
          refine wpAnyH_take (i := 10) (oi := { dst := some 80, op := Op.indexAddr 22 (Operand.tmp 77) (Operand.tmp 79), type := 0, pos := "ref.go:66", after := #[{ on := 7, ground := Ground.data }, { on := 9, ground := Ground.data }], guard := none }) (v := ?_) rfl (by kernel_rfl) (by kernel_rfl) (by kernel_rfl) (fun _ _ _ h => h) (Or.inl ⟨by rfl, ?_⟩) (by assumption) ?_
          rotate_left
          · (intro wS hSw; (try dsimp only at hSw); go_simp; (try with_reducible rfl))
          try simp only [Act.put, List.setIfInBounds_toArray, List.set_cons_zero, List.set_cons_succ]
          refine wpAnyH_take (i := 11) (oi := { dst := some 81, op := Op.load 5 (Operand.tmp 80), type := 5, pos := "ref.go:66", after := #[{ on := 10, ground := Ground.data }], guard := none }) (v := ?_) rfl (by kernel_rfl) (by kernel_rfl) (by kernel_rfl) (fun _ _ _ h => h) (Or.inl ⟨by rfl, ?_⟩) (by assumption) ?_
          rotate_left
          · (intro wS hSw; (try dsimp only at hSw); go_simp; (try with_reducible rfl))
          try simp only [Act.put, List.setIfInBounds_toArray, List.set_cons_zero, List.set_cons_succ]
          refine wpAnyH_take (i := 12) (oi := { dst := some 82, op := Op.convert 5 51 (Operand.tmp 81), type := 51, pos := "ref.go:66", after := #[{ on := 11, ground := Ground.data }], guard := none }) (v := ?_) rfl (by kernel_rfl) (by kernel_rfl) (by kernel_rfl) (fun _ _ _ h => h) (Or.inl ⟨by rfl, ?_⟩) (by assumption) ?_
          rotate_left
          · (intro wS hSw; (try dsimp only at hSw); go_simp; (try with_reducible rfl))
          try simp only [Act.put, List.setIfInBounds_toArray, List.set_cons_zero, List.set_cons_succ]
          refine wpAnyH_take (i := 13) (oi := { dst := some 83, op := Op.binOp BinOp.add 51 (Operand.tmp 76) (Operand.tmp 82) 51, type := 51, pos := "ref.go:66", after := #[{ on := 6, ground := Ground.data }, { on := 12, ground := Ground.data }], guard := none }) (v := ?_) rfl (by kernel_rfl) (by kernel_rfl) (by kernel_rfl) (fun _ _ _ h => h) (Or.inl ⟨by rfl, ?_⟩) (by assumption) ?_
          rotate_left
          · (intro wS hSw; (try dsimp only at hSw); go_simp; (try with_reducible rfl))
          try simp only [Act.put, List.setIfInBounds_toArray, List.set_cons_zero, List.set_cons_succ]
          refine wpAnyH_take (i := 14) (oi := { dst := some 84, op := Op.convert 51 50 (Operand.tmp 83), type := 50, pos := "ref.go:66", after := #[{ on := 13, ground := Ground.data }], guard := none }) (v := ?_) rfl (by kernel_rfl) (by kernel_rfl) (by kernel_rfl) (fun _ _ _ h => h) (Or.inl ⟨by rfl, ?_⟩) (by assumption) ?_
          rotate_left
          · (intro wS hSw; (try dsimp only at hSw); go_simp; (try with_reducible rfl))
          try simp only [Act.put, List.setIfInBounds_toArray, List.set_cons_zero, List.set_cons_succ]
          refine wpAnyH_take (i := 15) (oi := { dst := some 10, op := Op.assign (Operand.tmp 84), type := 50, pos := "ref.go:66", after := #[{ on := 14, ground := Ground.data }, { on := 0, ground := Ground.phase }, { on := 1, ground := Ground.phase }, { on := 2, ground := Ground.phase }, { on := 3, ground := Ground.phase }, { on := 4, ground := Ground.phase }, { on := 5, ground := Ground.phase }, { on := 6, ground := Ground.phase }, { on := 7, ground := Ground.phase }, { on := 8, ground := Ground.phase }, { on := 9, ground := Ground.phase }, { on := 10, ground := Ground.phase }, { on := 11, ground := Ground.phase }, { on := 12, ground := Ground.phase }, { on := 13, ground := Ground.phase }, { on := 14, ground := Ground.phase }], guard := none }) (v := ?_) rfl (by kernel_rfl) (by kernel_rfl) (by kernel_rfl) (fun _ _ _ h => h) (Or.inl ⟨by rfl, ?_⟩) (by assumption) ?_
          rotate_left
          · (intro wS hSw; (try dsimp only at hSw); go_simp; (try with_reducible rfl))
          try simp only [Act.put, List.setIfInBounds_toArray, List.set_cons_zero, List.set_cons_succ]
          refine wpAnyH_done (by kernel_rfl) ?_ _
          refine NoPanic.normal ?_
          clear hHeld r1 r2 r3 r4 r5 r6 r7 r8 r9 r10 t1 t2 t3 t4 t5 t6 t7 t8 t9 y0 y1 y2 y3 s4 s5 s6 s7 s8 s9
          have k16 : ps.length ≤ 255 := by have := HPL.out; omega
          have v2x := HXB.cell_ 2
          simp at v2x
          have v9x := HXB.free
          have HXd : Blk wr.drew.drew g 44 #[.int .i64 px, .int .i64 qx, .slice A3 ps.length c3] := HXB
          have HPd := HPR.below (Below.refl _ wr).drew.drew
          have HSd := HSR.below (Below.refl _ wr).drew.drew
          have HBd := hB2.drew.drew
          clear HXB HPR HSR hB2
          go_wp2_with (at_builtin; obtain ⟨ti0, hi, hz0, hz1, hz2⟩ := info_parts infoCx; refine wpList_app _ rfl (.tmp 86) (.tmp 92) 42 rfl w.heap.size 41 ti0 _ 1 16 Try.underlying42 hi hz0 hz1 hz2 rfl (by decide) (.slice A3 ps.length c3) ps.length (ps.map ptV) rfl (rowP_n (HPd.alloc_ _) rfl) _ 1 1 [.complex .f64 (F Z1) (F Z2)] rfl (Rd.one ((Blk.new_ _ _ _).cell_ 0)) (by intro u hu; simp at hu; subst hu; rfl) (by unfold maxLen; omega) (by omega) (by have := HBd.size; simp at this ⊢; omega) ?_; intro v2 w2 ho2 hg2 hv2; rw [← HZV.out] at ho2; obtain ⟨HX2, wz, hwz, HBZ, HXZ, HPZ, hZv, hZe, hZg, HSZ⟩ := rpt_facts (HXd.alloc_ _) (HPd.alloc_ _) (HSd.alloc_ _) hav hae hqg hvg heg hgb ho2 hg2 hv2 (by have := HBd.size; simp at this ⊢; omega); obtain ⟨-, A4, c4, hv4⟩ := own_slP HPZ; obtain ⟨m4, hm4⟩ : ∃ m4, (ps ++ [(a, cc, d, e)]).length = m4 := ⟨_, rfl⟩; rw [hm4] at hv4; subst hv4; clear hm4; have x2 := HX2.cell_ 2; simp at x2; have x9 := HX2.free; have HWZ := Lib.hid hwz; have HBZ2 := (HBd.alloc HBd.size _).trans HBZ; clear hwz ho2 hg2 hv2 HX2 HBZ hi hz0 hz1 hz2)
          rw [← HWZ.out]
          go_roundw
          case rel => exact ⟨k + 1, at2 + 4, _, ps ++ [(a, cc, d, e)], bs2, by omega, by go_num, by go_num, by omega, by omega, Lib.hid (by rw [← List.drop_drop, HR.out]; rfl), Lib.hid (by have h := HLP.out; rw [show kk - k = (kk - (k + 1)) + 1 by omega] at h; exact h), Lib.hid (by rw [List.length_append, HPL.out]; rfl), HXZ, HPZ, hZv, hZe, hZg, HSZ, HBZ2⟩
          case measure => simp [iOf]; omega
      
        · have HST : Hid (lrP kk bs [] = (ps, rest)) := Lib.hid (HLP.out.symm.trans (lrP_stop (by
            have hl : rest.length = n - at2 := by rw [← HR.out, List.length_drop, HN.out.1]
            omega)))
          have k16 : ps.length ≤ 255 := by have := HPL.out; omega
          have hes6 : es.length ≤ 6 := by omega
          have y0 := HXB.cell_ 0
          have y1 := HXB.cell_ 1
          have y2 := HXB.cell_ 2
          simp at y0 y1 y2
          have y9 := HXB.free
          have s3 : (n : Int) ≤ 1000 := by omega
          by_cases hk2 : k < kk
          · have s1 : (k : Int) < (kk : Int) := by omega
            have s2 : ¬ (at2 : Int) + 3 < (n : Int) := by omega
            go_wp2_with (at_builtin; obtain ⟨ti0, hi, hz0, hz1, hz2⟩ := info_parts infoSt; refine wpList_app _ rfl (.tmp 97) (.tmp 99) _ rfl w.heap.size 44 ti0 _ 3 40 Try.underlying26 hi hz0 hz1 hz2 rfl (by decide) (.slice A2 es.length c2) es.length (es.flatMap eC) rfl (rowS_n HSR _) _ 1 _ [.int .i64 px, .int .i64 qx, .slice A3 ps.length c3] rfl (rd_newS _ _ _ _ _ _ rfl) (by simp [Value.oneCell']) (by unfold maxLen; omega) (by omega) (by have := hB2.size; simp; omega) ?_; intro v2 w2 ho2 hg2 hv2)
            have hBw : Below w.heap.size w w2 := (hB2.alloc hB2.size _).trans (below_gr hg2 (rowS_n HSR _) (Nat.le_refl _) (by have := hB2.size; simp; omega))
            obtain ⟨zp, zq⟩ := HPQ.out
            subst zp zq
            have hS2 : RowS w2 w.heap.size v2 (es ++ [((hh, ps), .slice A3 ps.length c3)]) := str_app (HPR.alloc_ _) (HSR.alloc_ _) hav ho2 hg2 hv2
            go_roundw
            case rel => exact ⟨at2, v2, es ++ [((hh, ps), .slice A3 ps.length c3)], by omega, by omega, rfl, rfl, Lib.hid (by have h := HL.out; rw [HBS.out, show 7 - es.length = (7 - (es.length + 1)) + 1 by omega] at h; simp only [lrS] at h; rw [HST.out] at h; rw [HR.out, List.length_append, List.map_append]; exact h), hS2, by rw [List.length_append]; simp; omega, Lib.hid (by
                intro e he
                rcases List.mem_append.1 he with he | he
                · exact hpl.out e he
                · obtain rfl : e = ((hh, ps), .slice A3 ps.length c3) := by simpa using he
                  exact k16), hBw⟩
            case measure => simp [iOf]; omega
          · have s1 : ¬ (k : Int) < (kk : Int) := by omega
            go_wp2_with (at_builtin; obtain ⟨ti0, hi, hz0, hz1, hz2⟩ := info_parts infoSt; refine wpList_app _ rfl (.tmp 97) (.tmp 99) _ rfl w.heap.size 44 ti0 _ 3 40 Try.underlying26 hi hz0 hz1 hz2 rfl (by decide) (.slice A2 es.length c2) es.length (es.flatMap eC) rfl (rowS_n HSR _) _ 1 _ [.int .i64 px, .int .i64 qx, .slice A3 ps.length c3] rfl (rd_newS _ _ _ _ _ _ rfl) (by simp [Value.oneCell']) (by unfold maxLen; omega) (by omega) (by have := hB2.size; simp; omega) ?_; intro v2 w2 ho2 hg2 hv2)
            have hBw : Below w.heap.size w w2 := (hB2.alloc hB2.size _).trans (below_gr hg2 (rowS_n HSR _) (Nat.le_refl _) (by have := hB2.size; simp; omega))
            obtain ⟨zp, zq⟩ := HPQ.out
            subst zp zq
            have hS2 : RowS w2 w.heap.size v2 (es ++ [((hh, ps), .slice A3 ps.length c3)]) := str_app (HPR.alloc_ _) (HSR.alloc_ _) hav ho2 hg2 hv2
            go_roundw
            case rel => exact ⟨at2, v2, es ++ [((hh, ps), .slice A3 ps.length c3)], by omega, by omega, rfl, rfl, Lib.hid (by have h := HL.out; rw [HBS.out, show 7 - es.length = (7 - (es.length + 1)) + 1 by omega] at h; simp only [lrS] at h; rw [HST.out] at h; rw [HR.out, List.length_append, List.map_append]; exact h), hS2, by rw [List.length_append]; simp; omega, Lib.hid (by
                intro e he
                rcases List.mem_append.1 he with he | he
                · exact hpl.out e he
                · obtain rfl : e = ((hh, ps), .slice A3 ps.length c3) := by simpa using he
                  exact k16), hBw⟩
            case measure => simp [iOf]; omega
    · have HF : Hid (lrS 7 (b.drop 1) [] = es.map Prod.fst) := Lib.hid (HL.out.symm.trans (lrS_stop (by rw [List.length_drop, HN.out.1]; omega)))
      have HOK : Hid (∀ e ∈ es, StOk e.1) := Lib.hid (by
        intro e he
        have := lrS_ok 7 (b.drop 1) [] (fun x hx => HN.out.2 x (List.mem_of_mem_drop hx)) (by simp)
        rw [HF.out] at this
        exact this e.1 (List.mem_map_of_mem he))
      have s3 : (n : Int) ≤ 1000 := by omega
      have s4 : (es.length : Int) ≤ 7 := by omega
      by_cases hlt : at1 + 1 < n
      · have s1 : (at1 : Int) + 1 < (n : Int) := by omega
        have s2 : ¬ (es.length : Int) ≤ 6 := by omega
        rcases (by cases hq : mayS (es.map Prod.fst) <;> simp : mayS (es.map Prod.fst) = true ∨ mayS (es.map Prod.fst) = false) with hm | hm
        · have hlay := rlay_ok es es.length A2 c2 wr rfl hsh hm HOK.out
          have HM := Lib.hid hm
          by_cases heq : layB (es.map Prod.fst) = b
          · have HEQ := Lib.hid heq
            obtain ⟨S1, hS2⟩ : ∃ s, toBA b = s := ⟨_, rfl⟩
            have HS1 : Hid (toBA (layB (es.map Prod.fst)) = S1) := Lib.hid (by rw [heq, hS2])
            have HS2 := Lib.hid hS2
            clear hm heq hS2
            go_wp2_with (go_at_call 19; ((with_reducible refine (hlay).mono ?_); rintro e' wN ⟨⟨v9, rfl, hro⟩, hbN⟩; obtain ⟨A9, c9, rfl, hs9⟩ := own_slB hro; have hbW := btr hB hB.size hbN; have hc1 := conv_str (layB (es.map Prod.fst)) _ A9 c9 _ wN rfl hs9; have hc2 := conv_str b n A c _ wN HN.out.1 (h.below hbW); rw [HS1.out] at hc1; rw [HS2.out] at hc2))
            go_ret2
            exact ⟨Or.inl ⟨_, es, by unfold rref; rw [HF.out, if_pos ⟨HM.out, HEQ.out⟩], hS.below hbN, rfl⟩, hbW⟩
          · have HEQ := Lib.hid heq
            obtain ⟨S1, hS1⟩ : ∃ s, toBA (layB (es.map Prod.fst)) = s := ⟨_, rfl⟩
            obtain ⟨S2, hS2⟩ : ∃ s, toBA b = s := ⟨_, rfl⟩
            have hne : ¬ S1 = S2 := by
              rw [← hS1, ← hS2]
              exact fun hc => heq (toBA_inj (layB_8 (fun s hs => by obtain ⟨e, he, rfl⟩ := List.mem_map.1 hs; exact HOK.out e he) hm) HN.out.2 hc)
            have hne2 : (S1.toList == S2.toList) = false := by
              rw [beq_eq_false_iff_ne]
              intro hc
              rw [ByteArray.toList_eq, ByteArray.toList_eq] at hc
              exact hne (ByteArray.ext (Array.toList_inj.1 hc))
            clear hne
            have HS1 := Lib.hid hS1
            have HS2 := Lib.hid hS2
            clear hm heq hS1 hS2
            go_wp2_with (go_at_call 19; ((with_reducible refine (hlay).mono ?_); rintro e' wN ⟨⟨v9, rfl, hro⟩, hbN⟩; obtain ⟨A9, c9, rfl, hs9⟩ := own_slB hro; have hbW := btr hB hB.size hbN; have hc1 := conv_str (layB (es.map Prod.fst)) _ A9 c9 _ wN rfl hs9; have hc2 := conv_str b n A c _ wN HN.out.1 (h.below hbW); rw [HS1.out] at hc1; rw [HS2.out] at hc2))
            go_ret2
            exact ⟨Or.inr ⟨by unfold rref; rw [HF.out, if_neg (fun hc => HEQ.out hc.2)], rfl⟩, hbW⟩
        · have hlay := rlay_no es es.length A2 c2 wr rfl hsh (fun e he => by have := hpl.out e he; omega) (by omega) hm
          have HM := Lib.hid hm
          clear hm
          go_wp2_with (go_at_call 19; ((with_reducible refine (hlay).mono ?_); rintro e' wN ⟨rfl, hbN⟩))
          go_ret2
          exact ⟨Or.inr ⟨by unfold rref; rw [HF.out, if_neg (fun hc => by rw [HM.out] at hc; cases hc.1)], rfl⟩, btr hB hB.size hbN⟩
      · have s1 : ¬ (at1 : Int) + 1 < (n : Int) := by omega
        rcases (by cases hq : mayS (es.map Prod.fst) <;> simp : mayS (es.map Prod.fst) = true ∨ mayS (es.map Prod.fst) = false) with hm | hm
        · have hlay := rlay_ok es es.length A2 c2 wr rfl hsh hm HOK.out
          have HM := Lib.hid hm
          by_cases heq : layB (es.map Prod.fst) = b
          · have HEQ := Lib.hid heq
            obtain ⟨S1, hS2⟩ : ∃ s, toBA b = s := ⟨_, rfl⟩
            have HS1 : Hid (toBA (layB (es.map Prod.fst)) = S1) := Lib.hid (by rw [heq, hS2])
            have HS2 := Lib.hid hS2
            clear hm heq hS2
            go_wp2_with (go_at_call 19; ((with_reducible refine (hlay).mono ?_); rintro e' wN ⟨⟨v9, rfl, hro⟩, hbN⟩; obtain ⟨A9, c9, rfl, hs9⟩ := own_slB hro; have hbW := btr hB hB.size hbN; have hc1 := conv_str (layB (es.map Prod.fst)) _ A9 c9 _ wN rfl hs9; have hc2 := conv_str b n A c _ wN HN.out.1 (h.below hbW); rw [HS1.out] at hc1; rw [HS2.out] at hc2))
            go_ret2
            exact ⟨Or.inl ⟨_, es, by unfold rref; rw [HF.out, if_pos ⟨HM.out, HEQ.out⟩], hS.below hbN, rfl⟩, hbW⟩
          · have HEQ := Lib.hid heq
            obtain ⟨S1, hS1⟩ : ∃ s, toBA (layB (es.map Prod.fst)) = s := ⟨_, rfl⟩
            obtain ⟨S2, hS2⟩ : ∃ s, toBA b = s := ⟨_, rfl⟩
            have hne : ¬ S1 = S2 := by
              rw [← hS1, ← hS2]
              exact fun hc => heq (toBA_inj (layB_8 (fun s hs => by obtain ⟨e, he, rfl⟩ := List.mem_map.1 hs; exact HOK.out e he) hm) HN.out.2 hc)
            have hne2 : (S1.toList == S2.toList) = false := by
              rw [beq_eq_false_iff_ne]
              intro hc
              rw [ByteArray.toList_eq, ByteArray.toList_eq] at hc
              exact hne (ByteArray.ext (Array.toList_inj.1 hc))
            clear hne
            have HS1 := Lib.hid hS1
            have HS2 := Lib.hid hS2
            clear hm heq hS1 hS2
            go_wp2_with (go_at_call 19; ((with_reducible refine (hlay).mono ?_); rintro e' wN ⟨⟨v9, rfl, hro⟩, hbN⟩; obtain ⟨A9, c9, rfl, hs9⟩ := own_slB hro; have hbW := btr hB hB.size hbN; have hc1 := conv_str (layB (es.map Prod.fst)) _ A9 c9 _ wN rfl hs9; have hc2 := conv_str b n A c _ wN HN.out.1 (h.below hbW); rw [HS1.out] at hc1; rw [HS2.out] at hc2))
            go_ret2
            exact ⟨Or.inr ⟨by unfold rref; rw [HF.out, if_neg (fun hc => HEQ.out hc.2)], rfl⟩, hbW⟩
        · have hlay := rlay_no es es.length A2 c2 wr rfl hsh (fun e he => by have := hpl.out e he; omega) (by omega) hm
          have HM := Lib.hid hm
          clear hm
          go_wp2_with (go_at_call 19; ((with_reducible refine (hlay).mono ?_); rintro e' wN ⟨rfl, hbN⟩))
          go_ret2
          exact ⟨Or.inr ⟨by unfold rref; rw [HF.out, if_neg (fun hc => by rw [HM.out] at hc; cases hc.1)], rfl⟩, btr hB hB.size hbN⟩
end Go.Proofs.Ytmnfikfncbppfaa
