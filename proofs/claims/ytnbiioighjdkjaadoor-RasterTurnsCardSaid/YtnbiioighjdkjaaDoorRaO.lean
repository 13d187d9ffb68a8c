/- Rows apart; Move and Draw as the law calls them. -/
import Derived.Test.YtnbiioighjdkjaaDoorRaN
namespace Go.Proofs.YtnbiioighjdkjaaDoor
open Go.ChangeShapes Go.WideShapes Go.ChangeAt Go.RowKit
set_option linter.unusedSimpArgs false
set_option linter.unusedVariables false

theorem own_kept2 {w w' : World} {base : Nat} {e : TypeId} {n : Nat} {v u : Value} {xs : List Value} (h : w.ownsRow base e 1 v n xs) (hg : w.grownBy w' u.ownBlock) (hd : ∀ g, v.ownBlock = some g → u.ownBlock ≠ some g) : w'.ownsRow base e 1 v n xs := by
  refine h.kept hg ?_
  cases hv : v.ownBlock with
  | none => exact Or.inl rfl
  | some g => exact Or.inr (fun he => hd g hv he.symm)
theorem apart_sym {v u : Value} (h : ∀ g, v.ownBlock = some g → u.ownBlock ≠ some g) : ∀ g, u.ownBlock = some g → v.ownBlock ≠ some g := fun g hu hv => h g hv hu
theorem apart_new {w : World} {base : Nat} {e : TypeId} {n : Nat} {v u' : Value} {xs : List Value} (h : w.ownsRow base e 1 v n xs) (hu : u'.ownBlock = none ∨ u'.ownBlock = some w.heap.size) : ∀ g, v.ownBlock = some g → u'.ownBlock ≠ some g := by
  intro g hg he
  have := (h.lt g hg).2
  rcases hu with hu | hu
  · rw [hu] at he
    cases he
  · rw [hu] at he
    cases he
    omega
theorem apart_app {w : World} {base : Nat} {e : TypeId} {n : Nat} {v u u' : Value} {xs : List Value} (h : w.ownsRow base e 1 v n xs) (hd : ∀ g, v.ownBlock = some g → u.ownBlock ≠ some g) (hu : u'.ownBlock = u.ownBlock ∨ u'.ownBlock = some w.heap.size) :
    ∀ g, v.ownBlock = some g → u'.ownBlock ≠ some g := by
  rcases hu with hu | hu
  · rw [hu]
    exact hd
  · exact apart_new h (Or.inr hu)

theorem draw_m (wid ax ay : Int) (bx by_ : Nat) (WW : Int) (gp N c : Nat) (ps ds : List (Int × Int)) (f : Nat → Nat) (w0 : World) (hbx : Hid (F ax = bx)) (hby : Hid (F ay = by_)) (hw : 1 ≤ wid ∧ wid ≤ 9) (hN : Hid (ps.length = N)) (hN2 : 1 ≤ N ∧ N ≤ 10) (hP : RowT w0 gp 35 (ps.map cV)) (hok : Hid (PtsOk ps)) (ha : Hid (mayZ ax = true ∧ mayZ ay = true)) (hds : Hid (ps.map (subP (ax, ay)) = ds)) (hok2 : Hid (PtsOk ds)) (hW : 1 ≤ WW ∧ WW ≤ 64)
    (hfar : Hid (∀ j, j + 1 < N → wayN (ds.getD j (0, 0)) (ds.getD (j + 1) (0, 0)) ≤ 1000)) (hf : Hid (picF WW wid (lineD ds (N - 1)) = f)) :
    Calls Tryd.prog 15 #[.slice (some ⟨w0.heap.size, 0, none⟩) 1 1, .complex .f64 bx by_, .int .i64 1, .int .i64 WW, .int .i64 64] (w0.alloc (.cells #[.int .i64 0, .int .i64 wid, .slice (some ⟨gp, 0, none⟩) N c] 55)) fun e' w' => (∃ gr, e' = .returned (.tuple #[.slice (some ⟨gr, 0, none⟩) 64 64, .int .i64 0]) ∧ RowT w' gr 29 (rowsV f 64) ∧ w0.heap.size ≤ gr) ∧ Below w0.heap.size w0 w' := by
  have hb : Below w0.heap.size w0 (w0.alloc (.cells #[.int .i64 0, .int .i64 wid, .slice (some ⟨gp, 0, none⟩) N c] 55)) := (Below.refl _ _).alloc (Nat.le_refl _) _
  have h := draw_1 0 wid ax ay (some ⟨gp, 0, none⟩) N c w0.heap.size ps WW 64 (w0.alloc (.cells #[.int .i64 0, .int .i64 wid, .slice (some ⟨gp, 0, none⟩) N c] 55)) (Blk.new_ _ _ _) (by decide) hw hN.out hN2 ((sl_row hP).alloc_ _) hok.out ha.out.1 ha.out.2 (by rw [hds.out]; exact hok2.out) hW (by decide) (by rw [hds.out]; exact hfar.out)
  rw [hds.out, hf.out, hbx.out, hby.out] at h
  refine Calls.mono h fun e' w' ⟨⟨gr, h1, h2, h3⟩, h4⟩ => ⟨⟨gr, h1, h2, ?_⟩, btr hb hb.size h4⟩
  exact Nat.le_trans hb.size h3
end Go.Proofs.YtnbiioighjdkjaaDoor
