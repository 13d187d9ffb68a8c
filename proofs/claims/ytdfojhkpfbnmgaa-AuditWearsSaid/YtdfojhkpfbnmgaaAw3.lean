/- leaf.look. -/
import Derived.Test.YtdfojhkpfbnmgaaAw2
import Derived.Test.YtdfojhkpfbnmgaaAw1
import Derived.Deep.Slices
import Derived.Deep.Fields
import Derived.ChangeSame
import Derived.Deep.RegionHeld3
import Derived.Deep.DrawnRows
import Derived.Deep.DeepCutAuto
import Derived.Deep.CutBlock
import Derived.StillTailTactics
import Derived.ScopeJumps
import Derived.WalkMore
import Derived.WalkKit
import Derived.Maps.OwnSet
import Derived.Maps.OwnOps
set_option linter.unusedSimpArgs false
set_option linter.unusedVariables false
set_option maxRecDepth 100000
set_option maxHeartbeats 16000000
namespace Go.Proofs.Ytdfojhkpfbnmgaa
open Go.ChangeShapes Go.WideShapes Go.ChangeAt Go.RowKit
attribute [local go_sem ↓] Go.wp_at_zero Go.wp_at_succ
theorem blk_new {w : World} {t : TypeId} {cs : Array Value} {g : Nat} (hg : g = w.heap.size) : Blk (w.alloc (.cells cs t)) g t cs := by
  subst hg
  exact Blk.new_ _ _ _
def st6 (w : World) (g : Nat) (u0 u1 u2 u3 u4 u5 : Value) : World := (((((w.setCell ⟨g, 0, none⟩ u0).setCell ⟨g, 1, none⟩ u1).setCell ⟨g, 2, none⟩ u2).setCell ⟨g, 3, none⟩ u3).setCell ⟨g, 4, none⟩ u4).setCell ⟨g, 5, none⟩ u5
theorem st6_blk {w : World} {g : Nat} {T : TypeId} {a b c d e f : Value} (h : Blk w g T #[a, b, c, d, e, f]) (u0 u1 u2 u3 u4 u5 : Value) : Blk (st6 w g u0 u1 u2 u3 u4 u5) g T #[u0, u1, u2, u3, u4, u5] := by
  have := (((((h.set_ 0 u0).set_ 1 u1).set_ 2 u2).set_ 3 u3).set_ 4 u4).set_ 5 u5
  exact this
theorem st6_tch (w : World) (g : Nat) (u0 u1 u2 u3 u4 u5 : Value) : Tch (fun x => x = g) w (st6 w g u0 u1 u2 u3 u4 u5) :=
  (((((Tch.setm w g 0 u0).trans (Tch.setm _ g 1 u1)).trans (Tch.setm _ g 2 u2)).trans (Tch.setm _ g 3 u3)).trans (Tch.setm _ g 4 u4)).trans (Tch.setm _ g 5 u5)
theorem cells6 {w : World} {g : Nat} {T : TypeId} {a b c d e f : Value} (h : Blk w g T #[a, b, c, d, e, f]) : w.cell? ⟨g, 0, none⟩ = some a ∧ w.cell? ⟨g, 1, none⟩ = some b ∧ w.cell? ⟨g, 2, none⟩ = some c ∧ w.cell? ⟨g, 3, none⟩ = some d ∧ w.cell? ⟨g, 4, none⟩ = some e ∧ w.cell? ⟨g, 5, none⟩ = some f :=
  ⟨h.cell_ 0, h.cell_ 1, h.cell_ 2, h.cell_ 3, h.cell_ 4, h.cell_ 5⟩
structure ChN (w : World) (L : Nat) (m gx gb : Nat) (Af : Option Addr) (nf cf : Nat) (a b c d e : Int) (fs : List Flt) (s : ChS) : Prop where
  chip : ChipW w m gx gb Af nf cf a b c d e fs s
  low : ∀ g, chB m gx gb g → g < L
  lowF : fs = [] ∨ ∃ g off, Af = some ⟨g, off, none⟩ ∧ g < L
theorem ChN.far {w w' : World} {L : Nat} {m gx gb : Nat} {Af : Option Addr} {nf cf : Nat} {a b c d e : Int} {fs : List Flt} {s : ChS} (h : ChN w L m gx gb Af nf cf a b c d e fs s) {S : Nat → Prop} (hT : Tch S w w') (hs : ∀ g, S g → L ≤ g) : ChN w' L m gx gb Af nf cf a b c d e fs s := by
  have hn : ∀ g, g < L → ¬ S g := fun g hg h1 => by have := hs g h1; omega
  obtain ⟨⟨⟨cx, cb, NX, NB, hX, hN, hcx, hB⟩, r1, r2, r3, n1, n2, n3, l1, l2, l3, l4⟩, lo, lf⟩ := h
  refine ⟨⟨⟨cx, cb, NX, NB, hX, hN, hcx, (hT.far m hB.lt (hn m (lo m (Or.inl rfl)))).trans hB⟩, r1.keep (hT.far gx r1.lt (hn gx (lo gx (Or.inr (Or.inl rfl))))), r2.keep (hT.far gb r2.lt (hn gb (lo gb (Or.inr (Or.inr rfl))))), ?_, n1, n2, n3, l1, l2, l3, l4⟩, lo, lf⟩
  rcases lf with lf | ⟨g, off, e, hg⟩
  · exact Or.inl lf
  · rcases r3 with r3 | ⟨g', off', e', hlt, h1, h2, h3, hc⟩
    · exact Or.inl r3
    · rw [e] at e'
      obtain ⟨rfl, rfl⟩ : g = g' ∧ off = off' := by cases e'; exact ⟨rfl, rfl⟩
      have hq : ∀ o, w'.cell? ⟨g, o, none⟩ = w.cell? ⟨g, o, none⟩ := fun o => World.cell?_of_block (w := w) (hT.far g hlt (hn g hg))
      exact Or.inr ⟨g, off, e, by have := hT.size; omega, h1, h2, h3, fun k f hf => by rw [hq, hq, hq]; exact hc k f hf⟩
theorem ChN.next {w w' : World} {L : Nat} {m gx gb : Nat} {Af : Option Addr} {nf cf : Nat} {a b c d e : Int} {fs : List Flt} {s s' : ChS} (h : ChN w L m gx gb Af nf cf a b c d e fs s) (hC : ChipW w' m gx gb Af nf cf a b c d e fs s') : ChN w' L m gx gb Af nf cf a b c d e fs s' := ⟨hC, h.low, h.lowF⟩
theorem ChN.start {w : World} {m gx gb : Nat} {Af : Option Addr} {nf cf : Nat} {a b c d e : Int} {fs : List Flt} {s : ChS} (hC : ChipW w m gx gb Af nf cf a b c d e fs s) : ChN w w.heap.size m gx gb Af nf cf a b c d e fs s := by
  have hlt := hC.lt
  refine ⟨hC, fun g hg => ?_, ?_⟩
  · rcases hg with rfl | rfl | rfl
    · exact hlt.1
    · exact hlt.2.1
    · exact hlt.2.2
  · rcases hC.flt with h1 | ⟨g, off, e, hl, _⟩
    · exact Or.inl h1
    · exact Or.inr ⟨g, off, e, hl⟩
theorem look_no (m gx gb : Nat) (Af : Option Addr) (nf cf : Nat) (a b c d e : Int) (fs : List Flt) (x y : Int) (n0 : Int) (w : World) (s : ChS) (hC : ChipW w m gx gb Af nf cf a b c d e fs s) (hs : Fine s n0) (hn0 : n0 ≤ 900000000) (Z : Int) (S1 : ChS) (hZ : Hid (s.readZ a b x y = Z ∧ True ∧ s.readS a b x y = S1)) (hne : Z ≠ 0) : Calls Try.prog 68 #[.pointer (some ⟨m, 0, none⟩), .agg #[.int .i64 x, .int .i64 y]] w fun e' w' => e' = .returned (.tuple #[.agg #[.slice none 0 0, .int .i64 0, .int .i64 0, .int .i64 0, .int .i64 0, .int .i64 0], .int .i64 Z]) ∧ ChipW w' m gx gb Af nf cf a b c d e fs S1 ∧ Tch (chB m gx gb) w w' := by
  have hlt := hC.lt
  have HLN := ChN.start hC
  obtain ⟨W1, hW1⟩ : ∃ W : World, W = (w.alloc (.cells #[.int .i64 x, .int .i64 y] 53)).alloc (.cells #[.slice none 0 0, .int .i64 0, .int .i64 0, .int .i64 0, .int .i64 0, .int .i64 0] 99) := ⟨_, rfl⟩
  have HB1 : Below w.heap.size w W1 := by rw [hW1]; exact ((Below.refl _ _).alloc (Nat.le_refl _) _).alloc (by simp) _
  have G3 : Blk W1 w.heap.size 53 #[.int .i64 x, .int .i64 y] := by rw [hW1]; exact (Blk.new_ w _ _).alloc_ _
  have G4 : Blk W1 (w.heap.size + 1) 99 #[.slice none 0 0, .int .i64 0, .int .i64 0, .int .i64 0, .int .i64 0, .int .i64 0] := by rw [hW1]; exact blk_new (by simp)
  have hC1 := hC.below HB1
  have hr := read_allO m gx gb Af nf cf a b c d e fs x y n0 W1 s hC1 hs hn0
  have z0 := G3.cell_ 0
  have z1 := G3.cell_ 1
  simp at z0 z1
  rw [hZ.out.1, hZ.out.2.2] at hr
  obtain ⟨bq, hbq⟩ : ∃ q, s.readB a b c x y = q := ⟨_, rfl⟩
  rw [hbq] at hr
  obtain ⟨q, hq⟩ : ∃ q, bq.length = q := ⟨_, rfl⟩
  rw [hq] at hr
  have HBQ := Lib.hid (And.intro hbq hq)
  clear hq hbq
  have HW1 := Lib.hid hW1
  clear hW1
  go_enter Try.func68, Try.ntmps68
  go_upto_region 1 with fail
  rw [← HW1.out]
  have hz1 : (Z == 0) = false := by simpa using hne
  have hz2 : (Z != 0) = true := by simpa using hne
  go_wp2_with (go_at_call 25; ((with_reducible refine (hr).mono ?_); rintro e' wR ⟨⟨A1, c1, rfl, hrow⟩, hCR, hTR⟩; have hnb : ∀ g, chB m gx gb g → g < w.heap.size := fun g hg => (by rcases hg with rfl | rfl | rfl; exact hlt.1; exact hlt.2.1; exact hlt.2.2); have G4R := hTR.blk G4 (fun hc => by have := hnb _ hc; omega); obtain ⟨y0, y1, y2, y3, y4, y5⟩ := cells6 G4R; have y9 := G4R.free; have HTR := (Tch.of_below (S := chB m gx gb) HB1).trans hTR))
  obtain ⟨wz, hwz⟩ : ∃ V : World, V = st6 wR (w.heap.size + 1) (.slice none 0 0) (.int .i64 0) (.int .i64 0) (.int .i64 0) (.int .i64 0) (.int .i64 0) := ⟨_, rfl⟩
  have HZ := st6_blk G4R (.slice none 0 0) (.int .i64 0) (.int .i64 0) (.int .i64 0) (.int .i64 0) (.int .i64 0)
  have TZ := st6_tch wR (w.heap.size + 1) (.slice none 0 0) (.int .i64 0) (.int .i64 0) (.int .i64 0) (.int .i64 0) (.int .i64 0)
  rw [← hwz] at HZ TZ
  show bodyPost _ _ _ _ _ (st6 wR (w.heap.size + 1) (.slice none 0 0) (.int .i64 0) (.int .i64 0) (.int .i64 0) (.int .i64 0) (.int .i64 0))
  rw [← hwz]
  have hCZ := ((HLN.next hCR).far TZ (fun g hg => by subst hg; omega)).chip
  have hTZ : Tch (chB m gx gb) w wz := ((HTR.mono (S' := fun g => chB m gx gb g ∨ w.heap.size ≤ g) (fun g hg => Or.inl hg)).trans (TZ.mono (fun g hg => by subst hg; exact Or.inr (Nat.le_succ _)))).monoL (fun g hg h => by rcases h with h | h; exact h; omega)
  obtain ⟨x0, x1, x2, x3, x4, x5⟩ := cells6 HZ
  refine bodyPost_ret (v := .tuple #[.agg #[.slice none 0 0, .int .i64 0, .int .i64 0, .int .i64 0, .int .i64 0, .int .i64 0], .int .i64 Z]) (by simp [results, Try.results68, go_sem, x0, x1, x2, x3, x4, x5]) rfl ⟨rfl, ?_, ?_⟩
  · exact hCZ
  · exact hTZ
theorem own_keepT {w w' : World} {base n size g : Nat} {e : TypeId} {v : Value} {xs : List Value} (h : w.ownsRow base e size v n xs) (hT : Tch (fun x => x = g) w w') (hg : g < base) : w'.ownsRow base e size v n xs := by
  obtain ⟨h1, h2⟩ := h
  refine ⟨h1, ?_⟩
  rcases h2 with h2 | ⟨g', cap, cur, rfl, hb, hh, hr⟩
  · exact Or.inl h2
  · have hlt : g' < w.heap.size := by
      rcases Nat.lt_or_ge g' w.heap.size with hx | hx
      · exact hx
      · rw [Array.getElem?_eq_none hx] at hh
        cases hh
    exact Or.inr ⟨g', cap, cur, rfl, hb, (hT.far g' hlt (by omega)).trans hh, hr⟩
theorem row_cap {w : World} {B q c1 : Nat} {A1 : Option Addr} {bs : List Nat} (hq : bs.length = q) (h : bs = [] ∧ A1 = none ∧ c1 = 0 ∨ ∃ g, A1 = some ⟨g, 0, none⟩ ∧ RowT w g 5 (bs.map byteV) ∧ B ≤ g ∧ w.ownsRow B 5 1 (.slice (some ⟨g, 0, none⟩) q c1) q (bs.map byteV)) : w.ownsRow B 5 1 (.slice A1 q c1) q (bs.map byteV) ∧ q ≤ c1 ∧ c1 ≤ maxLen := by
  rcases h with ⟨rfl, rfl, rfl⟩ | ⟨g, rfl, _, _, ho⟩
  · subst hq
    exact ⟨World.ownsRow_nil _ _ _ _, Nat.le_refl _, Nat.zero_le _⟩
  · have ho2 := ho
    rcases ho2.2 with ⟨h1, _⟩ | ⟨g', cap, cur, h1, h2, h3, h4, h5, _⟩
    · cases h1
    · cases h1
      exact ⟨ho, h4, h5⟩
theorem look_yes (m gx gb : Nat) (Af : Option Addr) (nf cf : Nat) (a b c d e : Int) (fs : List Flt) (x y : Int) (n0 : Int) (w : World) (s : ChS) (hC : ChipW w m gx gb Af nf cf a b c d e fs s) (hs : Fine s n0) (hn0 : n0 ≤ 900000000) (D : List Nat) (n K P S E st : Nat) (S1 : ChS) (bs : List Nat) (h8 : Bytes8 bs) (hl : bs.length ≤ 1000000) (hZ : Hid (s.readZ a b x y = 0 ∧ s.readB a b c x y = bs ∧ s.readS a b x y = S1)) (hk : Hid (Lk bs D n K P S E st)) : Calls Try.prog 68 #[.pointer (some ⟨m, 0, none⟩), .agg #[.int .i64 x, .int .i64 y]] w fun e' w' => (∃ A' c', e' = .returned (.tuple #[.agg #[.slice A' n c', .int .i64 (K : Nat), .int .i64 (P : Nat), .int .i64 (S : Nat), .int .i64 (E : Nat), .int .i64 (st : Nat)], .int .i64 0]) ∧ w'.ownsRow w.heap.size 5 1 (.slice A' n c') n (D.map byteV)) ∧ ChipW w' m gx gb Af nf cf a b c d e fs S1 ∧ Tch (chB m gx gb) w w' := by
  have hlt := hC.lt
  have HLN := ChN.start hC
  obtain ⟨W1, hW1⟩ : ∃ W : World, W = (w.alloc (.cells #[.int .i64 x, .int .i64 y] 53)).alloc (.cells #[.slice none 0 0, .int .i64 0, .int .i64 0, .int .i64 0, .int .i64 0, .int .i64 0] 99) := ⟨_, rfl⟩
  have HB1 : Below w.heap.size w W1 := by rw [hW1]; exact ((Below.refl _ _).alloc (Nat.le_refl _) _).alloc (by simp) _
  have G3 : Blk W1 w.heap.size 53 #[.int .i64 x, .int .i64 y] := by rw [hW1]; exact (Blk.new_ w _ _).alloc_ _
  have G4 : Blk W1 (w.heap.size + 1) 99 #[.slice none 0 0, .int .i64 0, .int .i64 0, .int .i64 0, .int .i64 0, .int .i64 0] := by rw [hW1]; exact blk_new (by simp)
  have hC1 := hC.below HB1
  have hr := read_allO m gx gb Af nf cf a b c d e fs x y n0 W1 s hC1 hs hn0
  have z0 := G3.cell_ 0
  have z1 := G3.cell_ 1
  simp at z0 z1
  rw [hZ.out.1, hZ.out.2.1, hZ.out.2.2] at hr
  obtain ⟨q, hq⟩ : ∃ q, bs.length = q := ⟨_, rfl⟩
  rw [hq] at hr
  have HQ := Lib.hid hq
  have hq9 : q ≤ 1000000 := by omega
  clear hq
  have HW1 := Lib.hid hW1
  clear hW1
  go_enter Try.func68, Try.ntmps68
  go_upto_region 1 with fail
  rw [← HW1.out]
  go_wp2_with (first | (go_at_call 25; ((with_reducible refine (hr).mono ?_); rintro e' wR ⟨⟨A1, c1, rfl, hrow⟩, hCR, hTR⟩; have hnb : ∀ g, chB m gx gb g → g < w.heap.size := fun g hg => (by rcases hg with rfl | rfl | rfl; exact hlt.1; exact hlt.2.1; exact hlt.2.2); have G4R := hTR.blk G4 (fun hc => by have := hnb _ hc; omega); obtain ⟨y0, y1, y2, y3, y4, y5⟩ := cells6 G4R; have y9 := G4R.free; have HTR := (Tch.of_below (S := chB m gx gb) HB1).trans hTR; obtain ⟨hoR, hcc1, hcc2⟩ : wR.ownsRow W1.heap.size 5 1 (.slice A1 q c1) q (bs.map byteV) ∧ q ≤ c1 ∧ c1 ≤ maxLen := row_cap HQ.out hrow; have hsR := Sl.of_own hoR; clear hrow)) | (go_at_call 71; ((with_reducible refine (tread_any bs D n K P S E st hk.out q HQ.out A1 c1 wR hsR h8 hcc1 hcc2 hq9).mono ?_); rintro e' wT ⟨⟨A2, c2, rfl, hoT⟩, hbT⟩; have hszR := hTR.size; have HG := G4.lt; have G4T := G4R.below hbT G4R.lt; have HTT := HTR.then hbT; have hCT := hCR.below hbT; have G4X := G4T.alloc_ (.cells #[.int .i64 (K : Nat), .int .i64 (P : Nat), .int .i64 (S : Nat), .int .i64 (E : Nat)] 50); have HTX := HTT.then ((Below.refl _ _).alloc (Nat.le_refl _) (.cells #[.int .i64 (K : Nat), .int .i64 (P : Nat), .int .i64 (S : Nat), .int .i64 (E : Nat)] 50)); have hCX := hCT.below ((Below.refl _ _).alloc (Nat.le_refl _) (.cells #[.int .i64 (K : Nat), .int .i64 (P : Nat), .int .i64 (S : Nat), .int .i64 (E : Nat)] 50)); have hoX := hoT.alloc (.cells #[.int .i64 (K : Nat), .int .i64 (P : Nat), .int .i64 (S : Nat), .int .i64 (E : Nat)] 50); obtain ⟨y0, y1, y2, y3, y4, y5⟩ := cells6 G4X; have y9 := G4X.free)))
  obtain ⟨wz, hwz⟩ : ∃ V : World, V = st6 (wT.alloc (.cells #[.int .i64 (K : Nat), .int .i64 (P : Nat), .int .i64 (S : Nat), .int .i64 (E : Nat)] 50)) (w.heap.size + 1) (.slice A2 n c2) (.int .i64 (K : Nat)) (.int .i64 (P : Nat)) (.int .i64 (S : Nat)) (.int .i64 (E : Nat)) (.int .i64 (st : Nat)) := ⟨_, rfl⟩
  have HZ := st6_blk G4X (.slice A2 n c2) (.int .i64 (K : Nat)) (.int .i64 (P : Nat)) (.int .i64 (S : Nat)) (.int .i64 (E : Nat)) (.int .i64 (st : Nat))
  have TZ := st6_tch (wT.alloc (.cells #[.int .i64 (K : Nat), .int .i64 (P : Nat), .int .i64 (S : Nat), .int .i64 (E : Nat)] 50)) (w.heap.size + 1) (.slice A2 n c2) (.int .i64 (K : Nat)) (.int .i64 (P : Nat)) (.int .i64 (S : Nat)) (.int .i64 (E : Nat)) (.int .i64 (st : Nat))
  rw [← hwz] at HZ TZ
  show bodyPost _ _ _ _ _ (st6 (wT.alloc (.cells #[.int .i64 (K : Nat), .int .i64 (P : Nat), .int .i64 (S : Nat), .int .i64 (E : Nat)] 50)) (w.heap.size + 1) (.slice A2 n c2) (.int .i64 (K : Nat)) (.int .i64 (P : Nat)) (.int .i64 (S : Nat)) (.int .i64 (E : Nat)) (.int .i64 (st : Nat)))
  rw [← hwz]
  have hCZ := ((HLN.next hCX).far TZ (fun g hg => by subst hg; omega)).chip
  have hTZ : Tch (chB m gx gb) w wz := ((HTX.mono (S' := fun g => chB m gx gb g ∨ w.heap.size ≤ g) (fun g hg => Or.inl hg)).trans (TZ.mono (fun g hg => by subst hg; exact Or.inr (Nat.le_succ _)))).monoL (fun g hg h => by rcases h with h | h; exact h; omega)
  obtain ⟨x0, x1, x2, x3, x4, x5⟩ := cells6 HZ
  refine bodyPost_ret (v := .tuple #[.agg #[.slice A2 n c2, .int .i64 (K : Nat), .int .i64 (P : Nat), .int .i64 (S : Nat), .int .i64 (E : Nat), .int .i64 (st : Nat)], .int .i64 0]) (by simp [results, Try.results68, go_sem, x0, x1, x2, x3, x4, x5]) rfl ⟨⟨_, _, rfl, ?_⟩, ?_, ?_⟩
  · exact own_base (own_keepT hoX TZ (by have := G4R.lt; omega)) (by have := G4R.lt; omega)
  · exact hCZ
  · exact hTZ
end Go.Proofs.Ytdfojhkpfbnmgaa
namespace Go.Proofs.Ytdfojhkpfbnmgaa
structure Fd where
  b : Int
  g : Int
  k : Int
  p : Int
  s : Int
  e : Int
def lastS (n : Int) (f : Fd) : Int := if f.k = 3 then max n f.e else n
def lastZ (fs : List Fd) : Int := fs.foldl lastS 0
def newer (a b : Fd) : Bool := if a.e = b.e then decide (b.s < a.s) else decide (b.e < a.e)
def counts (last : Int) (f : Fd) : Bool := (decide (f.k = 1) || decide (f.k = 2)) && decide (f.e ≤ last)
def stepN (last p : Int) (o : Option Fd) (f : Fd) : Option Fd :=
  if counts last f = true ∧ f.p = p then
    match o with
    | none => some f
    | some x => if newer f x = true then some f else some x
  else o
def newestZ (last : Int) (fs : List Fd) (p : Int) : Option Fd := fs.foldl (stepN last p) none
def staleZ (fs : List Fd) : List Fd := fs.filter (fun f => decide (lastZ fs < f.e))
def IsAll (fs L : List Fd) : Prop := L.Pairwise (fun x y => x.p < y.p) ∧ ∀ x, x ∈ L ↔ (newestZ (lastZ fs) fs x.p = some x ∧ x.k = 1)
/-! ### last -/
/-! ### newer -/
/-! ### newest -/
def Cand (last p : Int) (x : Fd) : Prop := counts last x = true ∧ x.p = p
/-! ### all -/
theorem sorted_unique : ∀ (a b : List Fd), a.Pairwise (fun x y => x.p < y.p) → b.Pairwise (fun x y => x.p < y.p) → (∀ x, x ∈ a ↔ x ∈ b) → a = b
  | [], [], _, _, _ => rfl
  | [], y :: b, _, _, h => by have := (h y).2 (by simp); simp at this
  | x :: a, [], _, _, h => by have := (h x).1 (by simp); simp at this
  | x :: a, y :: b, ha, hb, h => by
    obtain ⟨ha1, ha2⟩ := List.pairwise_cons.1 ha
    obtain ⟨hb1, hb2⟩ := List.pairwise_cons.1 hb
    have exy : x = y := by
      rcases List.mem_cons.1 ((h x).1 (by simp)) with e | e
      · exact e
      · rcases List.mem_cons.1 ((h y).2 (by simp)) with e2 | e2
        · exact e2.symm
        · have := hb1 x e
          have := ha1 y e2
          omega
    subst exy
    congr 1
    refine sorted_unique a b ha2 hb2 (fun z => ?_)
    constructor
    · intro hz
      rcases List.mem_cons.1 ((h z).1 (by simp [hz])) with e | e
      · subst e
        have := ha1 z hz
        omega
      · exact e
    · intro hz
      rcases List.mem_cons.1 ((h z).2 (by simp [hz])) with e | e
      · subst e
        have := hb1 z hz
        omega
      · exact e
theorem IsAll.congr {fs gs a b : List Fd} (ha : IsAll fs a) (hb : IsAll gs b) (h : ∀ p, newestZ (lastZ fs) fs p = newestZ (lastZ gs) gs p) : a = b :=
  sorted_unique a b ha.1 hb.1 (fun x => by rw [ha.2 x, hb.2 x, h x.p])
/-! ### the laws -/
def lastOf (p : Int) (o : Option Fd) (f : Fd) : Option Fd := if f.p = p then some f else o
end Go.Proofs.Ytdfojhkpfbnmgaa
namespace Go.Proofs.Ytdfojhkpfbnmgaa
open Go.ChangeShapes Go.WideShapes Go.ChangeAt Go.RowKit Go.Deep
def LeafOk : Option IntKind → Value → Prop
  | some k, v => ∃ z, v = .int k z ∧ (Lit.int k z).wf = true
  | none, v => ∃ b, v = .bool b
def Flat : List (Option IntKind) → List Value → Prop
  | [], cs => cs = []
  | l :: ls, cs => ∃ v r, cs = v :: r ∧ LeafOk l v ∧ Flat ls r
theorem Flat.append : ∀ {ls ms : List (Option IntKind)} {cs ds : List Value}, Flat ls cs → Flat ms ds → Flat (ls ++ ms) (cs ++ ds)
  | [], _, cs, ds, h, k => by
    obtain rfl : cs = [] := h
    exact k
  | _ :: ls, _, _, _, h, k => by
    obtain ⟨v, r, rfl, h1, h2⟩ := h
    exact ⟨v, r ++ _, rfl, h1, h2.append k⟩
theorem Flat.length : ∀ {ls : List (Option IntKind)} {cs : List Value}, Flat ls cs → cs.length = ls.length
  | [], cs, h => by
    obtain rfl : cs = [] := h
    rfl
  | _ :: ls, _, h => by
    obtain ⟨v, r, rfl, _, h2⟩ := h
    simp [h2.length]
def flatFields (P : Program) (sh : TypeId → Option (List (Option IntKind))) : List Field → Nat → Option (List (Option IntKind))
  | [], _ => some []
  | f :: fs, o =>
    if f.offset = o then
      match sh f.type with
      | some l => if P.cellsOf f.type = l.length then
          match flatFields P sh fs (o + l.length) with
          | some r => some (l ++ r)
          | none => none
        else none
      | none => none
    else none
def flatShape (P : Program) : Nat → TypeId → Option (List (Option IntKind))
  | 0, _ => none
  | n + 1, t => match P.underlying t with
    | some (.int k) => some [some k]
    | some .bool => some [none]
    | some (.struct fs) => match flatFields P (flatShape P n) fs.toList 0 with
      | some l => if P.cellsOf t = l.length then some l else none
      | none => none
    | _ => none
section
variable {H : Type} {enc : TypeId × Value → H} {P : Program} {w : World} {base : Nat} {spare : Nat → Bool} {held : Bool}
end
def SlE (C : Nat) (w : World) (B : Nat) (A : Option Addr) (es : List (List Value)) : Prop :=
  es = [] ∨ ∃ b off, A = some ⟨b, off, none⟩ ∧ b < B ∧ ∀ k x, es[k]? = some x → ∀ j u, x[j]? = some u → w.cell? ⟨b, off + k * C + j, none⟩ = some u
theorem SlE.at_ {C : Nat} {w : World} {B : Nat} {A : Option Addr} {es : List (List Value)} (h : SlE C w B A es) (hn : 0 < es.length) :
    ∃ b off, A = some ⟨b, off, none⟩ ∧ b < B ∧ ∀ k x, es[k]? = some x → ∀ j u, x[j]? = some u → w.cell? ⟨b, off + k * C + j, none⟩ = some u := by
  rcases h with rfl | h
  · simp at hn
  · exact h
theorem SlE.below {C : Nat} {w w' : World} {B : Nat} {A : Option Addr} {es : List (List Value)} (h : SlE C w B A es) (hb : Below B w w') : SlE C w' B A es := by
  rcases h with h | ⟨b, off, e, hlt, hc⟩
  · exact Or.inl h
  · exact Or.inr ⟨b, off, e, hlt, fun k x hx j u hu => (hb.cell (p := ⟨b, _, none⟩) hlt).trans (hc k x hx j u hu)⟩
theorem SlE.mono {C : Nat} {w : World} {B B' : Nat} {A : Option Addr} {es : List (List Value)} (h : SlE C w B A es) (hB : B ≤ B') : SlE C w B' A es := by
  rcases h with h | ⟨b, off, e, hlt, hc⟩
  · exact Or.inl h
  · exact Or.inr ⟨b, off, e, by omega, hc⟩
theorem SlE.next {C : Nat} {w w' : World} {A : Option Addr} {es : List (List Value)} (h : SlE C w w.heap.size A es) (hb : Below w.heap.size w w') : SlE C w' w'.heap.size A es := (h.below hb).mono hb.size
section
variable {H : Type} {enc : TypeId × Value → H} {P : Program} {w : World} {base : Nat} {spare : Nat → Bool} {held : Bool}
def eltOf (w : World) (b off C i : Nat) : List Value := (List.range C).map fun j => (w.cell? ⟨b, off + i * C + j, none⟩).getD undef
end
theorem Flat.int {k : IntKind} {ls : List (Option IntKind)} {cs : List Value} (h : Flat (some k :: ls) cs) : ∃ z r, cs = .int k z :: r ∧ (Lit.int k z).wf = true ∧ Flat ls r := by
  obtain ⟨v, r, rfl, ⟨z, rfl, hw⟩, h2⟩ := h
  exact ⟨z, r, rfl, hw, h2⟩
theorem Flat.bool {ls : List (Option IntKind)} {cs : List Value} (h : Flat (none :: ls) cs) : ∃ z r, cs = .bool z :: r ∧ Flat ls r := by
  obtain ⟨v, r, rfl, ⟨z, rfl⟩, h2⟩ := h
  exact ⟨z, r, rfl, h2⟩
theorem Flat.nil {cs : List Value} (h : Flat [] cs) : cs = [] := h
end Go.Proofs.Ytdfojhkpfbnmgaa
namespace Go.Proofs.Ytdfojhkpfbnmgaa
open Go.ChangeShapes Go.WideShapes Go.ChangeAt Go.RowKit
def iOf : Value → Int
  | .int _ q => q
  | _ => 0
def fCs (x : Fd) : List Value := [.int .i64 x.b, .int .i64 x.g, .int .i64 x.k, .int .i64 x.p, .int .i64 x.s, .int .i64 x.e]
def FdOk (x : Fd) : Prop := i64in x.b ∧ i64in x.g ∧ i64in x.k ∧ i64in x.p ∧ i64in x.s ∧ i64in x.e
def SlFd (w : World) (B : Nat) (A : Option Addr) (fs : List Fd) : Prop := SlE 6 w B A (fs.map fCs)
theorem SlFd.next {w w' : World} {A : Option Addr} {fs : List Fd} (h : SlFd w w.heap.size A fs) (hb : Below w.heap.size w w') : SlFd w' w'.heap.size A fs := SlE.next h hb
theorem SlFd.below {w w' : World} {B : Nat} {A : Option Addr} {fs : List Fd} (h : SlFd w B A fs) (hb : Below B w w') : SlFd w' B A fs := SlE.below h hb
theorem SlFd.mono {w : World} {B B' : Nat} {A : Option Addr} {fs : List Fd} (h : SlFd w B A fs) (hB : B ≤ B') : SlFd w B' A fs := SlE.mono h hB
theorem SlFd.nil_ {w : World} {B : Nat} {A : Option Addr} : SlFd w B A [] := Or.inl rfl
theorem SlFd.at_ {w : World} {B : Nat} {A : Option Addr} {fs : List Fd} (h : SlFd w B A fs) (hn : 0 < fs.length) :
    ∃ b off, A = some ⟨b, off, none⟩ ∧ b < B ∧ ∀ (k : Nat) (x : Fd), fs[k]? = some x →
      w.cell? ⟨b, off + k * 6, none⟩ = some (.int .i64 x.b) ∧ w.cell? ⟨b, off + k * 6 + 1, none⟩ = some (.int .i64 x.g) ∧ w.cell? ⟨b, off + k * 6 + 2, none⟩ = some (.int .i64 x.k) ∧ w.cell? ⟨b, off + k * 6 + 3, none⟩ = some (.int .i64 x.p) ∧ w.cell? ⟨b, off + k * 6 + 4, none⟩ = some (.int .i64 x.s) ∧ w.cell? ⟨b, off + k * 6 + 5, none⟩ = some (.int .i64 x.e) := by
  obtain ⟨b, off, e, hb, hc⟩ := SlE.at_ h (by simpa using hn)
  refine ⟨b, off, e, hb, fun k x hk => ?_⟩
  have hx : (fs.map fCs)[k]? = some (fCs x) := by simp [hk]
  exact ⟨hc k _ hx 0 _ rfl, hc k _ hx 1 _ rfl, hc k _ hx 2 _ rfl, hc k _ hx 3 _ rfl, hc k _ hx 4 _ rfl, hc k _ hx 5 _ rfl⟩
theorem flat_get : ∀ (L : List Fd) (k j : Nat) (x : Fd), L[k]? = some x → j < 6 → (L.flatMap fCs)[k * 6 + j]? = (fCs x)[j]?
  | y :: L, 0, j, x, h, hj => by
    simp at h
    subst h
    rw [List.flatMap_cons, List.getElem?_append_left (by simp [fCs]; omega)]
    simp
  | y :: L, k + 1, j, x, h, hj => by
    rw [List.flatMap_cons, List.getElem?_append_right (by simp [fCs]; omega), show (k + 1) * 6 + j - (fCs y).length = k * 6 + j by simp [fCs]; omega]
    exact flat_get L k j x (by simpa using h) hj
theorem flat_one1 (x : Fd) : ∀ u ∈ fCs x, u.oneCell' = true := by
  intro u hu
  simp [fCs] at hu
  rcases hu with rfl | rfl | rfl | rfl | rfl | rfl <;> rfl
def RowFd (w : World) (base : Nat) (v : Value) (L : List Fd) : Prop := w.ownsRow base 101 6 v L.length (L.flatMap fCs)
theorem RowFd.nil_ (w : World) (base : Nat) : RowFd w base (.slice none 0 0) [] := World.ownsRow_nil w base _ _
theorem RowFd.below {w w' : World} {base : Nat} {v : Value} {L : List Fd} (h : RowFd w base v L) (hb : Below w.heap.size w w') : RowFd w' base v L :=
  World.ownsRow.kept h (row := none) ⟨hb.os, hb.tape, hb.output, hb.size, fun k hk _ => hb.block k hk⟩ (by cases v.ownBlock <;> simp)
theorem RowFd.base {w : World} {B B' : Nat} {v : Value} {L : List Fd} (h : RowFd w B v L) (hB : B' ≤ B) : RowFd w B' v L := by
  obtain ⟨h1, h2⟩ := h
  refine ⟨h1, ?_⟩
  rcases h2 with h2 | ⟨g, cap, cur, hv, hb, h⟩
  · exact Or.inl h2
  · exact Or.inr ⟨g, cap, cur, hv, by omega, h⟩
theorem RowFd.sl {w : World} {base : Nat} {v : Value} {L : List Fd} (h : RowFd w base v L) : ∃ A c, v = .slice A L.length c ∧ SlFd w w.heap.size A L ∧ L.length ≤ c ∧ c ≤ maxLen := by
  obtain ⟨hl, h2⟩ := h
  rcases h2 with ⟨rfl, h0⟩ | ⟨g, cap, cur, hv, hb, hh, hnc, hcm, hsz, ht⟩
  · obtain rfl := List.eq_nil_of_length_eq_zero h0
    exact ⟨none, 0, rfl, SlFd.nil_, Nat.le_refl _, by unfold maxLen; omega⟩
  · refine ⟨_, cap, hv, Or.inr ⟨g, 0, rfl, ?_, fun k x hx j u hu => ?_⟩, hnc, hcm⟩
    · rcases Nat.lt_or_ge g w.heap.size with hx | hx
      · exact hx
      · rw [Array.getElem?_eq_none hx] at hh
        cases hh
    · rw [List.getElem?_map] at hx
      obtain ⟨y, hy, rfl⟩ := Option.map_eq_some_iff.1 hx
      have hj : j < 6 := (List.getElem?_eq_some_iff.1 hu).1
      have hk : k < L.length := (List.getElem?_eq_some_iff.1 hy).1
      have e := flat_get L k j y hy hj
      rw [hu, ← ht, List.getElem?_take_of_lt (by omega)] at e
      rw [Joins.cell_of_block hh, Nat.zero_add]
      simpa using e
def newerZ (e s e' s' : Int) : Bool := if e = e' then decide (s' < s) else decide (e' < e)
end Go.Proofs.Ytdfojhkpfbnmgaa
namespace Go.Proofs.Ytdfojhkpfbnmgaa
open Go.ChangeShapes Go.WideShapes Go.ChangeAt Go.RowKit
attribute [local go_sem ↓] Go.wp_at_zero Go.wp_at_succ
theorem RowFd.snoc {w : World} {base : Nat} {v : Value} {L : List Fd} {x : Fd} (h : w.ownsRow base 101 6 v (L.length + 1) (L.flatMap fCs ++ fCs x)) : RowFd w base v (L ++ [x]) := by
  unfold RowFd
  rw [List.length_append, List.flatMap_append]
  simpa using h
end Go.Proofs.Ytdfojhkpfbnmgaa
namespace Go.Proofs.Ytdfojhkpfbnmgaa
open Go.ChangeShapes Go.WideShapes Go.ChangeAt Go.RowKit
attribute [local go_sem ↓] Go.wp_at_zero Go.wp_at_succ
structure Cap (w : World) (gs base : Nat) (L : List Fd) : Prop where
  blk : ∃ v, Blk w gs 76 #[v] ∧ RowFd w base v L
  lt : gs < base
theorem infoFdS : (Try.prog.info? 101).map (fun i => (i.zero, i.size, i.bytes)) = some (some (.agg #[.int .i64 0, .int .i64 0, .int .i64 0, .int .i64 0, .int .i64 0, .int .i64 0]), 6, 48) := by kernel_rfl
@[go_sem] theorem build_fd (x y K P S E : Int) (w : World) : (Instr.buildSlice 76 1 #[(0, (.agg #[.int .i64 x, .int .i64 y, .int .i64 K, .int .i64 P, .int .i64 S, .int .i64 E]))]).run Try.prog w = .ok (.slice (some ⟨w.heap.size, 0, none⟩) 1 1) (w.alloc (.cells #[.int .i64 x, .int .i64 y, .int .i64 K, .int .i64 P, .int .i64 S, .int .i64 E] 101)) := by kernel_rfl
theorem rd_newF (w : World) (x y K P S E : Int) {g : Nat} (hg : g = w.heap.size) : Rd (w.alloc (.cells #[.int .i64 x, .int .i64 y, .int .i64 K, .int .i64 P, .int .i64 S, .int .i64 E] 101)) (some ⟨g, 0, none⟩) 1 6 (fCs (⟨x, y, K, P, S, E⟩ : Fd)) := by
  subst hg
  refine ⟨rfl, Or.inr ⟨_, 0, rfl, fun j u hj => ?_⟩⟩
  rw [Joins.cell_of_block (heap_alloc_new w _), Nat.zero_add]
  simpa [fCs] using hj
theorem cap_grown {wN w2 : World} {gs base : Nat} {v v2 : Value} {L : List Fd} {x : Fd} (hB : Blk wN gs 76 #[v]) (hR : RowFd wN base v L) (hlt : gs < base) (hb : base ≤ wN.heap.size) (ho : w2.ownsRow base 101 6 v2 (L.length + 1) (L.flatMap fCs ++ fCs x)) (hg : wN.grownBy w2 v.ownBlock) :
    Blk w2 gs 76 #[v] ∧ ∃ wz, wz = w2.setCell ⟨gs, 0, none⟩ v2 ∧ Cap wz gs base (L ++ [x]) ∧ Tch (fun g => g = gs ∨ base ≤ g) wN wz := by
  have hat : ∀ g, v.ownBlock = some g → base ≤ g := fun g hg => by
    obtain ⟨_, h⟩ := hR
    rcases h with ⟨rfl, _⟩ | ⟨g', cap, cur, rfl, hbb, _⟩
    · simp [Value.ownBlock] at hg
    · simp [Value.ownBlock] at hg
      omega
  have hB2 : Blk w2 gs 76 #[v] := (hg.block gs hB.lt (fun he => by have := hat gs he.symm; omega)).trans hB
  have hR2 : RowFd w2 base v2 (L ++ [x]) := RowFd.snoc ho
  have hat2 : ∀ g, v2.ownBlock = some g → base ≤ g := fun g hg => by
    obtain ⟨_, h⟩ := hR2
    rcases h with ⟨rfl, _⟩ | ⟨g', cap, cur, rfl, hbb, _⟩
    · simp [Value.ownBlock] at hg
    · simp [Value.ownBlock] at hg
      omega
  refine ⟨hB2, _, rfl, ⟨⟨v2, hB2.set_ 0 v2, ?_⟩, hlt⟩, ?_⟩
  · obtain ⟨h1, h2⟩ := hR2
    refine ⟨h1, ?_⟩
    rcases h2 with h2 | ⟨g', cap, cur, rfl, hbb, hh, hr⟩
    · exact Or.inl h2
    · exact Or.inr ⟨g', cap, cur, rfl, hbb, (Below.heap_setCell w2 ⟨gs, 0, none⟩ _ g' (by show g' ≠ gs; omega)).trans hh, hr⟩
  · exact (Tch.grown hg (fun k hk => Or.inr (hat k hk))).trans (Tch.set w2 ⟨gs, 0, none⟩ v2 (Or.inl rfl))
theorem scan1_any (x y K P S E st : Int) (A : Option Addr) (n c' gs base : Nat) (L : List Fd) (w : World) (hC : Cap w gs base L) (hb : base ≤ w.heap.size) (hL : L.length ≤ 1000000) :
    Calls Try.prog 63 #[.agg #[.int .i64 x, .int .i64 y], .agg #[.slice A n c', .int .i64 K, .int .i64 P, .int .i64 S, .int .i64 E, .int .i64 st], .pointer (some ⟨gs, 0, none⟩)] w fun e' w' => e' = .returned (.tuple #[]) ∧ Cap w' gs base (if st = 1 then L ++ [(⟨x, y, K, P, S, E⟩ : Fd)] else L) ∧ Tch (fun g => g = gs ∨ base ≤ g) w w' := by
  obtain ⟨⟨v, hB, hR⟩, hlt⟩ := hC
  obtain ⟨A2, c2, rfl, _, hc2, hc3⟩ := hR.sl
  by_cases h1 : st = 1
  · subst h1
    rw [if_pos rfl]
    have HB6 : Below w.heap.size w ((w.alloc (.cells #[.int .i64 x, .int .i64 y] 53)).alloc (.cells #[.slice A n c', .int .i64 K, .int .i64 P, .int .i64 S, .int .i64 E, .int .i64 1] 99)) := ((Below.refl _ _).alloc (Nat.le_refl _) _).alloc (by simp) _
    have hB6 := hB.below HB6 hB.lt
    have hR6 := RowFd.below hR HB6
    have z0 : ((w.alloc (.cells #[.int .i64 x, .int .i64 y] 53)).alloc (.cells #[.slice A n c', .int .i64 K, .int .i64 P, .int .i64 S, .int .i64 E, .int .i64 1] 99)).cell? ⟨gs, 0, none⟩ = some (.slice A2 L.length c2) := hB6.cell_ 0
    go_enter Try.func63, Try.ntmps63
    go_wp2_with (at_builtin; obtain ⟨ti0, hi, hz0, hz1, hz2⟩ := info_parts infoFdS; refine wpList_app _ rfl (.tmp 8) (.tmp 13) 76 rfl base 101 ti0 _ 6 48 Try.underlying76 hi hz0 hz1 hz2 rfl (by decide) (.slice A2 L.length c2) L.length (L.flatMap fCs) rfl (hR6.alloc _) _ 1 1 (fCs (⟨x, y, K, P, S, E⟩ : Fd)) rfl (rd_newF _ _ _ _ _ _ _ (by simp)) (flat_one1 _) (by unfold maxLen; omega) (by omega) (by simp; omega) ?_; intro v2 w2 ho2 hg2 hv2; obtain ⟨HX2, wz, hwz, HCZ, HTZ⟩ := cap_grown (hB6.alloc_ _) (RowFd.below hR6 ((Below.refl _ _).alloc (Nat.le_refl _) _)) hlt (by simp; omega) ho2 hg2; have x2 := HX2.cell_ 0; simp at x2; have x9 := HX2.free; have HWZ := Lib.hid hwz; have HT6 := (Tch.of_below (S := fun g => g = gs ∨ base ≤ g) (HB6.alloc HB6.size _)).trans HTZ; obtain ⟨A8, c8, hv8, _, _, _⟩ := (show RowFd w2 base v2 (L ++ [(⟨x, y, K, P, S, E⟩ : Fd)]) from RowFd.snoc ho2).sl; obtain ⟨m8, hm8⟩ : ∃ m, (L ++ [(⟨x, y, K, P, S, E⟩ : Fd)]).length = m := ⟨_, rfl⟩; rw [hm8] at hv8; subst hv8; clear hwz hm8 HTZ ho2 hg2 hv2 hi hz0 hz1 hz2)
    rw [← HWZ.out]
    exact bodyPost_end (v := .tuple #[]) (by simp [results, Try.results63, go_sem]) rfl ⟨rfl, HCZ, HT6⟩
  · rw [if_neg h1]
    have h2 : (st == 1) = false := by simpa using h1
    have HB6 : Below w.heap.size w ((w.alloc (.cells #[.int .i64 x, .int .i64 y] 53)).alloc (.cells #[.slice A n c', .int .i64 K, .int .i64 P, .int .i64 S, .int .i64 E, .int .i64 st] 99)) := ((Below.refl _ _).alloc (Nat.le_refl _) _).alloc (by simp) _
    have hB6 := hB.below HB6 hB.lt
    have hR6 := RowFd.below hR HB6
    go_enter Try.func63, Try.ntmps63
    go_wp2
    exact bodyPost_end (v := .tuple #[]) (by simp [results, Try.results63, go_sem]) rfl ⟨rfl, ⟨⟨_, hB6, hR6⟩, hlt⟩, Tch.of_below HB6⟩
end Go.Proofs.Ytdfojhkpfbnmgaa
namespace Go.Proofs.Ytdfojhkpfbnmgaa
open Go.ChangeShapes Go.WideShapes Go.ChangeAt Go.RowKit
attribute [local go_sem ↓] Go.wp_at_zero Go.wp_at_succ
structure Cnt (w : World) (ga gb gc : Nat) (p q r : Nat) : Prop where
  a : Blk w ga 3 #[.int .i64 (p : Int)]
  b : Blk w gb 3 #[.int .i64 (q : Int)]
  c : Blk w gc 3 #[.int .i64 (r : Int)]
  ab : ga ≠ gb
  ac : ga ≠ gc
  bc : gb ≠ gc
def cB (ga gb gc : Nat) (g : Nat) : Prop := g = ga ∨ g = gb ∨ g = gc
theorem Cnt.tch {S : Nat → Prop} {w w' : World} {ga gb gc p q r : Nat} (h : Cnt w ga gb gc p q r) (hT : Tch S w w') (h1 : ∀ g, cB ga gb gc g → ¬ S g) : Cnt w' ga gb gc p q r :=
  ⟨hT.blk h.a (h1 _ (Or.inl rfl)), hT.blk h.b (h1 _ (Or.inr (Or.inl rfl))), hT.blk h.c (h1 _ (Or.inr (Or.inr rfl))), h.ab, h.ac, h.bc⟩
end Go.Proofs.Ytdfojhkpfbnmgaa
namespace Go.Proofs.Ytdfojhkpfbnmgaa
open Go.ChangeShapes Go.WideShapes Go.ChangeAt Go.RowKit
theorem below3 {w w1 : World} {o o' o'' : Obj} (hb : Below (((w.alloc o).alloc o').alloc o'').heap.size (((w.alloc o).alloc o').alloc o'') w1) : Below w.heap.size w w1 :=
  ((((Below.refl _ _).alloc (Nat.le_refl _) _).alloc (by simp) _).alloc (by simp; omega) _).trans (hb.mono (by simp; omega))
theorem Next_yes (a b c d e x y : Int) (w : World) (hm : mayB a b c d e = true) (ht : thereB a b x y = true) (hl : x * b + y + 1 ≠ a * b) :
    Calls Try.prog 69 #[.agg #[.int .i64 a, .int .i64 b, .int .i64 c, .int .i64 d, .int .i64 e], .agg #[.int .i64 x, .int .i64 y]] w fun e' w' => e' = .returned (.tuple #[.agg #[.int .i64 ((x * b + y + 1) / b), .int .i64 ((x * b + y + 1) % b)], .bool true]) ∧ Below w.heap.size w w' := by
  obtain ⟨k1, k2, k3, k4, k7, k8, k5, k6, _⟩ := may_bd hm
  obtain ⟨t1, t2, t3, t4⟩ := there_bd ht
  obtain ⟨p1, p2⟩ := mul_bd (x := x) (y := b) (lo := 0) (hi := 19) (by omega) (by omega) k3 k4 (by omega) (by omega)
  obtain ⟨q1, q2⟩ := mul_bd (x := a) (y := b) k1 k2 k3 k4 (by omega) (by omega)
  have Hm := Lib.hid hm
  clear hm
  have hn : numberI a b x y = x * b + y := by simp [numberI, ht]
  have Hn := Lib.hid hn
  clear hn
  have Ht := Lib.hid ht
  clear ht
  have hl' : (x * b + y + 1 == a * b) = false := by simpa using hl
  go_enter Try.func69, Try.ntmps69
  go_wp2_with (first
    | (go_at_call 42; refine (may_any _ _ _ _ _ _).mono ?_; rw [Hm.out]; rintro e' w1 ⟨rfl, hb1⟩; obtain ⟨hc1, hf1⟩ := bcell hb1; have hz2 : w.heap.size + 2 < w1.heap.size := by { have := hb1.size; simp at this; omega }; have hz1 : w.heap.size + 1 < w1.heap.size := by { omega }; have hz0 : w.heap.size < w1.heap.size := by { omega })
    | (go_at_call 70; refine (there_any _ _ _ _ _ _ _ _ k1 k2 k3 k4).mono ?_; rw [Ht.out]; rintro e' w2 ⟨rfl, hb2⟩; obtain ⟨hc2, hf2⟩ := bcell hb2; have hy2 : w.heap.size + 2 < w2.heap.size := by { have := hb2.size; omega }; have hy1 : w.heap.size + 1 < w2.heap.size := by { omega }; have hy0 : w.heap.size < w2.heap.size := by { omega })
    | (go_at_call 65; refine (Number_any _ _ _ _ _ _ _ _).mono ?_; rw [ifMay_yes _ Hm.out, Hn.out]; rintro e' w3 ⟨rfl, hb3⟩; obtain ⟨hc3, hf3⟩ := bcell hb3; have hx2 : w.heap.size + 2 < w3.heap.size := by { have := hb3.size; omega }; have hx1 : w.heap.size + 1 < w3.heap.size := by { omega }; have hx0 : w.heap.size < w3.heap.size := by { omega }))
  go_region
  go_wp2
  refine bodyPost_ret (v := .tuple #[.agg #[.int .i64 ((x * b + y + 1) / b), .int .i64 ((x * b + y + 1) % b)], .bool true]) (by simp [results, Try.results69, go_sem, hc3, hc2, hc1, hy2, hz2]) rfl ⟨rfl, ?_⟩
  have B3 : Below w.heap.size w w3 := (below3 hb1).trans ((hb2.trans (hb3.mono hb2.size)).mono (by omega))
  exact ((B3.setCell (by simp; omega) _).setCell (by simp; omega) _).drew
def nextOk (a b c d e x y : Int) : Bool := mayB a b c d e && (thereB a b x y && decide (x * b + y + 1 ≠ a * b))
def nextX (a b c d e x y : Int) : Int := if nextOk a b c d e x y = true then (x * b + y + 1) / b else 0
def nextY (a b c d e x y : Int) : Int := if nextOk a b c d e x y = true then (x * b + y + 1) % b else 0
theorem Next_any (a b c d e x y : Int) (w : World) :
    Calls Try.prog 69 #[.agg #[.int .i64 a, .int .i64 b, .int .i64 c, .int .i64 d, .int .i64 e], .agg #[.int .i64 x, .int .i64 y]] w fun e' w' => e' = .returned (.tuple #[.agg #[.int .i64 (nextX a b c d e x y), .int .i64 (nextY a b c d e x y)], .bool (nextOk a b c d e x y)]) ∧ Below w.heap.size w w' := by
  by_cases hok : nextOk a b c d e x y = true
  · have hok' := hok
    simp only [nextOk, Bool.and_eq_true, decide_eq_true_eq] at hok'
    obtain ⟨hm, ht, hl⟩ := hok'
    simp only [nextX, nextY, hok, if_true]
    exact Next_yes a b c d e x y w hm ht hl
  · have hno : nextOk a b c d e x y = false := by simpa using hok
    simp only [nextX, nextY, hno, Bool.false_eq_true, if_false]
    cases hm : mayB a b c d e
    · have Hm := Lib.hid hm
      clear hm hok hno
      go_enter Try.func69, Try.ntmps69
      go_wp2_with (go_at_call 42; refine (may_any _ _ _ _ _ _).mono ?_; rw [Hm.out]; rintro e' w1 ⟨rfl, hb1⟩; obtain ⟨hc1, hf1⟩ := bcell hb1; have hz2 : w.heap.size + 2 < w1.heap.size := by { have := hb1.size; simp at this; omega })
      refine bodyPost_ret (v := .tuple #[.agg #[.int .i64 0, .int .i64 0], .bool false]) (by simp [results, Try.results69, go_sem, hc1]) rfl ⟨rfl, ?_⟩
      exact ((below3 hb1).setCell (by simp; omega) _).setCell (by simp; omega) _
    · obtain ⟨k1, k2, k3, k4, k7, k8, k5, k6, _⟩ := may_bd hm
      have Hm := Lib.hid hm
      clear hm
      cases ht : thereB a b x y
      · have Ht := Lib.hid ht
        clear ht hok hno
        go_enter Try.func69, Try.ntmps69
        go_wp2_with (first
          | (go_at_call 42; refine (may_any _ _ _ _ _ _).mono ?_; rw [Hm.out]; rintro e' w1 ⟨rfl, hb1⟩; obtain ⟨hc1, hf1⟩ := bcell hb1; have hz2 : w.heap.size + 2 < w1.heap.size := by { have := hb1.size; simp at this; omega }; have hz1 : w.heap.size + 1 < w1.heap.size := by { omega }; have hz0 : w.heap.size < w1.heap.size := by { omega })
          | (go_at_call 70; refine (there_any _ _ _ _ _ _ _ _ k1 k2 k3 k4).mono ?_; rw [Ht.out]; rintro e' w2 ⟨rfl, hb2⟩; obtain ⟨hc2, hf2⟩ := bcell hb2; have hy2 : w.heap.size + 2 < w2.heap.size := by { have := hb2.size; omega }))
        refine bodyPost_ret (v := .tuple #[.agg #[.int .i64 0, .int .i64 0], .bool false]) (by simp [results, Try.results69, go_sem, hc1, hc2, hz2]) rfl ⟨rfl, ?_⟩
        exact (((below3 hb1).trans (hb2.mono (by omega))).setCell (by simp; omega) _).setCell (by simp; omega) _
      · obtain ⟨t1, t2, t3, t4⟩ := there_bd ht
        obtain ⟨p1, p2⟩ := mul_bd (x := x) (y := b) (lo := 0) (hi := 19) (by omega) (by omega) k3 k4 (by omega) (by omega)
        obtain ⟨q1, q2⟩ := mul_bd (x := a) (y := b) k1 k2 k3 k4 (by omega) (by omega)
        have hl : x * b + y + 1 = a * b := by simpa [nextOk, Hm.out, ht] using hno
        have hn : numberI a b x y = x * b + y := by simp [numberI, ht]
        have Hn := Lib.hid hn
        have Ht := Lib.hid ht
        have hl' : (x * b + y + 1 == a * b) = true := by simpa using hl
        clear hn ht hok hno hl
        go_enter Try.func69, Try.ntmps69
        go_wp2_with (first
          | (go_at_call 42; refine (may_any _ _ _ _ _ _).mono ?_; rw [Hm.out]; rintro e' w1 ⟨rfl, hb1⟩; obtain ⟨hc1, hf1⟩ := bcell hb1; have hz2 : w.heap.size + 2 < w1.heap.size := by { have := hb1.size; simp at this; omega }; have hz1 : w.heap.size + 1 < w1.heap.size := by { omega }; have hz0 : w.heap.size < w1.heap.size := by { omega })
          | (go_at_call 70; refine (there_any _ _ _ _ _ _ _ _ k1 k2 k3 k4).mono ?_; rw [Ht.out]; rintro e' w2 ⟨rfl, hb2⟩; obtain ⟨hc2, hf2⟩ := bcell hb2; have hy2 : w.heap.size + 2 < w2.heap.size := by { have := hb2.size; omega }; have hy1 : w.heap.size + 1 < w2.heap.size := by { omega }; have hy0 : w.heap.size < w2.heap.size := by { omega })
          | (go_at_call 65; refine (Number_any _ _ _ _ _ _ _ _).mono ?_; rw [ifMay_yes _ Hm.out, Hn.out]; rintro e' w3 ⟨rfl, hb3⟩; obtain ⟨hc3, hf3⟩ := bcell hb3; have hx2 : w.heap.size + 2 < w3.heap.size := by { have := hb3.size; omega }; have hx1 : w.heap.size + 1 < w3.heap.size := by { omega }; have hx0 : w.heap.size < w3.heap.size := by { omega }))
        refine bodyPost_ret (v := .tuple #[.agg #[.int .i64 0, .int .i64 0], .bool false]) (by simp [results, Try.results69, go_sem, hc1, hc2, hc3, hz2, hy2]) rfl ⟨rfl, ?_⟩
        have B3 : Below w.heap.size w w3 := (below3 hb1).trans ((hb2.trans (hb3.mono hb2.size)).mono (by omega))
        exact (B3.setCell (by simp; omega) _).setCell (by simp; omega) _
end Go.Proofs.Ytdfojhkpfbnmgaa
namespace Go.Proofs.Ytdfojhkpfbnmgaa
open Go.ChangeShapes Go.WideShapes Go.ChangeAt Go.RowKit
abbrev Vis := Nat × Nat × List Nat
def walkF (a b c : Int) (NB : Nat) (fs : List Flt) : Nat → Nat → ChS → List Vis → Int × List Vis × ChS
  | 0, _, s, acc => (0, acc, s)
  | r + 1, i, s, acc =>
    if badB fs ((i / NB : Nat) : Int) = true then walkF a b c NB fs r (i + 1) s acc
    else if s.readZ a b ((i / NB : Nat) : Int) ((i % NB : Nat) : Int) = 0 then walkF a b c NB fs r (i + 1) (s.readS a b ((i / NB : Nat) : Int) ((i % NB : Nat) : Int)) (acc ++ [(i / NB, i % NB, s.readB a b c ((i / NB : Nat) : Int) ((i % NB : Nat) : Int))])
    else (s.readZ a b ((i / NB : Nat) : Int) ((i % NB : Nat) : Int), acc, s.readS a b ((i / NB : Nat) : Int) ((i % NB : Nat) : Int))
def fdOf (v : Vis) : List Fd := if readSt v.2.2 = 1 then [⟨(v.1 : Int), (v.2.1 : Int), ((lkT v.2.2).1 : Int), ((lkT v.2.2).2.1 : Int), ((lkT v.2.2).2.2.1 : Int), ((lkT v.2.2).2.2.2 : Int)⟩] else []
def fdsOf (l : List Vis) : List Fd := l.flatMap fdOf
theorem fdsOf_snoc (l : List Vis) (v : Vis) : fdsOf (l ++ [v]) = fdsOf l ++ fdOf v := by simp [fdsOf]
theorem fdOf_lk {k l : Nat} {bs D : List Nat} {n K P S E st : Nat} (h : Lk bs D n K P S E st) : fdOf (k, l, bs) = if st = 1 then [⟨(k : Int), (l : Int), (K : Int), (P : Int), (S : Int), (E : Int)⟩] else [] := by
  obtain ⟨_, _, h3, h4⟩ := h
  unfold fdOf
  rw [h4]
  simp only [h3]
theorem fdsOf_len (l : List Vis) : (fdsOf l).length ≤ l.length := by
  induction l with
  | nil => simp [fdsOf]
  | cons v l ih =>
    have : fdsOf (v :: l) = fdOf v ++ fdsOf l := rfl
    rw [this, List.length_append, List.length_cons]
    have : (fdOf v).length ≤ 1 := by unfold fdOf; split <;> simp
    omega
def cnt (p : Nat → Bool) (l : List Vis) : Nat := (l.filter fun v => p (readSt v.2.2)).length
theorem walkF_bad {a b c : Int} {NB r i : Nat} {fs : List Flt} {s : ChS} {acc : List Vis} (h : badB fs ((i / NB : Nat) : Int) = true) : walkF a b c NB fs (r + 1) i s acc = walkF a b c NB fs r (i + 1) s acc := by
  rw [walkF, if_pos h]
theorem walkF_ok {a b c : Int} {NB r i : Nat} {fs : List Flt} {s S1 : ChS} {acc : List Vis} {bs : List Nat} (h : badB fs ((i / NB : Nat) : Int) = false) (hz : s.readZ a b ((i / NB : Nat) : Int) ((i % NB : Nat) : Int) = 0) (h1 : s.readS a b ((i / NB : Nat) : Int) ((i % NB : Nat) : Int) = S1) (h2 : s.readB a b c ((i / NB : Nat) : Int) ((i % NB : Nat) : Int) = bs) : walkF a b c NB fs (r + 1) i s acc = walkF a b c NB fs r (i + 1) S1 (acc ++ [(i / NB, i % NB, bs)]) := by
  rw [walkF, if_neg (by rw [h]; simp), if_pos hz, h1, h2]
theorem walkF_err {a b c : Int} {NB r i : Nat} {fs : List Flt} {s S1 : ChS} {acc : List Vis} {Z : Int} (h : badB fs ((i / NB : Nat) : Int) = false) (hz : s.readZ a b ((i / NB : Nat) : Int) ((i % NB : Nat) : Int) = Z) (hne : Z ≠ 0) (h1 : s.readS a b ((i / NB : Nat) : Int) ((i % NB : Nat) : Int) = S1) : walkF a b c NB fs (r + 1) i s acc = (Z, acc, S1) := by
  rw [walkF, if_neg (by rw [h]; simp), if_neg (by rw [hz]; exact hne), hz, h1]
theorem divmod {i NA NB : Nat} (hB : 0 < NB) (h : i < NA * NB) : i / NB < NA ∧ i % NB < NB ∧ i / NB * NB + i % NB = i := ⟨Nat.div_lt_of_lt_mul (by rw [Nat.mul_comm]; exact h), Nat.mod_lt _ hB, by rw [Nat.mul_comm]; exact Nat.div_add_mod i NB⟩
theorem there_in {a b : Int} {NA NB i : Nat} (hA : (NA : Int) = a) (hB : (NB : Int) = b) (h0 : 0 < NB) (h : i < NA * NB) : thereB a b ((i / NB : Nat) : Int) ((i % NB : Nat) : Int) = true := by
  obtain ⟨h1, h2, _⟩ := divmod h0 h
  generalize i / NB = q at h1 ⊢
  generalize i % NB = r at h2 ⊢
  unfold thereB withinB
  simp
  omega
theorem next_at (a b c d e : Int) (NA NB i : Nat) (w : World) (hm : mayB a b c d e = true) (hA : (NA : Int) = a) (hB : (NB : Int) = b) (h0 : 0 < NB) (h : i < NA * NB) (X Y : Int) (T : Bool) (hX : Hid (X = (if i + 1 < NA * NB then (((i + 1) / NB : Nat) : Int) else 0) ∧ Y = (if i + 1 < NA * NB then (((i + 1) % NB : Nat) : Int) else 0) ∧ T = decide (i + 1 < NA * NB))) :
    Calls Try.prog 69 #[.agg #[.int .i64 a, .int .i64 b, .int .i64 c, .int .i64 d, .int .i64 e], .agg #[.int .i64 ((i / NB : Nat) : Int), .int .i64 ((i % NB : Nat) : Int)]] w fun e' w' => e' = .returned (.tuple #[.agg #[.int .i64 X, .int .i64 Y], .bool T]) ∧ Below w.heap.size w w' := by
  have ht := there_in hA hB h0 h
  obtain ⟨h1, h2, h3⟩ := divmod h0 h
  have hx : ((i / NB : Nat) : Int) * b + ((i % NB : Nat) : Int) + 1 = ((i + 1 : Nat) : Int) := by rw [← hB, ← Int.natCast_mul]; omega
  have hab : a * b = ((NA * NB : Nat) : Int) := by rw [← hA, ← hB, Int.natCast_mul]
  have hok : nextOk a b c d e ((i / NB : Nat) : Int) ((i % NB : Nat) : Int) = decide (i + 1 < NA * NB) := by
    unfold nextOk
    rw [hm, ht, hx, hab, Bool.true_and, Bool.true_and]
    by_cases hl : i + 1 < NA * NB
    · rw [decide_eq_true hl, decide_eq_true (by omega)]
    · rw [decide_eq_false hl, decide_eq_false (by omega)]
  have := Next_any a b c d e ((i / NB : Nat) : Int) ((i % NB : Nat) : Int) w
  have eX : nextX a b c d e ((i / NB : Nat) : Int) ((i % NB : Nat) : Int) = X := by
    unfold nextX
    rw [hok, hX.out.1, hx]
    by_cases hl : i + 1 < NA * NB
    · rw [if_pos (decide_eq_true hl), if_pos hl, ← hB]
      rfl
    · rw [if_neg (by simpa using hl), if_neg hl]
  have eY : nextY a b c d e ((i / NB : Nat) : Int) ((i % NB : Nat) : Int) = Y := by
    unfold nextY
    rw [hok, hX.out.2.1, hx]
    by_cases hl : i + 1 < NA * NB
    · rw [if_pos (decide_eq_true hl), if_pos hl, ← hB]
      rfl
    · rw [if_neg (by simpa using hl), if_neg hl]
  rw [eX, eY, hok, ← hX.out.2.2] at this
  exact this
end Go.Proofs.Ytdfojhkpfbnmgaa
namespace Go.Proofs.Ytdfojhkpfbnmgaa
open Go.ChangeShapes Go.WideShapes Go.ChangeAt Go.RowKit
attribute [local go_sem ↓] Go.wp_at_zero Go.wp_at_succ
end Go.Proofs.Ytdfojhkpfbnmgaa
namespace Go.Proofs.Ytdfojhkpfbnmgaa
open Go.ChangeShapes Go.WideShapes Go.ChangeAt Go.RowKit
end Go.Proofs.Ytdfojhkpfbnmgaa
namespace Go.Proofs.Ytdfojhkpfbnmgaa
open Go.ChangeShapes Go.WideShapes Go.ChangeAt Go.RowKit
def ChS.wait (s : ChS) : Int := if s.armed then s.turn - s.ops else 0
def rfB (m gB gN gW gD : Nat) (g : Nat) : Prop := g = m ∨ g = gB ∨ g = gN ∨ g = gW ∨ g = gD
structure PgAt (w : World) (L : Nat) (S : Nat → Prop) (RW : Nat) (X : List Nat) (N : Nat) (p : Nat × Nat) : Prop where
  lt : p.1 < w.heap.size
  ge : L ≤ p.1
  ns : ¬ S p.1
  cap : RW ≤ p.2
  cap2 : p.2 ≤ maxLen
  cell : ∀ j, j < RW → w.cell? ⟨p.1, j, none⟩ = some (byteV (X.getD (N * RW + j) 0))
theorem PgAt.keep {w w' : World} {L RW N : Nat} {S : Nat → Prop} {X : List Nat} {p : Nat × Nat} (h : PgAt w L S RW X N p) (hz : w.heap.size ≤ w'.heap.size) (hk : w'.heap[p.1]? = w.heap[p.1]?) : PgAt w' L S RW X N p :=
  ⟨by have := h.lt; omega, h.ge, h.ns, h.cap, h.cap2, fun j hj => by rw [← h.cell j hj]; exact World.cell?_of_block (w := w) hk⟩
def pgV (RW : Nat) (p : Nat × Nat) : Value := .slice (some ⟨p.1, 0, none⟩) RW p.2
def FltR (w : World) (L : Nat) (S : Nat → Prop) (A : Option Addr) (fs : List Flt) : Prop :=
  fs = [] ∨ ∃ g off, A = some ⟨g, off, none⟩ ∧ g < w.heap.size ∧ L ≤ g ∧ ¬ S g ∧ ∀ k f, fs[k]? = some f →
    w.cell? ⟨g, off + k * 3, none⟩ = some (.int .i64 f.blk) ∧ w.cell? ⟨g, off + k * 3 + 1, none⟩ = some (.bool f.fac) ∧ w.cell? ⟨g, off + k * 3 + 2, none⟩ = some (.int .i64 f.aft)
theorem FltR.sl {w : World} {L : Nat} {S : Nat → Prop} {A : Option Addr} {fs : List Flt} (h : FltR w L S A fs) : SlF w w.heap.size A fs := by
  rcases h with h | ⟨g, off, e, hlt, _, _, hc⟩
  · exact Or.inl h
  · exact Or.inr ⟨g, off, e, hlt, hc⟩
theorem FltR.keep {w w' : World} {L : Nat} {S : Nat → Prop} {A : Option Addr} {fs : List Flt} (h : FltR w L S A fs) (hz : w.heap.size ≤ w'.heap.size) (hk : ∀ g, g < w.heap.size → L ≤ g → ¬ S g → w'.heap[g]? = w.heap[g]?) : FltR w' L S A fs := by
  rcases h with h | ⟨g, off, e, hlt, h1, h2, hc⟩
  · exact Or.inl h
  · have hq : ∀ o, w'.cell? ⟨g, o, none⟩ = w.cell? ⟨g, o, none⟩ := fun o => World.cell?_of_block (w := w) (hk g hlt h1 h2)
    exact Or.inr ⟨g, off, e, by omega, h1, h2, fun k f hf => by rw [hq, hq, hq]; exact hc k f hf⟩
def kcol (K : List Int) (j NB : Nat) : List Value := (List.range NB).map (fun i => Value.int .i64 (K.getD (3 * i + j) 0))
end Go.Proofs.Ytdfojhkpfbnmgaa
namespace Go.Proofs.Ytdfojhkpfbnmgaa
open Go.ChangeShapes Go.WideShapes Go.ChangeAt Go.RowKit
structure ChS.Wt (s : ChS) : Prop where
  w0 : s.armed = true → s.ops + 1 ≤ s.turn
  w1 : s.armed = true → s.turn ≤ 4000000000
end Go.Proofs.Ytdfojhkpfbnmgaa
namespace Go.Proofs.Ytdfojhkpfbnmgaa
open Go.ChangeShapes Go.WideShapes Go.ChangeAt Go.RowKit
structure RefC (w : World) (m gB gN gW gD L : Nat) (Af : Option Addr) (nf cf : Nat) (a b c d e : Int) (fs : List Flt) (s : ChS) (NP NB RW cB : Nat) : Prop where
  y0 : w.cell? ⟨m, 0, none⟩ = some (.int .i64 a)
  y1 : w.cell? ⟨m, 1, none⟩ = some (.int .i64 b)
  y2 : w.cell? ⟨m, 2, none⟩ = some (.int .i64 c)
  y3 : w.cell? ⟨m, 3, none⟩ = some (.int .i64 d)
  y4 : w.cell? ⟨m, 4, none⟩ = some (.int .i64 e)
  y5 : w.cell? ⟨m, 5, none⟩ = some (.slice Af nf cf)
  y6 : w.cell? ⟨m, 6, none⟩ = some (.slice (some ⟨gB, 0, none⟩) NP cB)
  y7 : w.cell? ⟨m, 7, none⟩ = some (.slice (some ⟨gN, 0, none⟩) NB NB)
  y8 : w.cell? ⟨m, 8, none⟩ = some (.slice (some ⟨gW, 0, none⟩) NB NB)
  y9 : w.cell? ⟨m, 9, none⟩ = some (.slice (some ⟨gD, 0, none⟩) NB NB)
  y10 : w.cell? ⟨m, 10, none⟩ = some (.int .i64 s.ops)
  y11 : w.cell? ⟨m, 11, none⟩ = some (.int .i64 s.cuts)
  y12 : w.cell? ⟨m, 12, none⟩ = some (.bool (!s.on))
  y13 : w.cell? ⟨m, 13, none⟩ = some (.int .i64 s.wait)
  y14 : w.cell? ⟨m, 14, none⟩ = some (.int .i64 s.cop)
  y15 : w.cell? ⟨m, 15, none⟩ = some (.int .i64 s.cby)
  y16 : w.cell? ⟨m, 16, none⟩ = some (.int .u8 (s.fill : Nat))
  fm : ∀ i, w.frozen? ⟨m, i, none⟩ = false
  hRW : Hid ((RW : Int) = c + 16)
  hNP : Hid ((NP : Int) = a * b)
  hNB : Hid ((NB : Int) = a)
  hcB : Hid (NP ≤ cB)
  n0 : ∀ k, k < NB → w.cell? ⟨gN, k, none⟩ = some (.int .i64 (s.k (k : Int) 0))
  n1 : ∀ k, k < NB → w.cell? ⟨gW, k, none⟩ = some (.int .i64 (s.k (k : Int) 1))
  n2 : ∀ k, k < NB → w.cell? ⟨gD, k, none⟩ = some (.int .i64 (s.k (k : Int) 2))
end Go.Proofs.Ytdfojhkpfbnmgaa
namespace Go.Proofs.Ytdfojhkpfbnmgaa
open Go.ChangeShapes Go.WideShapes Go.ChangeAt Go.RowKit
theorem cellOf {w w' : World} (h : Below w.heap.size w w') {p : Addr} {v : Value} (hc : w.cell? p = some v) : w'.cell? p = some v := (h.cell (World.block_lt_of_cell? w p hc)).trans hc
theorem RefC.below {w w' : World} {m gB gN gW gD L : Nat} {Af : Option Addr} {nf cf : Nat} {a b c d e : Int} {fs : List Flt} {s : ChS} {NP NB RW cB : Nat} (h : RefC w m gB gN gW gD L Af nf cf a b c d e fs s NP NB RW cB) (hb : Below w.heap.size w w') : RefC w' m gB gN gW gD L Af nf cf a b c d e fs s NP NB RW cB :=
  ⟨cellOf hb h.y0, cellOf hb h.y1, cellOf hb h.y2, cellOf hb h.y3, cellOf hb h.y4, cellOf hb h.y5, cellOf hb h.y6, cellOf hb h.y7, cellOf hb h.y8, cellOf hb h.y9, cellOf hb h.y10, cellOf hb h.y11, cellOf hb h.y12, cellOf hb h.y13, cellOf hb h.y14, cellOf hb h.y15, cellOf hb h.y16, fun i => (hb.frozen (p := ⟨m, i, none⟩) (show m < w.heap.size from World.block_lt_of_cell? w ⟨m, 0, none⟩ h.y0)).trans (h.fm i), h.hRW, h.hNP, h.hNB, h.hcB, fun k hk => cellOf hb (h.n0 k hk), fun k hk => cellOf hb (h.n1 k hk), fun k hk => cellOf hb (h.n2 k hk)⟩
structure PgR (w : World) (gB N RW : Nat) (p c : Nat) (bs : List Nat) : Prop where
  cN : w.cell? ⟨gB, N, none⟩ = some (.slice (some ⟨p, 0, none⟩) RW c)
  rd : Rd w (some ⟨p, 0, none⟩) RW 1 (bs.map byteV)
  lt : p < w.heap.size
  cap : RW ≤ c
  cap2 : c ≤ maxLen
theorem PgR.below {w w' : World} {gB N RW p c : Nat} {bs : List Nat} (h : PgR w gB N RW p c bs) (hb : Below w.heap.size w w') : PgR w' gB N RW p c bs :=
  ⟨cellOf hb h.cN, h.rd.keep (fun b o e j => by cases e; exact hb.cell h.lt), by have := h.lt; have := hb.size; omega, h.cap, h.cap2⟩
end Go.Proofs.Ytdfojhkpfbnmgaa
namespace Go.Proofs.Ytdfojhkpfbnmgaa
open Go.ChangeShapes Go.WideShapes Go.ChangeAt Go.RowKit
end Go.Proofs.Ytdfojhkpfbnmgaa
namespace Go.Proofs.Ytdfojhkpfbnmgaa
open Go.ChangeShapes Go.WideShapes Go.ChangeAt Go.RowKit
end Go.Proofs.Ytdfojhkpfbnmgaa
namespace Go.Proofs.Ytdfojhkpfbnmgaa
open Go.ChangeShapes Go.WideShapes Go.ChangeAt Go.RowKit
end Go.Proofs.Ytdfojhkpfbnmgaa
namespace Go.Proofs.Ytdfojhkpfbnmgaa
open Go.ChangeShapes Go.WideShapes Go.ChangeAt Go.RowKit
def Fresh (w w' : World) (gB : Nat) : Prop := ∀ i, w'.cell? ⟨gB, i, none⟩ = w.cell? ⟨gB, i, none⟩ ∨ ∃ g n c, w'.cell? ⟨gB, i, none⟩ = some (.slice (some ⟨g, 0, none⟩) n c) ∧ w.heap.size ≤ g
theorem Fresh.of {w w' : World} {gB : Nat} (hk : w'.heap[gB]? = w.heap[gB]?) : Fresh w w' gB := fun i => Or.inl (World.cell?_of_block (w := w) hk)
theorem Fresh.then {w w' w'' : World} {gB : Nat} (h : Fresh w w' gB) (hk : w''.heap[gB]? = w'.heap[gB]?) : Fresh w w'' gB := by
  intro i
  have e : w''.cell? ⟨gB, i, none⟩ = w'.cell? ⟨gB, i, none⟩ := World.cell?_of_block (w := w') hk
  rw [e]
  exact h i
theorem Fresh.put {w w1 : World} {gB N g9 n c : Nat} {t : TypeId} (hk : w1.heap[gB]? = w.heap[gB]?) (hB : ∃ cs, Blk w1 gB t cs) (hg : w.heap.size ≤ g9) : Fresh w (w1.setCell ⟨gB, N, none⟩ (.slice (some ⟨g9, 0, none⟩) n c)) gB := by
  intro i
  obtain ⟨cs, hB⟩ := hB
  have e : w1.cell? ⟨gB, i, none⟩ = w.cell? ⟨gB, i, none⟩ := World.cell?_of_block (w := w) hk
  rw [← e, (hB.set_ N _).cell_, hB.cell_, Array.getElem?_setIfInBounds]
  by_cases h1 : N = i
  · rw [if_pos h1]
    by_cases h2 : N < cs.size
    · rw [if_pos h2]
      exact Or.inr ⟨g9, n, c, rfl, hg⟩
    · rw [if_neg h2, Array.getElem?_eq_none (by omega)]
      exact Or.inl rfl
  · rw [if_neg h1]
    exact Or.inl rfl
end Go.Proofs.Ytdfojhkpfbnmgaa
namespace Go.Proofs.Ytdfojhkpfbnmgaa
open Go.ChangeShapes Go.WideShapes Go.ChangeAt Go.RowKit
end Go.Proofs.Ytdfojhkpfbnmgaa
namespace Go.Proofs.Ytdfojhkpfbnmgaa
open Go.ChangeShapes Go.WideShapes Go.ChangeAt Go.RowKit
end Go.Proofs.Ytdfojhkpfbnmgaa
namespace Go.Proofs.Ytdfojhkpfbnmgaa
open Go.ChangeShapes Go.WideShapes Go.ChangeAt Go.RowKit
end Go.Proofs.Ytdfojhkpfbnmgaa
namespace Go.Proofs.Ytdfojhkpfbnmgaa
open Go.ChangeShapes Go.WideShapes Go.ChangeAt Go.RowKit
end Go.Proofs.Ytdfojhkpfbnmgaa
namespace Go.Proofs.Ytdfojhkpfbnmgaa
open Go.ChangeShapes Go.WideShapes Go.ChangeAt Go.RowKit
end Go.Proofs.Ytdfojhkpfbnmgaa
namespace Go.Proofs.Ytdfojhkpfbnmgaa
open Go.ChangeShapes Go.WideShapes Go.ChangeAt Go.RowKit
theorem Wt.tick {s : ChS} (h : s.Wt) : s.tick.Wt := by
  unfold ChS.tick
  split
  · exact ⟨fun e => (by cases e), fun e => (by cases e)⟩
  · next hc =>
    refine ⟨fun e => ?_, fun e => h.w1 e⟩
    have e' : s.armed = true := e
    have h0 := h.w0 e'
    have : ¬ s.ops + 1 = s.turn := fun e2 => hc (by unfold ChS.cutB; rw [e', decide_eq_true e2]; rfl)
    show s.ops + 1 + 1 ≤ s.turn
    omega
theorem Wt.of {s s' : ChS} (h : s.Wt) (h1 : s'.armed = s.armed) (h2 : s'.turn = s.turn) (h3 : s'.ops = s.ops) : s'.Wt :=
  ⟨fun e => by rw [h2, h3]; exact h.w0 (h1 ▸ e), fun e => by rw [h2]; exact h.w1 (h1 ▸ e)⟩
theorem Wt.read {s : ChS} (h : s.Wt) (a b x y : Int) : (s.readS a b x y).Wt := by
  unfold ChS.readS
  split
  · exact Wt.tick h
  · exact h
theorem Wt.prog {s : ChS} (h : s.Wt) (a b c : Int) (fs : List Flt) (x y : Int) (bs : List Nat) : (s.progS a b c fs x y bs).Wt := by
  unfold ChS.progS
  split
  · split
    · split
      · exact Wt.of (Wt.tick h) rfl rfl rfl
      · exact Wt.of (Wt.tick h) rfl rfl rfl
    · exact Wt.tick h
  · exact h
theorem Wt.erase {s : ChS} (h : s.Wt) (a b c : Int) (fs : List Flt) (x : Int) : (s.eraseS a b c fs x).Wt := by
  unfold ChS.eraseS
  split
  · split
    · exact Wt.tick h
    · exact Wt.of (Wt.tick h) rfl rfl rfl
  · exact h
theorem Wt.boot {s : ChS} (h : s.Wt) : s.boot.Wt := by
  unfold ChS.boot
  split
  · exact h
  · exact ⟨fun e => (by cases e), fun e => (by cases e)⟩
theorem Wt.arm {s : ChS} {n : Int} (h : s.Wt) (hb : s.Bnd n) (hn : n ≤ 900000000) (xo xb : Int) (xf : Nat) : (s.arm xo xb xf).Wt := by
  unfold ChS.arm
  split
  · next hc =>
    simp only [Bool.and_eq_true] at hc
    obtain ⟨_, hc⟩ := hc
    unfold armOkB at hc
    simp only [Bool.and_eq_true, decide_eq_true_eq] at hc
    obtain ⟨⟨⟨h1, h2⟩, h3⟩, h4⟩ := hc
    have := hb.o0
    have := hb.o1
    refine ⟨fun _ => ?_, fun _ => ?_⟩
    · show s.ops + 1 ≤ s.ops + xo
      omega
    · show s.ops + xo ≤ 4000000000
      omega
  · exact h
structure ChipL (w : World) (L : Nat) (m gx gb : Nat) (Af : Option Addr) (nf cf : Nat) (a b c d e : Int) (fs : List Flt) (s : ChS) : Prop where
  chip : ChipW w m gx gb Af nf cf a b c d e fs s
  low : ∀ g, chB m gx gb g → g < L
  lowF : fs = [] ∨ ∃ g off, Af = some ⟨g, off, none⟩ ∧ g < L
theorem ChipL.far {w w' : World} {L : Nat} {m gx gb : Nat} {Af : Option Addr} {nf cf : Nat} {a b c d e : Int} {fs : List Flt} {s : ChS} (h : ChipL w L m gx gb Af nf cf a b c d e fs s) {S : Nat → Prop} (hT : Tch S w w') (hs : ∀ g, S g → L ≤ g) : ChipL w' L m gx gb Af nf cf a b c d e fs s := by
  have hn : ∀ g, g < L → ¬ S g := fun g hg h1 => by have := hs g h1; omega
  obtain ⟨⟨⟨cx, cb, NX, NB, hX, hN, hcx, hB⟩, r1, r2, r3, n1, n2, n3, l1, l2, l3, l4⟩, lo, lf⟩ := h
  refine ⟨⟨⟨cx, cb, NX, NB, hX, hN, hcx, (hT.far m hB.lt (hn m (lo m (Or.inl rfl)))).trans hB⟩, r1.keep (hT.far gx r1.lt (hn gx (lo gx (Or.inr (Or.inl rfl))))), r2.keep (hT.far gb r2.lt (hn gb (lo gb (Or.inr (Or.inr rfl))))), ?_, n1, n2, n3, l1, l2, l3, l4⟩, lo, lf⟩
  rcases lf with lf | ⟨g, off, e, hg⟩
  · exact Or.inl lf
  · rcases r3 with r3 | ⟨g', off', e', hlt, h1, h2, h3, hc⟩
    · exact Or.inl r3
    · rw [e] at e'
      obtain ⟨rfl, rfl⟩ : g = g' ∧ off = off' := by cases e'; exact ⟨rfl, rfl⟩
      have hq : ∀ o, w'.cell? ⟨g, o, none⟩ = w.cell? ⟨g, o, none⟩ := fun o => World.cell?_of_block (w := w) (hT.far g hlt (hn g hg))
      exact Or.inr ⟨g, off, e, by have := hT.size; omega, h1, h2, h3, fun k f hf => by rw [hq, hq, hq]; exact hc k f hf⟩
theorem ChipL.next {w w' : World} {L : Nat} {m gx gb : Nat} {Af : Option Addr} {nf cf : Nat} {a b c d e : Int} {fs : List Flt} {s s' : ChS} (h : ChipL w L m gx gb Af nf cf a b c d e fs s) (hC : ChipW w' m gx gb Af nf cf a b c d e fs s') : ChipL w' L m gx gb Af nf cf a b c d e fs s' := ⟨hC, h.low, h.lowF⟩
end Go.Proofs.Ytdfojhkpfbnmgaa
namespace Go.Proofs.Ytdfojhkpfbnmgaa
open Go.ChangeShapes Go.WideShapes Go.ChangeAt Go.RowKit
theorem ChipL.below_ {w w' : World} {L : Nat} {m gx gb : Nat} {Af : Option Addr} {nf cf : Nat} {a b c d e : Int} {fs : List Flt} {s : ChS} (h : ChipL w L m gx gb Af nf cf a b c d e fs s) (hb : Below w.heap.size w w') : ChipL w' L m gx gb Af nf cf a b c d e fs s := ⟨h.chip.below hb, h.low, h.lowF⟩
def twB (m gx gb mR gB gN gW gD : Nat) (g : Nat) : Prop := chB m gx gb g ∨ (rfB mR gB gN gW gD) g
structure Good (s : ChS) (n : Int) : Prop where
  fine : Fine s n
  wt : s.Wt
theorem Good.mono {s : ChS} {n n' : Int} (h : Good s n) (hn : n ≤ n') : Good s n' := ⟨h.fine.mono hn, h.wt⟩
theorem Good.read {s : ChS} {n : Int} (h : Good s n) (a b x y : Int) : Good (s.readS a b x y) (n + 3) := by
  refine ⟨?_, Wt.read h.wt a b x y⟩
  unfold ChS.readS
  split
  · exact h.fine.tick.mono (by omega)
  · exact h.fine.mono (by omega)
theorem Good.prog {w : World} {m gx gb : Nat} {Af : Option Addr} {nf cf : Nat} {a b c d e : Int} {fs : List Flt} {s : ChS} (hC : ChipW w m gx gb Af nf cf a b c d e fs s) {n : Int} (h : Good s n) (x y : Int) (bs : List Nat) : Good (s.progS a b c fs x y bs) (n + 3) :=
  ⟨(prog_same hC h.fine x y bs (x.toNat + 1) (by omega)).2, Wt.prog h.wt a b c fs x y bs⟩
theorem Good.erase {w : World} {m gx gb : Nat} {Af : Option Addr} {nf cf : Nat} {a b c d e : Int} {fs : List Flt} {s : ChS} (hC : ChipW w m gx gb Af nf cf a b c d e fs s) {n : Int} (h : Good s n) (hn : 20 ≤ n) (x : Int) : Good (s.eraseS a b c fs x) (n + 3) :=
  ⟨(erase_same hC h.fine hn x (x.toNat + 1) (by omega)).2, Wt.erase h.wt a b c fs x⟩
theorem Good.arm {s : ChS} {n : Int} (h : Good s n) (hn : n ≤ 900000000) (xo xb : Int) (xf : Nat) (hf : xf < 256) : Good (s.arm xo xb xf) (n + 3) :=
  ⟨((arm_same s 0 0 h.fine xo xb xf 0 hf).2).mono (by omega), Wt.arm h.wt h.fine.bnd hn xo xb xf⟩
theorem Good.boot {s : ChS} {n : Int} (h : Good s n) : Good s.boot (n + 3) := ⟨((boot_same s 0 0 h.fine 0).2).mono (by omega), Wt.boot h.wt⟩
end Go.Proofs.Ytdfojhkpfbnmgaa
namespace Go.Proofs.Ytdfojhkpfbnmgaa
open Go.ChangeShapes Go.WideShapes Go.ChangeAt Go.RowKit
def jumpsQ (J : Nat → Act → World → Prop) (Q : Exit → Act → World → Prop) : Exit → Act → World → Prop
  | .goto l, a, w => J l a w
  | e, a, w => Q e a w
theorem jumpsQ_mono {J J' : Nat → Act → World → Prop} {Q : Exit → Act → World → Prop} (h : ∀ l a w, J l a w → J' l a w) : ∀ e a w, jumpsQ J Q e a w → jumpsQ J' Q e a w := by
  intro e a w hq
  cases e with
  | goto l => exact h l a w hq
  | normal => exact hq
  | exit id => exact hq
  | ret => exact hq
  | panic ch => exact hq
  | outgrown => exact hq
theorem wp_to {P : Program} {c : Code} {a : Act} {w : World} {Q Q' : Exit → Act → World → Prop} (h : c.wp P Q a w) (hq : ∀ e a w, Q e a w → Q' e a w) : c.wp P Q' a w := by
  intro b k cs
  obtain ⟨e, a1, w1, h1, h2⟩ := h b k cs
  exact ⟨e, a1, w1, hq _ _ _ h1, h2⟩
theorem wp_scope_many {P : Program} {c : Code} {a : Act} {w : World} {Q : Exit → Act → World → Prop} (J : Nat → Nat → Act → World → Prop)
    (pass : ∀ l n a' w', J l n a' w' → (∀ l' m a1 w1, m < n → J l' m a1 w1 → ∀ rest, findLabel c l' = some (.seq .skip rest) → rest.wp P (jumpsQ (fun l a w => ∃ m, m < n ∧ J l m a w) Q) a1 w1) → ∃ rest, findLabel c l = some (.seq .skip rest) ∧ rest.wp P (jumpsQ (fun l a w => ∃ m, m < n ∧ J l m a w) Q) a' w')
    (first : (∀ l n a' w', J l n a' w' → ∀ rest, findLabel c l = some (.seq .skip rest) → rest.wp P (jumpsQ (fun l a w => ∃ n, J l n a w) Q) a' w') → c.wp P (jumpsQ (fun l a w => ∃ n, J l n a w) Q) a w) : (Code.scope c).wp P Q a w := by
  have step : ∀ n l a w, J l n a w → ∃ rest, findLabel c l = some (.seq .skip rest) ∧ rest.wp P (jumpsQ (fun l a w => ∃ m, m < n ∧ J l m a w) Q) a w := by
    intro n
    induction n using Nat.strongRecOn with
    | _ n ih =>
      intro l a w h
      refine pass l n a w h (fun l' m a1 w1 hm hJ rest hr => ?_)
      obtain ⟨rest', hr', hw⟩ := ih m hm l' a1 w1 hJ
      rw [hr] at hr'
      cases hr'
      exact wp_to hw (jumpsQ_mono fun l a w ⟨k, hk, h⟩ => ⟨k, by omega, h⟩)
  have hfirst := first (fun l n a' w' hJ rest hr => by
    obtain ⟨rest', hr', hw⟩ := step n l a' w' hJ
    rw [hr] at hr'
    cases hr'
    exact wp_to hw (jumpsQ_mono fun l a w ⟨k, hk, h⟩ => ⟨k, h⟩))
  intro b k cs
  have key : ∀ n l a w, J l n a w → ∃ rest, findLabel c l = some rest ∧ ∃ e a' w', Q e a' w' ∧ Arrives P (lone (b.at a (.code rest :: .inScope c :: k)) cs w) b k cs e a' w' := by
    intro n
    induction n using Nat.strongRecOn with
    | _ n ih =>
      intro l a w hJ
      obtain ⟨rest, hr, hw⟩ := step n l a w hJ
      replace hw := wp_seq (x := .skip) (wp_skip hw)
      refine ⟨_, hr, ?_⟩
      obtain ⟨e, a₁, w₁, hq, harr⟩ := hw b (.inScope c :: k) cs
      cases e with
      | normal => exact ⟨.normal, a₁, w₁, hq, Steps.trans harr (.one step_inScope)⟩
      | exit id => exact ⟨.exit id, a₁, w₁, hq, fun k' hk => harr k' (by simp [exitTo, hk])⟩
      | goto l' =>
        obtain ⟨m, hlt, hJ'⟩ := hq
        obtain ⟨rest2, hr2, e₂, a₂, w₂, hq₂, harr₂⟩ := ih m hlt l' a₁ w₁ hJ'
        have hg : gotoIn l' (.inScope c :: k) = some (.code rest2 :: .inScope c :: k) := by simp [gotoIn, hr2]
        exact ⟨e₂, a₂, w₂, hq₂, .of_steps (harr _ hg) harr₂⟩
      | ret => exact ⟨_, a₁, w₁, hq, harr⟩
      | panic ch => exact ⟨_, a₁, w₁, hq, harr⟩
      | outgrown => exact ⟨_, a₁, w₁, hq, harr⟩
  obtain ⟨e, a₁, w₁, hq, harr⟩ := hfirst b (.inScope c :: k) cs
  cases e with
  | normal => exact ⟨.normal, a₁, w₁, hq, .head step_scope (Steps.trans harr (.one step_inScope))⟩
  | exit id => exact ⟨.exit id, a₁, w₁, hq, fun k' hk => .head step_scope (harr k' (by simp [exitTo, hk]))⟩
  | goto l' =>
    obtain ⟨m, hJ'⟩ := hq
    obtain ⟨rest2, hr2, e₂, a₂, w₂, hq₂, harr₂⟩ := key m l' a₁ w₁ hJ'
    have hg : gotoIn l' (.inScope c :: k) = some (.code rest2 :: .inScope c :: k) := by simp [gotoIn, hr2]
    exact ⟨e₂, a₂, w₂, hq₂, .of_steps (.head step_scope (harr _ hg)) harr₂⟩
  | ret => exact ⟨_, a₁, w₁, hq, .of_steps (.one step_scope) harr⟩
  | panic ch => exact ⟨_, a₁, w₁, hq, .of_steps (.one step_scope) harr⟩
  | outgrown => exact ⟨_, a₁, w₁, hq, .of_steps (.one step_scope) harr⟩
theorem jumpsQ_ret {J : Nat → Act → World → Prop} {Q : Exit → Act → World → Prop} {a : Act} {w : World} (h : Q .ret a w) : jumpsQ J Q .ret a w := h
end Go.Proofs.Ytdfojhkpfbnmgaa
namespace Go.Proofs.Ytdfojhkpfbnmgaa
open Go.ChangeShapes Go.WideShapes Go.ChangeAt Go.RowKit
attribute [local go_sem ↓] Go.wp_at_zero Go.wp_at_succ
theorem readB_8 {s : ChS} (h : Bytes8 s.X) (a b c x y : Int) : Bytes8 (s.readB a b c x y) := by
  unfold ChS.readB
  split
  · intro v hv
    exact h v (List.mem_of_mem_drop (List.mem_of_mem_take hv))
  · intro v hv
    simp at hv
theorem readB_le (s : ChS) (a b c x y : Int) (hc : c ≤ 64) : (s.readB a b c x y).length ≤ 1000000 := by
  unfold ChS.readB
  split
  · unfold ChS.pageOf
    rw [List.length_take]
    omega
  · simp
theorem readS_X (s : ChS) (a b x y : Int) : (s.readS a b x y).X = s.X := by
  unfold ChS.readS
  split
  · unfold ChS.tick
    split <;> rfl
  · rfl
theorem ChN.below_ {w w' : World} {L : Nat} {m gx gb : Nat} {Af : Option Addr} {nf cf : Nat} {a b c d e : Int} {fs : List Flt} {s : ChS} (h : ChN w L m gx gb Af nf cf a b c d e fs s) (hb : Below w.heap.size w w') : ChN w' L m gx gb Af nf cf a b c d e fs s := ⟨h.chip.below hb, h.low, h.lowF⟩
theorem ChN.geo {w : World} {L : Nat} {m gx gb : Nat} {Af : Option Addr} {nf cf : Nat} {a b c d e : Int} {fs : List Flt} {s : ChS} (h : ChN w L m gx gb Af nf cf a b c d e fs s) : mayB a b c d e = true ∧ 4 ≤ b ∧ b ≤ 8 ∧ 8 ≤ a ∧ a ≤ 20 ∧ c ≤ 64 := by
  obtain ⟨hm, -, -⟩ := planMay_bd h.chip.may
  obtain ⟨g1, g2, g3, g4, g5, g6, -⟩ := may_bd hm
  exact ⟨hm, g3, g4, g1, g2, g6⟩
structure Evscan (w0 : World) (n0 : Int) (m gx gb : Nat) (Af : Option Addr) (nf cf : Nat) (a b c d e : Int) (fs : List Flt) (L NA NB gs : Nat) (R : Int × List Vis × ChS) (wr : World) (i : Nat) (S : ChS) (acc : List Vis) (x y : Int) : Prop where
  chip : ChN wr L m gx gb Af nf cf a b c d e fs S
  pl : Blk wr w0.heap.size 53 #[.int .i64 x, .int .i64 y]
  pg : ∃ v0 v1 v2 v3 v4 v5, Blk wr (w0.heap.size + 1) 99 #[v0, v1, v2, v3, v4, v5]
  cap : (Cap wr gs (w0.heap.size + 2) (fdsOf acc))
  alen : acc.length ≤ i
  tch : Tch (fun g => chB m gx gb g ∨ g = gs ∨ w0.heap.size ≤ g) w0 wr
  good : Good S (n0 + 3 * (i : Int))
  by8 : Bytes8 S.X
  lt : i < NA * NB
  px : x = ((i / NB : Nat) : Int)
  py : y = ((i % NB : Nat) : Int)
def scanJ1 (w0 : World) (n0 : Int) (m gx gb : Nat) (Af : Option Addr) (nf cf : Nat) (a b c d e : Int) (fs : List Flt) (L NA NB gs : Nat) (R : Int × List Vis × ChS) (n : Nat) (a' : Act) (wr : World) : Prop := ∃ (i : Nat) (S : ChS) (acc : List Vis) (x y : Int) (u : Nat → Value),
  a' = { tmps := #[.pointer (some ⟨m, 0, none⟩), .func (.func 63) #[] #[.pointer (some ⟨gs, 0, none⟩)], u 2, u 3, .int .i64 0, .pointer (some ⟨w0.heap.size, 0, none⟩), .pointer (some ⟨w0.heap.size + 1, 0, none⟩), u 7, u 8, u 9, u 10, u 11, u 12, u 13, u 14, u 15, u 16, u 17, u 18, u 19, u 20, u 21, u 22, u 23, u 24, u 25, u 26, u 27, u 28, u 29, u 30, u 31, u 32, u 33, u 34, u 35], defers := [] } ∧ Evscan w0 n0 m gx gb Af nf cf a b c d e fs L NA NB gs R wr i S acc x y ∧ Hid (walkF a b c NB fs (NA * NB - i) i S acc = R) ∧ 2 * (NA * NB - i) + 1 ≤ n
structure Ewscan (w0 : World) (n0 : Int) (m gx gb : Nat) (Af : Option Addr) (nf cf : Nat) (a b c d e : Int) (fs : List Flt) (L NA NB gs : Nat) (R : Int × List Vis × ChS) (wr : World) (i : Nat) (S : ChS) (acc : List Vis) (x y : Int) : Prop where
  chip : ChN wr L m gx gb Af nf cf a b c d e fs S
  pl : Blk wr w0.heap.size 53 #[.int .i64 x, .int .i64 y]
  pg : ∃ v0 v1 v2 v3 v4 v5, Blk wr (w0.heap.size + 1) 99 #[v0, v1, v2, v3, v4, v5]
  cap : (Cap wr gs (w0.heap.size + 2) (fdsOf acc))
  alen : acc.length ≤ i + 1
  tch : Tch (fun g => chB m gx gb g ∨ g = gs ∨ w0.heap.size ≤ g) w0 wr
  good : Good S (n0 + 3 + 3 * (i : Int))
  by8 : Bytes8 S.X
  lt : i < NA * NB
  px : x = ((i / NB : Nat) : Int)
  py : y = ((i % NB : Nat) : Int)
def scanJ0 (w0 : World) (n0 : Int) (m gx gb : Nat) (Af : Option Addr) (nf cf : Nat) (a b c d e : Int) (fs : List Flt) (L NA NB gs : Nat) (R : Int × List Vis × ChS) (n : Nat) (a' : Act) (wr : World) : Prop := ∃ (i : Nat) (S : ChS) (acc : List Vis) (x y : Int) (u : Nat → Value),
  a' = { tmps := #[.pointer (some ⟨m, 0, none⟩), .func (.func 63) #[] #[.pointer (some ⟨gs, 0, none⟩)], u 2, u 3, .int .i64 0, .pointer (some ⟨w0.heap.size, 0, none⟩), .pointer (some ⟨w0.heap.size + 1, 0, none⟩), u 7, u 8, u 9, u 10, u 11, u 12, u 13, u 14, u 15, u 16, u 17, u 18, u 19, u 20, u 21, u 22, u 23, u 24, u 25, u 26, u 27, u 28, u 29, u 30, u 31, u 32, u 33, u 34, u 35], defers := [] } ∧ Ewscan w0 n0 m gx gb Af nf cf a b c d e fs L NA NB gs R wr i S acc x y ∧ Hid (walkF a b c NB fs (NA * NB - (i + 1)) (i + 1) S acc = R) ∧ 2 * (NA * NB - i) ≤ n
theorem scanJ1.mk {w0 : World} {n0 : Int} {m gx gb : Nat} {Af : Option Addr} {nf cf : Nat} {a b c d e : Int} {fs : List Flt} {L NA NB gs : Nat} {R : Int × List Vis × ChS} {n : Nat} {wr : World} {i : Nat} {S : ChS} {acc : List Vis} {x y : Int} {u2 u3 u7 u8 u9 u10 u11 u12 u13 u14 u15 u16 u17 u18 u19 u20 u21 u22 u23 u24 u25 u26 u27 u28 u29 u30 u31 u32 u33 u34 u35 : Value} (h : Evscan w0 n0 m gx gb Af nf cf a b c d e fs L NA NB gs R wr i S acc x y ∧ Hid (walkF a b c NB fs (NA * NB - i) i S acc = R) ∧ 2 * (NA * NB - i) + 1 ≤ n) : scanJ1 w0 n0 m gx gb Af nf cf a b c d e fs L NA NB gs R n { tmps := #[.pointer (some ⟨m, 0, none⟩), .func (.func 63) #[] #[.pointer (some ⟨gs, 0, none⟩)], u2, u3, .int .i64 0, .pointer (some ⟨w0.heap.size, 0, none⟩), .pointer (some ⟨w0.heap.size + 1, 0, none⟩), u7, u8, u9, u10, u11, u12, u13, u14, u15, u16, u17, u18, u19, u20, u21, u22, u23, u24, u25, u26, u27, u28, u29, u30, u31, u32, u33, u34, u35], defers := [] } wr :=
  ⟨i, S, acc, x, y, fun i => (#[undef, undef, u2, u3, undef, undef, undef, u7, u8, u9, u10, u11, u12, u13, u14, u15, u16, u17, u18, u19, u20, u21, u22, u23, u24, u25, u26, u27, u28, u29, u30, u31, u32, u33, u34, u35] : Array Value).getD i undef, rfl, h⟩
theorem scanJ0.mk {w0 : World} {n0 : Int} {m gx gb : Nat} {Af : Option Addr} {nf cf : Nat} {a b c d e : Int} {fs : List Flt} {L NA NB gs : Nat} {R : Int × List Vis × ChS} {n : Nat} {wr : World} {i : Nat} {S : ChS} {acc : List Vis} {x y : Int} {u2 u3 u7 u8 u9 u10 u11 u12 u13 u14 u15 u16 u17 u18 u19 u20 u21 u22 u23 u24 u25 u26 u27 u28 u29 u30 u31 u32 u33 u34 u35 : Value} (h : Ewscan w0 n0 m gx gb Af nf cf a b c d e fs L NA NB gs R wr i S acc x y ∧ Hid (walkF a b c NB fs (NA * NB - (i + 1)) (i + 1) S acc = R) ∧ 2 * (NA * NB - i) ≤ n) : scanJ0 w0 n0 m gx gb Af nf cf a b c d e fs L NA NB gs R n { tmps := #[.pointer (some ⟨m, 0, none⟩), .func (.func 63) #[] #[.pointer (some ⟨gs, 0, none⟩)], u2, u3, .int .i64 0, .pointer (some ⟨w0.heap.size, 0, none⟩), .pointer (some ⟨w0.heap.size + 1, 0, none⟩), u7, u8, u9, u10, u11, u12, u13, u14, u15, u16, u17, u18, u19, u20, u21, u22, u23, u24, u25, u26, u27, u28, u29, u30, u31, u32, u33, u34, u35], defers := [] } wr :=
  ⟨i, S, acc, x, y, fun i => (#[undef, undef, u2, u3, undef, undef, undef, u7, u8, u9, u10, u11, u12, u13, u14, u15, u16, u17, u18, u19, u20, u21, u22, u23, u24, u25, u26, u27, u28, u29, u30, u31, u32, u33, u34, u35] : Array Value).getD i undef, rfl, h⟩
def scanJ (w0 : World) (n0 : Int) (m gx gb : Nat) (Af : Option Addr) (nf cf : Nat) (a b c d e : Int) (fs : List Flt) (L NA NB gs : Nat) (R : Int × List Vis × ChS) (l n : Nat) (a' : Act) (wr : World) : Prop := (l = 1 ∧ scanJ1 w0 n0 m gx gb Af nf cf a b c d e fs L NA NB gs R n a' wr) ∨ (l = 0 ∧ scanJ0 w0 n0 m gx gb Af nf cf a b c d e fs L NA NB gs R n a' wr)
def scanE (w0 : World) (n0 : Int) (m gx gb : Nat) (Af : Option Addr) (nf cf : Nat) (a b c d e : Int) (fs : List Flt) (L NA NB gs : Nat) (R : Int × List Vis × ChS) (e' : Ending) (w' : World) : Prop := e' = .returned (.int .i64 R.1) ∧ ChipW w' m gx gb Af nf cf a b c d e fs R.2.2 ∧ (Cap w' gs (w0.heap.size + 2) (fdsOf R.2.1)) ∧ R.2.1.length ≤ 160 ∧ Tch (fun g => chB m gx gb g ∨ g = gs) w0 w' ∧ Good R.2.2 (n0 + 1000) ∧ Bytes8 R.2.2.X
theorem bad_v0 (m gx gb : Nat) (Af : Option Addr) (nf cf : Nat) (a b c d e : Int) (fs : List Flt) (B : Int) (W : Bool) (w : World) (s : ChS) (hC : ChipW w m gx gb Af nf cf a b c d e fs s) (hv : Hid (badB fs B = W)) : Calls Try.prog 12 #[.pointer (some ⟨m, 0, none⟩), .int .i64 B] w fun e' w' => e' = .returned (.bool W) ∧ Below w.heap.size w w' := by
  have := bad_any m gx gb Af nf cf a b c d e fs B w s hC
  rwa [hv.out] at this
theorem geometry_0 (m gx gb : Nat) (Af : Option Addr) (nf cf : Nat) (a b c d e : Int) (fs : List Flt) (w : World) (s : ChS) (hC : ChipW w m gx gb Af nf cf a b c d e fs s) : Calls Try.prog 36 #[.pointer (some ⟨m, 0, none⟩)] w fun e' w' => e' = .returned (.agg #[.int .i64 a, .int .i64 b, .int .i64 c, .int .i64 d, .int .i64 e]) ∧ Below w.heap.size w w' := by
  obtain ⟨cx, cb, NX, NB, hX, hN, hcx, hB⟩ := hC.blk
  have hB := hB.alloc_ (.cells #[.int .i64 0, .int .i64 0, .int .i64 0, .int .i64 0, .int .i64 0] 23)
  have HB0 : Below w.heap.size w (w.alloc (.cells #[.int .i64 0, .int .i64 0, .int .i64 0, .int .i64 0, .int .i64 0] 23)) := (Below.refl _ _).alloc (Nat.le_refl _) _
  have y0 := hB.cell_ 0; have y1 := hB.cell_ 1; have y2 := hB.cell_ 2; have y3 := hB.cell_ 3; have y4 := hB.cell_ 4
  simp at y0 y1 y2 y3 y4
  clear hC hB hX hN hcx
  go_enter Try.func36, Try.ntmps36
  go_wp2_with fail
  refine bodyPost_ret (v := .agg #[.int .i64 a, .int .i64 b, .int .i64 c, .int .i64 d, .int .i64 e]) (by simp [results, Try.results36, go_sem]) rfl ⟨rfl, ?_⟩
  exact (Below.refl _ _).alloc (Nat.le_refl _) _
theorem capK {S : Nat → Prop} {w w' : World} {gs base : Nat} {L : List Fd} (h : Cap w gs base L) (hT : Tch S w w') (h1 : ∀ g, (g = gs ∨ base ≤ g) → ¬ S g) : Cap w' gs base L := by
  obtain ⟨⟨v, hB, hR⟩, hlt⟩ := h
  refine ⟨⟨v, hT.blk hB (h1 gs (Or.inl rfl)), ?_⟩, hlt⟩
  obtain ⟨h2, h3⟩ := hR
  refine ⟨h2, ?_⟩
  rcases h3 with h3 | ⟨g', cap, cur, rfl, hb, hh, hr⟩
  · exact Or.inl h3
  · have hlt : g' < w.heap.size := by
      rcases Nat.lt_or_ge g' w.heap.size with hx | hx
      · exact hx
      · rw [Array.getElem?_eq_none hx] at hh
        cases hh
    exact Or.inr ⟨g', cap, cur, rfl, hb, (hT.far g' hlt (h1 g' (Or.inr hb))).trans hh, hr⟩
theorem Blk.ch {w w' : World} {g L m gx gb : Nat} {t : TypeId} {cs : Array Value} (h : Blk w g t cs) (hT : Tch (chB m gx gb) w w') (hlow : ∀ g, chB m gx gb g → g < L) (hg : L ≤ g) : Blk w' g t cs := hT.blk h (fun hc => by have := hlow _ hc; omega)
theorem each_scan (w0 : World) (n0 : Int) (m gx gb : Nat) (Af : Option Addr) (nf cf : Nat) (a b c d e : Int) (fs : List Flt) (L NA NB gs : Nat) (s : ChS) (R : Int × List Vis × ChS) (hC : ChN w0 L m gx gb Af nf cf a b c d e fs s) (hL : L ≤ w0.heap.size) (hgs : L ≤ gs ∧ gs < w0.heap.size) (hcap : (Cap w0 gs (w0.heap.size + 2) (fdsOf []))) (hg : Good s n0) (hn0 : n0 ≤ 800000000) (h8 : Bytes8 s.X) (hNA : (NA : Int) = a) (hNB : (NB : Int) = b) (hR : Hid (walkF a b c NB fs (NA * NB) 0 s [] = R)) :
    Calls Try.prog 62 #[.pointer (some ⟨m, 0, none⟩), .func (.func 63) #[] #[.pointer (some ⟨gs, 0, none⟩)]] w0 fun e' w' => scanE w0 n0 m gx gb Af nf cf a b c d e fs L NA NB gs R e' w' := by
  obtain ⟨hm, g3, g4, g1, g2, g6⟩ := hC.geo
  have hB0 : 0 < NB := by omega
  have hB8 : NB ≤ 8 := by omega
  have hA20 : NA ≤ 20 := by omega
  have hA0 : 0 < NA := by omega
  have hAB2 : NA * NB ≤ 160 := Nat.mul_le_mul hA20 hB8
  have hAB0 : 0 < NA * NB := Nat.mul_pos hA0 hB0
  have HM := Lib.hid hm
  have hlow := hC.low
  have HLAB := Lib.hid (And.intro hNA hNB)
  clear hm
  have HBW : Below w0.heap.size w0 ((w0.alloc (.cells #[.int .i64 0, .int .i64 0] 53)).alloc (.cells #[.slice none 0 0, .int .i64 0, .int .i64 0, .int .i64 0, .int .i64 0, .int .i64 0] 99)) := ((Below.refl _ _).alloc (Nat.le_refl _) _).alloc (by simp) _
  have HP3 : Blk ((w0.alloc (.cells #[.int .i64 0, .int .i64 0] 53)).alloc (.cells #[.slice none 0 0, .int .i64 0, .int .i64 0, .int .i64 0, .int .i64 0, .int .i64 0] 99)) w0.heap.size 53 #[.int .i64 0, .int .i64 0] := (Blk.new_ w0 _ _).alloc_ _
  have HP4 : Blk ((w0.alloc (.cells #[.int .i64 0, .int .i64 0] 53)).alloc (.cells #[.slice none 0 0, .int .i64 0, .int .i64 0, .int .i64 0, .int .i64 0, .int .i64 0] 99)) (w0.heap.size + 1) 99 #[.slice none 0 0, .int .i64 0, .int .i64 0, .int .i64 0, .int .i64 0, .int .i64 0] := blk_new (by simp)
  go_enter Try.func62, Try.ntmps62
  go_wp2
  refine wp_scope_many (scanJ w0 n0 m gx gb Af nf cf a b c d e fs L NA NB gs R) ?_ ?_
  · intro l N a' wr hJ hcut
    have HC := Lib.hid hcut
    clear hcut
    rcases hJ with ⟨rfl, hJ⟩ | ⟨rfl, hJ⟩
    · obtain ⟨i, S, acc, x, y, u, rfl, hE, hW, hN⟩ := hJ
      refine ⟨_, (by simp only [findLabel, Nat.reduceBEq, if_true, if_false, Bool.false_eq_true]; rfl), ?_⟩
      have hi := hE.lt
      have z0 := hE.pl.cell_ 0
      have z1 := hE.pl.cell_ 1
      simp at z0 z1
      obtain ⟨v0, v1, v2, v3, v4, v5, hpg⟩ := hE.pg
      have hstep : NA * NB - i = (NA * NB - (i + 1)) + 1 := by omega
      have HST := Lib.hid hstep
      clear hstep
      rcases (by cases hq : badB fs x <;> simp : badB fs x = true ∨ badB fs x = false) with hb | hb
      · have HBD := Lib.hid hb
        have HW0 : Hid (walkF a b c NB fs (NA * NB - (i + 1)) (i + 1) S acc = R) := Lib.hid (by have h := hW.out; rw [HST.out, walkF_bad (by rw [← hE.px]; exact hb)] at h; exact h)
        clear hb
        go_wp2_with (go_at_call 12; ((with_reducible refine (bad_v0 m gx gb Af nf cf a b c d e fs _ _ _ S hE.chip.chip HBD).mono ?_); rintro e' wB ⟨rfl, hbB⟩; have hplB := hE.pl.below hbB hE.pl.lt; have zb0 := hplB.cell_ 0; have zb1 := hplB.cell_ 1; simp at zb0 zb1))
        go_step3
        exact (show ∃ m', m' < N ∧ scanJ w0 n0 m gx gb Af nf cf a b c d e fs L NA NB gs R 0 m' _ _ from ⟨2 * (NA * NB - i), by omega, Or.inr ⟨rfl, scanJ0.mk ⟨⟨hE.chip.below_ hbB, hE.pl.below hbB hE.pl.lt, ⟨_, _, _, _, _, _, hpg.below hbB hpg.lt⟩, capK hE.cap (Tch.of_below (S := fun _ => False) hbB) (fun g hg hS => hS), Nat.le_succ_of_le hE.alen, hE.tch.then hbB, hE.good.mono (by omega), hE.by8, hE.lt, hE.px, hE.py⟩, HW0, Nat.le_refl _⟩⟩⟩)
      have HBD := Lib.hid hb
      obtain ⟨Z, hz⟩ : ∃ Z, S.readZ a b x y = Z := ⟨_, rfl⟩
      obtain ⟨S1, hs1⟩ : ∃ S1, S.readS a b x y = S1 := ⟨_, rfl⟩
      have HG1 : Hid (Good S1 (n0 + 3 + 3 * (i : Int))) := Lib.hid (by rw [← hs1]; exact (hE.good.read a b x y).mono (by omega))
      have HB1 : Hid (Bytes8 S1.X) := Lib.hid (by rw [← hs1, readS_X]; exact hE.by8)
      have hsz : w0.heap.size ≤ wr.heap.size := hE.tch.size
      by_cases hne : Z = 0
      · subst hne
        obtain ⟨bs, hbs⟩ : ∃ bs, S.readB a b c x y = bs := ⟨_, rfl⟩
        have H8B : Bytes8 bs := by rw [← hbs]; exact readB_8 hE.by8 a b c x y
        have HLB : bs.length ≤ 1000000 := by rw [← hbs]; exact readB_le S a b c x y g6
        have HZ := Lib.hid (And.intro hz (And.intro hbs hs1))
        obtain ⟨Dq, nq, Kq, Pq, Sq, Eq, stq, hlk⟩ := Lk.ex bs
        have HLK := Lib.hid hlk
        have HW0 : Hid (walkF a b c NB fs (NA * NB - (i + 1)) (i + 1) S1 (acc ++ [(i / NB, i % NB, bs)]) = R) := Lib.hid (by have h := hW.out; rw [HST.out, walkF_ok (S1 := S1) (bs := bs) (by rw [← hE.px]; exact hb) (by rw [← hE.px, ← hE.py]; exact hz) (by rw [← hE.px, ← hE.py]; exact hs1) (by rw [← hE.px, ← hE.py]; exact hbs)] at h; exact h)
        have HLI : Hid ((fdsOf acc ++ if stq = 1 then [(⟨((i / NB : Nat) : Int), ((i % NB : Nat) : Int), (Kq : Int), (Pq : Int), (Sq : Int), (Eq : Int)⟩ : Fd)] else []) = (if (stq : Int) = 1 then fdsOf acc ++ [(⟨x, y, (Kq : Int), (Pq : Int), (Sq : Int), (Eq : Int)⟩ : Fd)] else fdsOf acc)) := Lib.hid (by
          rw [hE.px, hE.py]
          by_cases h1 : stq = 1
          · rw [if_pos h1, if_pos (by omega)]
          · rw [if_neg h1, if_neg (by omega), List.append_nil])
        clear hb hz hs1 hbs hlk
        go_upto_region 9 with (first | (go_at_call 12; ((with_reducible refine (bad_v0 m gx gb Af nf cf a b c d e fs _ _ _ S hE.chip.chip HBD).mono ?_); rintro e' wB ⟨rfl, hbB⟩; have hplB := hE.pl.below hbB hE.pl.lt; have zb0 := hplB.cell_ 0; have zb1 := hplB.cell_ 1; simp at zb0 zb1)) | (go_at_call 68; ((with_reducible refine (look_yes m gx gb Af nf cf a b c d e fs x y (n0 + 3 * (i : Int)) _ S (hE.chip.below_ hbB).chip hE.good.fine (by omega) Dq nq Kq Pq Sq Eq stq S1 bs H8B HLB HZ HLK).mono ?_); rintro e' wL ⟨⟨Aq, cq, rfl, hoq⟩, hCW, hTL⟩; have hCL := (hE.chip.below_ hbB).next hCW; have hG4 := (hpg.below hbB hpg.lt).ch hTL hlow (by omega); have hG3 := (hE.pl.below hbB hE.pl.lt).ch hTL hlow (by omega); have hCP := capK (capK hE.cap (Tch.of_below (S := fun _ => False) hbB) (fun g hg hS => hS)) hTL (fun g hg hS => by have := hlow g hS; rcases hg with rfl | hg <;> omega); have hTT := (hE.tch.then hbB).trans (hTL.mono (S' := (fun g => chB m gx gb g ∨ g = gs ∨ w0.heap.size ≤ g)) (fun g hg => Or.inl hg)); obtain ⟨y0, y1, y2, y3, y4, y5⟩ := cells6 hG4; have y9 := hG4.free)))
        obtain ⟨wz, hwz⟩ : ∃ V : World, V = st6 wL (w0.heap.size + 1) (.slice Aq nq cq) (.int .i64 (Kq : Nat)) (.int .i64 (Pq : Nat)) (.int .i64 (Sq : Nat)) (.int .i64 (Eq : Nat)) (.int .i64 (stq : Nat)) := ⟨_, rfl⟩
        have HZ4 := st6_blk hG4 (.slice Aq nq cq) (.int .i64 (Kq : Nat)) (.int .i64 (Pq : Nat)) (.int .i64 (Sq : Nat)) (.int .i64 (Eq : Nat)) (.int .i64 (stq : Nat))
        have TZ := st6_tch wL (w0.heap.size + 1) (.slice Aq nq cq) (.int .i64 (Kq : Nat)) (.int .i64 (Pq : Nat)) (.int .i64 (Sq : Nat)) (.int .i64 (Eq : Nat)) (.int .i64 (stq : Nat))
        rw [← hwz] at HZ4 TZ
        unfold st6 at hwz
        rw [← hwz]
        clear hwz y0 y1 y2 y3 y4 y5 y9
        have hCZ := hCL.far TZ (fun g hg => by subst hg; omega)
        have hG3Z := TZ.blk hG3 (by omega)
        have hCPZ := capK hCP TZ (fun g hg hS => by subst hS; rcases hg with hg | hg <;> omega)
        have hTZ := hTT.trans (TZ.mono (S' := (fun g => chB m gx gb g ∨ g = gs ∨ w0.heap.size ≤ g)) (fun g hg => by subst hg; exact Or.inr (Or.inr (Nat.le_succ _))))
        have x0 := hG3Z.cell_ 0
        have x1 := hG3Z.cell_ 1
        simp at x0 x1
        obtain ⟨y0, y1, y2, y3, y4, y5⟩ := cells6 HZ4
        go_wp2_with (go_at_call 63; ((with_reducible refine (scan1_any x y (Kq : Nat) (Pq : Nat) (Sq : Nat) (Eq : Nat) (stq : Nat) Aq nq cq gs (w0.heap.size + 2) (fdsOf acc) _ hCPZ (by have := HZ4.lt; omega) (by have := fdsOf_len acc; have := hE.alen; omega)).mono ?_); rintro e' wS ⟨rfl, hCS, hTS⟩; have hcn := hlow))
        rename_i K hK
        go_step3
        show K _ _
        refine hK _ _ ?_
        exact HC.out 0 _ _ _ (show 2 * (NA * NB - i) < N by omega) (Or.inr ⟨rfl, scanJ0.mk ⟨⟨hCZ.far hTS (fun g hg => by rcases hg with hg | hg <;> omega), hTS.blk hG3Z (fun hg => by rcases hg with hg | hg <;> omega), ⟨_, _, _, _, _, _, hTS.blk HZ4 (fun hg => by rcases hg with hg | hg <;> omega)⟩, (by rw [fdsOf_snoc, fdOf_lk HLK.out]; have := hCS; rw [HLI.out]; exact this), by rw [List.length_append]; have := hE.alen; simp; omega, hTZ.trans (hTS.mono (S' := (fun g => chB m gx gb g ∨ g = gs ∨ w0.heap.size ≤ g)) (fun g hg => Or.inr (by rcases hg with hg | hg; exact Or.inl hg; exact Or.inr (by omega)))), HG1.out, HB1.out, hE.lt, hE.px, hE.py⟩, HW0, Nat.le_refl _⟩⟩) _ (by kernel_rfl)
      · have HZ := Lib.hid (And.intro (And.intro hz (And.intro trivial hs1)) hne)
        have HRE : Hid (R = (Z, acc, S1)) := Lib.hid (by have h := hW.out; rw [HST.out, walkF_err (S1 := S1) (Z := Z) (by rw [← hE.px]; exact hb) (by rw [← hE.px, ← hE.py]; exact hz) hne (by rw [← hE.px, ← hE.py]; exact hs1)] at h; exact h.symm)
        have hz1 : (Z == 0) = false := by simpa using hne
        have hz2 : (Z != 0) = true := by simpa using hne
        have hal := hE.alen
        clear hb hz hs1 hne
        go_upto_region 9 with (first | (go_at_call 12; ((with_reducible refine (bad_v0 m gx gb Af nf cf a b c d e fs _ _ _ S hE.chip.chip HBD).mono ?_); rintro e' wB ⟨rfl, hbB⟩; have hplB := hE.pl.below hbB hE.pl.lt; have zb0 := hplB.cell_ 0; have zb1 := hplB.cell_ 1; simp at zb0 zb1)) | (go_at_call 68; ((with_reducible refine (look_no m gx gb Af nf cf a b c d e fs x y (n0 + 3 * (i : Int)) _ S (hE.chip.below_ hbB).chip hE.good.fine (by omega) Z S1 (Lib.hid HZ.out.1) HZ.out.2).mono ?_); rintro e' wL ⟨rfl, hCW, hTL⟩; have hCL := (hE.chip.below_ hbB).next hCW; have hG4 := (hpg.below hbB hpg.lt).ch hTL hlow (by omega); have hG3 := (hE.pl.below hbB hE.pl.lt).ch hTL hlow (by omega); have hCP := capK (capK hE.cap (Tch.of_below (S := fun _ => False) hbB) (fun g hg hS => hS)) hTL (fun g hg hS => by have := hlow g hS; rcases hg with rfl | hg <;> omega); have hTT := (hE.tch.then hbB).trans (hTL.mono (S' := (fun g => chB m gx gb g ∨ g = gs ∨ w0.heap.size ≤ g)) (fun g hg => Or.inl hg)); obtain ⟨y0, y1, y2, y3, y4, y5⟩ := cells6 hG4; have y9 := hG4.free)))
        obtain ⟨wz, hwz⟩ : ∃ V : World, V = st6 wL (w0.heap.size + 1) (.slice none 0 0) (.int .i64 0) (.int .i64 0) (.int .i64 0) (.int .i64 0) (.int .i64 0) := ⟨_, rfl⟩
        have HZ4 := st6_blk hG4 (.slice none 0 0) (.int .i64 0) (.int .i64 0) (.int .i64 0) (.int .i64 0) (.int .i64 0)
        have TZ := st6_tch wL (w0.heap.size + 1) (.slice none 0 0) (.int .i64 0) (.int .i64 0) (.int .i64 0) (.int .i64 0) (.int .i64 0)
        rw [← hwz] at HZ4 TZ
        unfold st6 at hwz
        rw [← hwz]
        clear hwz y0 y1 y2 y3 y4 y5 y9
        have hCZ := hCL.far TZ (fun g hg => by subst hg; omega)
        have hG3Z := TZ.blk hG3 (by omega)
        have hCPZ := capK hCP TZ (fun g hg hS => by subst hS; rcases hg with hg | hg <;> omega)
        have hTZ := hTT.trans (TZ.mono (S' := (fun g => chB m gx gb g ∨ g = gs ∨ w0.heap.size ≤ g)) (fun g hg => by subst hg; exact Or.inr (Or.inr (Nat.le_succ _))))
        go_wp2_with fail
        refine jumpsQ_ret ?_
        go_ret
        unfold scanE
        rw [HRE.out]
        exact ⟨rfl, hCZ.chip, hCPZ, by show acc.length ≤ 160; omega, hTZ.monoL (fun g hg h => by rcases h with h | h | h; exact Or.inl h; exact Or.inr h; omega), HG1.out.mono (by omega), HB1.out⟩
    · obtain ⟨i, S, acc, x, y, u, rfl, hE, hW, hN⟩ := hJ
      refine ⟨_, (by simp only [findLabel, Nat.reduceBEq, if_true, if_false, Bool.false_eq_true]; rfl), ?_⟩
      have hi := hE.lt
      have z0 := hE.pl.cell_ 0
      have z1 := hE.pl.cell_ 1
      simp at z0 z1
      obtain ⟨v0, v1, v2, v3, v4, v5, hpg⟩ := hE.pg
      have hnx : ∀ (X Y : Int) (T : Bool), Hid (X = (if i + 1 < NA * NB then (((i + 1) / NB : Nat) : Int) else 0) ∧ Y = (if i + 1 < NA * NB then (((i + 1) % NB : Nat) : Int) else 0) ∧ T = decide (i + 1 < NA * NB)) → ∀ w : World, Calls Try.prog 69 #[.agg #[.int .i64 a, .int .i64 b, .int .i64 c, .int .i64 d, .int .i64 e], .agg #[.int .i64 x, .int .i64 y]] w fun e' w' => e' = .returned (.tuple #[.agg #[.int .i64 X, .int .i64 Y], .bool T]) ∧ Below w.heap.size w w' := fun X Y T hX w => by
        rw [hE.px, hE.py]
        exact next_at a b c d e NA NB i w HM.out HLAB.out.1 HLAB.out.2 hB0 hi X Y T hX
      by_cases hl : i + 1 < NA * NB
      · obtain ⟨X, hX⟩ : ∃ X : Int, X = (((i + 1) / NB : Nat) : Int) := ⟨_, rfl⟩
        obtain ⟨Y, hY⟩ : ∃ Y : Int, Y = (((i + 1) % NB : Nat) : Int) := ⟨_, rfl⟩
        have hcn := hnx X Y true (Lib.hid ⟨by rw [if_pos hl]; exact hX, by rw [if_pos hl]; exact hY, (decide_eq_true hl).symm⟩)
        have HXY := Lib.hid (And.intro hX hY)
        clear hnx hX hY
        have hCd : ChipW wr.drew m gx gb Af nf cf a b c d e fs S := hE.chip.chip.like
        go_upto_region 12 with fail
        refine wp_region_noPanic ?_
        refine wp_region_held_drew (S := (fun _ => True)) (by kernel_rfl) ?_ (fun hHeld => ?_)
        · exact trivial
        refine tk 0 ⟨some 29, .move (.tmp 0), 26, "leaf.go:98", #[], none⟩ ?_; try simp only [Act.put, pz1, pz2, pz3]
        refine wpAnyH_ready (rs := [1, 2]) (by kernel_rfl) (by simp) ?_
        refine (AllReadyH.cons (o := ⟨some 30, .call { callee := .value (.func 36), args := #[.tmp 29], argTypes := #[26] }, 23, "leaf.go:98", #[⟨0, .data⟩], none⟩) rfl (fun K hK => ?_) (AllReadyH.cons (o := ⟨some 31, .load 53 (.tmp 5), 53, "leaf.go:98", #[], none⟩) rfl (fun K hK => ?_) AllReadyH.nil))
        · go_simp
          (first | (go_at_call 36; ((with_reducible refine (geometry_0 m gx gb Af nf cf a b c d e fs _ S (by first | exact hE.chip.chip | exact hCd)).mono ?_); rintro e' wG ⟨rfl, hbG⟩; (try have hbG := undrew hbG); have hplG := hE.pl.below hbG hE.pl.lt; have k0 := hplG.cell_ 0; have k1 := hplG.cell_ 1; simp at k0 k1)) | (go_at_call 69; ((with_reducible refine (hcn _).mono ?_); rintro e' wX ⟨rfl, hbX⟩; have hplX := hplG.below hbX hplG.lt; have q0 := hplX.cell_ 0; have q1 := hplX.cell_ 1; simp at q0 q1; have q9 := hplX.free)))
          go_wp2_with fail
          refine hK.out _ _ ?_ (fun hNew => ?_)
          · exact trivial
          clear hK K hHeld
          have hHeld := hNew
          clear hNew
          try simp only [Act.put, pz1, pz2, pz3]
          refine wpAnyH_ready (rs := [2]) (by kernel_rfl) (by simp) ?_
          refine AllReadyH.cons (o := ⟨some 31, .load 53 (.tmp 5), 53, "leaf.go:98", #[], none⟩) rfl (fun K hK => ?_) AllReadyH.nil
          go_simp
          skip
          refine hK.out _ _ ?_ (fun hNew => ?_)
          · exact trivial
          clear hK K hHeld
          have hHeld := hNew
          clear hNew
          try simp only [Act.put, pz1, pz2, pz3]
          refine wpAnyH_ready (rs := [3]) (by kernel_rfl) (by simp) ?_
          refine AllReadyH.cons (o := ⟨some 32, .call { callee := .value (.func 69), args := #[.tmp 30, .tmp 31], argTypes := #[23, 53] }, 113, "leaf.go:98", #[⟨1, .data⟩, ⟨2, .data⟩, ⟨1, .chain⟩], none⟩) rfl (fun K hK => ?_) AllReadyH.nil
          go_simp
          (first | (go_at_call 36; ((with_reducible refine (geometry_0 m gx gb Af nf cf a b c d e fs _ S (by first | exact hE.chip.chip | exact hCd)).mono ?_); rintro e' wG ⟨rfl, hbG⟩; (try have hbG := undrew hbG); have hplG := hE.pl.below hbG hE.pl.lt; have k0 := hplG.cell_ 0; have k1 := hplG.cell_ 1; simp at k0 k1)) | (go_at_call 69; ((with_reducible refine (hcn _).mono ?_); rintro e' wX ⟨rfl, hbX⟩; have hplX := hplG.below hbX hplG.lt; have q0 := hplX.cell_ 0; have q1 := hplX.cell_ 1; simp at q0 q1; have q9 := hplX.free)))
          go_wp2_with fail
          refine hK.out _ _ ?_ (fun hNew => ?_)
          · exact trivial
          clear hK K hHeld
          have hHeld := hNew
          clear hNew
          try simp only [Act.put, pz1, pz2, pz3]
          refine tk 4 ⟨some 28, .move (.tmp 32), 113, "leaf.go:98", #[⟨3, .data⟩], none⟩ ?_; try simp only [Act.put, pz1, pz2, pz3]
          refine tk 5 ⟨some 33, .extract (.tmp 28) 0, 53, "leaf.go:98", #[⟨4, .data⟩], none⟩ ?_; try simp only [Act.put, pz1, pz2, pz3]
          refine tk 6 ⟨some 34, .extract (.tmp 28) 1, 4, "leaf.go:98", #[⟨4, .data⟩, { on := 7, ground := Ground.gcOnly Departure.lateStores }], none⟩ ?_; try simp only [Act.put, pz1, pz2, pz3]
          refine wpAnyH_ready (rs := [7]) (by kernel_rfl) (by simp) ?_
          refine AllReadyH.cons (o := ⟨none, .store 53 (.tmp 5) (.tmp 33), 0, "leaf.go:98", #[⟨5, .data⟩, ⟨3, .chain⟩, ⟨0, .phase⟩, ⟨1, .phase⟩, ⟨2, .phase⟩, ⟨3, .phase⟩, ⟨4, .phase⟩, ⟨5, .phase⟩, { on := 6, ground := Ground.textOnly Departure.lateStores }], none⟩) rfl (fun K hK => ?_) AllReadyH.nil
          go_simp
          skip
          refine hK.out _ _ ?_ (fun hNew => ?_)
          · exact trivial
          clear hK K hHeld
          have hHeld := hNew
          clear hNew
          try simp only [Act.put, pz1, pz2, pz3]
          refine tk 8 ⟨some 8, .assign (.tmp 34), 4, "leaf.go:98", #[⟨6, .data⟩, ⟨7, .chain⟩, ⟨0, .phase⟩, ⟨1, .phase⟩, ⟨2, .phase⟩, ⟨3, .phase⟩, ⟨4, .phase⟩, ⟨5, .phase⟩, ⟨6, .phase⟩, ⟨7, .phase⟩], none⟩ ?_; try simp only [Act.put, pz1, pz2, pz3]
          refine wpAnyH_done (by kernel_rfl) ?_ _
          refine NoPanic.normal ?_
          clear hHeld
          go_wp2_with fail
          obtain ⟨wz, hwz⟩ : ∃ V : World, V = (wX.setCell ⟨w0.heap.size, 0, none⟩ (.int .i64 X)).setCell ⟨w0.heap.size, 1, none⟩ (.int .i64 Y) := ⟨_, rfl⟩
          have HZ3 : Blk ((wX.setCell ⟨w0.heap.size, 0, none⟩ (.int .i64 X)).setCell ⟨w0.heap.size, 1, none⟩ (.int .i64 Y)) w0.heap.size 53 #[.int .i64 X, .int .i64 Y] := (hplX.set_ 0 (.int .i64 X)).set_ 1 (.int .i64 Y)
          have TZ := (Tch.setm wX w0.heap.size 0 (.int .i64 X)).trans (Tch.setm _ w0.heap.size 1 (.int .i64 Y))
          rw [← hwz] at HZ3 TZ
          rw [← hwz]
          clear hwz
          have hCX := ((hE.chip.below_ hbG).below_ hbX).far TZ (fun g hg => by subst hg; omega)
          have hG4X := TZ.blk ((hpg.below hbG hpg.lt).below hbX (hpg.below hbG hpg.lt).lt) (by omega)
          have hCPX := capK (capK (capK hE.cap (Tch.of_below (S := fun _ => False) hbG) (fun g hg hS => hS)) (Tch.of_below (S := fun _ => False) hbX) (fun g hg hS => hS)) TZ (fun g hg hS => by subst hS; rcases hg with hg | hg <;> omega)
          have hTX := ((hE.tch.then hbG).then hbX).trans (TZ.mono (S' := (fun g => chB m gx gb g ∨ g = gs ∨ w0.heap.size ≤ g)) (fun g hg => by subst hg; exact Or.inr (Or.inr (Nat.le_refl _))))
          go_step3
          exact (show ∃ m', m' < N ∧ scanJ w0 n0 m gx gb Af nf cf a b c d e fs L NA NB gs R 1 m' _ _ from ⟨2 * (NA * NB - (i + 1)) + 1, by omega, Or.inl ⟨rfl, scanJ1.mk ⟨⟨hCX, HZ3, ⟨_, _, _, _, _, _, hG4X⟩, hCPX, hE.alen, hTX, hE.good.mono (by omega), hE.by8, hl, HXY.out.1, HXY.out.2⟩, hW, Nat.le_refl _⟩⟩⟩)
        · go_simp
          skip
          refine hK.out _ _ ?_ (fun hNew => ?_)
          · exact trivial
          clear hK K hHeld
          have hHeld := hNew
          clear hNew
          try simp only [Act.put, pz1, pz2, pz3]
          refine wpAnyH_ready (rs := [1]) (by kernel_rfl) (by simp) ?_
          refine AllReadyH.cons (o := ⟨some 30, .call { callee := .value (.func 36), args := #[.tmp 29], argTypes := #[26] }, 23, "leaf.go:98", #[⟨0, .data⟩], none⟩) rfl (fun K hK => ?_) AllReadyH.nil
          go_simp
          (first | (go_at_call 36; ((with_reducible refine (geometry_0 m gx gb Af nf cf a b c d e fs _ S (by first | exact hE.chip.chip | exact hCd)).mono ?_); rintro e' wG ⟨rfl, hbG⟩; (try have hbG := undrew hbG); have hplG := hE.pl.below hbG hE.pl.lt; have k0 := hplG.cell_ 0; have k1 := hplG.cell_ 1; simp at k0 k1)) | (go_at_call 69; ((with_reducible refine (hcn _).mono ?_); rintro e' wX ⟨rfl, hbX⟩; have hplX := hplG.below hbX hplG.lt; have q0 := hplX.cell_ 0; have q1 := hplX.cell_ 1; simp at q0 q1; have q9 := hplX.free)))
          go_wp2_with fail
          refine hK.out _ _ ?_ (fun hNew => ?_)
          · exact trivial
          clear hK K hHeld
          have hHeld := hNew
          clear hNew
          try simp only [Act.put, pz1, pz2, pz3]
          refine wpAnyH_ready (rs := [3]) (by kernel_rfl) (by simp) ?_
          refine AllReadyH.cons (o := ⟨some 32, .call { callee := .value (.func 69), args := #[.tmp 30, .tmp 31], argTypes := #[23, 53] }, 113, "leaf.go:98", #[⟨1, .data⟩, ⟨2, .data⟩, ⟨1, .chain⟩], none⟩) rfl (fun K hK => ?_) AllReadyH.nil
          go_simp
          (first | (go_at_call 36; ((with_reducible refine (geometry_0 m gx gb Af nf cf a b c d e fs _ S (by first | exact hE.chip.chip | exact hCd)).mono ?_); rintro e' wG ⟨rfl, hbG⟩; (try have hbG := undrew hbG); have hplG := hE.pl.below hbG hE.pl.lt; have k0 := hplG.cell_ 0; have k1 := hplG.cell_ 1; simp at k0 k1)) | (go_at_call 69; ((with_reducible refine (hcn _).mono ?_); rintro e' wX ⟨rfl, hbX⟩; have hplX := hplG.below hbX hplG.lt; have q0 := hplX.cell_ 0; have q1 := hplX.cell_ 1; simp at q0 q1; have q9 := hplX.free)))
          go_wp2_with fail
          refine hK.out _ _ ?_ (fun hNew => ?_)
          · exact trivial
          clear hK K hHeld
          have hHeld := hNew
          clear hNew
          try simp only [Act.put, pz1, pz2, pz3]
          refine tk 4 ⟨some 28, .move (.tmp 32), 113, "leaf.go:98", #[⟨3, .data⟩], none⟩ ?_; try simp only [Act.put, pz1, pz2, pz3]
          refine tk 5 ⟨some 33, .extract (.tmp 28) 0, 53, "leaf.go:98", #[⟨4, .data⟩], none⟩ ?_; try simp only [Act.put, pz1, pz2, pz3]
          refine tk 6 ⟨some 34, .extract (.tmp 28) 1, 4, "leaf.go:98", #[⟨4, .data⟩, { on := 7, ground := Ground.gcOnly Departure.lateStores }], none⟩ ?_; try simp only [Act.put, pz1, pz2, pz3]
          refine wpAnyH_ready (rs := [7]) (by kernel_rfl) (by simp) ?_
          refine AllReadyH.cons (o := ⟨none, .store 53 (.tmp 5) (.tmp 33), 0, "leaf.go:98", #[⟨5, .data⟩, ⟨3, .chain⟩, ⟨0, .phase⟩, ⟨1, .phase⟩, ⟨2, .phase⟩, ⟨3, .phase⟩, ⟨4, .phase⟩, ⟨5, .phase⟩, { on := 6, ground := Ground.textOnly Departure.lateStores }], none⟩) rfl (fun K hK => ?_) AllReadyH.nil
          go_simp
          skip
          refine hK.out _ _ ?_ (fun hNew => ?_)
          · exact trivial
          clear hK K hHeld
          have hHeld := hNew
          clear hNew
          try simp only [Act.put, pz1, pz2, pz3]
          refine tk 8 ⟨some 8, .assign (.tmp 34), 4, "leaf.go:98", #[⟨6, .data⟩, ⟨7, .chain⟩, ⟨0, .phase⟩, ⟨1, .phase⟩, ⟨2, .phase⟩, ⟨3, .phase⟩, ⟨4, .phase⟩, ⟨5, .phase⟩, ⟨6, .phase⟩, ⟨7, .phase⟩], none⟩ ?_; try simp only [Act.put, pz1, pz2, pz3]
          refine wpAnyH_done (by kernel_rfl) ?_ _
          refine NoPanic.normal ?_
          clear hHeld
          go_wp2_with fail
          obtain ⟨wz, hwz⟩ : ∃ V : World, V = (wX.setCell ⟨w0.heap.size, 0, none⟩ (.int .i64 X)).setCell ⟨w0.heap.size, 1, none⟩ (.int .i64 Y) := ⟨_, rfl⟩
          have HZ3 : Blk ((wX.setCell ⟨w0.heap.size, 0, none⟩ (.int .i64 X)).setCell ⟨w0.heap.size, 1, none⟩ (.int .i64 Y)) w0.heap.size 53 #[.int .i64 X, .int .i64 Y] := (hplX.set_ 0 (.int .i64 X)).set_ 1 (.int .i64 Y)
          have TZ := (Tch.setm wX w0.heap.size 0 (.int .i64 X)).trans (Tch.setm _ w0.heap.size 1 (.int .i64 Y))
          rw [← hwz] at HZ3 TZ
          rw [← hwz]
          clear hwz
          have hCX := ((hE.chip.below_ hbG).below_ hbX).far TZ (fun g hg => by subst hg; omega)
          have hG4X := TZ.blk ((hpg.below hbG hpg.lt).below hbX (hpg.below hbG hpg.lt).lt) (by omega)
          have hCPX := capK (capK (capK hE.cap (Tch.of_below (S := fun _ => False) hbG) (fun g hg hS => hS)) (Tch.of_below (S := fun _ => False) hbX) (fun g hg hS => hS)) TZ (fun g hg hS => by subst hS; rcases hg with hg | hg <;> omega)
          have hTX := ((hE.tch.then hbG).then hbX).trans (TZ.mono (S' := (fun g => chB m gx gb g ∨ g = gs ∨ w0.heap.size ≤ g)) (fun g hg => by subst hg; exact Or.inr (Or.inr (Nat.le_refl _))))
          go_step3
          exact (show ∃ m', m' < N ∧ scanJ w0 n0 m gx gb Af nf cf a b c d e fs L NA NB gs R 1 m' _ _ from ⟨2 * (NA * NB - (i + 1)) + 1, by omega, Or.inl ⟨rfl, scanJ1.mk ⟨⟨hCX, HZ3, ⟨_, _, _, _, _, _, hG4X⟩, hCPX, hE.alen, hTX, hE.good.mono (by omega), hE.by8, hl, HXY.out.1, HXY.out.2⟩, hW, Nat.le_refl _⟩⟩⟩)
      · have hcn := hnx 0 0 false (Lib.hid ⟨by rw [if_neg hl], by rw [if_neg hl], (decide_eq_false hl).symm⟩)
        have HRE : Hid (R = (0, acc, S)) := Lib.hid (by have h := hW.out; rw [show NA * NB - (i + 1) = 0 by omega] at h; exact h.symm)
        have hal := hE.alen
        have hCd : ChipW wr.drew m gx gb Af nf cf a b c d e fs S := hE.chip.chip.like
        clear hnx
        go_upto_region 12 with fail
        refine wp_region_noPanic ?_
        refine wp_region_held_drew (S := (fun _ => True)) (by kernel_rfl) ?_ (fun hHeld => ?_)
        · exact trivial
        refine tk 0 ⟨some 29, .move (.tmp 0), 26, "leaf.go:98", #[], none⟩ ?_; try simp only [Act.put, pz1, pz2, pz3]
        refine wpAnyH_ready (rs := [1, 2]) (by kernel_rfl) (by simp) ?_
        refine (AllReadyH.cons (o := ⟨some 30, .call { callee := .value (.func 36), args := #[.tmp 29], argTypes := #[26] }, 23, "leaf.go:98", #[⟨0, .data⟩], none⟩) rfl (fun K hK => ?_) (AllReadyH.cons (o := ⟨some 31, .load 53 (.tmp 5), 53, "leaf.go:98", #[], none⟩) rfl (fun K hK => ?_) AllReadyH.nil))
        · go_simp
          (first | (go_at_call 36; ((with_reducible refine (geometry_0 m gx gb Af nf cf a b c d e fs _ S (by first | exact hE.chip.chip | exact hCd)).mono ?_); rintro e' wG ⟨rfl, hbG⟩; (try have hbG := undrew hbG); have hplG := hE.pl.below hbG hE.pl.lt; have k0 := hplG.cell_ 0; have k1 := hplG.cell_ 1; simp at k0 k1)) | (go_at_call 69; ((with_reducible refine (hcn _).mono ?_); rintro e' wX ⟨rfl, hbX⟩; have hplX := hplG.below hbX hplG.lt; have q0 := hplX.cell_ 0; have q1 := hplX.cell_ 1; simp at q0 q1; have q9 := hplX.free)))
          go_wp2_with fail
          refine hK.out _ _ ?_ (fun hNew => ?_)
          · exact trivial
          clear hK K hHeld
          have hHeld := hNew
          clear hNew
          try simp only [Act.put, pz1, pz2, pz3]
          refine wpAnyH_ready (rs := [2]) (by kernel_rfl) (by simp) ?_
          refine AllReadyH.cons (o := ⟨some 31, .load 53 (.tmp 5), 53, "leaf.go:98", #[], none⟩) rfl (fun K hK => ?_) AllReadyH.nil
          go_simp
          skip
          refine hK.out _ _ ?_ (fun hNew => ?_)
          · exact trivial
          clear hK K hHeld
          have hHeld := hNew
          clear hNew
          try simp only [Act.put, pz1, pz2, pz3]
          refine wpAnyH_ready (rs := [3]) (by kernel_rfl) (by simp) ?_
          refine AllReadyH.cons (o := ⟨some 32, .call { callee := .value (.func 69), args := #[.tmp 30, .tmp 31], argTypes := #[23, 53] }, 113, "leaf.go:98", #[⟨1, .data⟩, ⟨2, .data⟩, ⟨1, .chain⟩], none⟩) rfl (fun K hK => ?_) AllReadyH.nil
          go_simp
          (first | (go_at_call 36; ((with_reducible refine (geometry_0 m gx gb Af nf cf a b c d e fs _ S (by first | exact hE.chip.chip | exact hCd)).mono ?_); rintro e' wG ⟨rfl, hbG⟩; (try have hbG := undrew hbG); have hplG := hE.pl.below hbG hE.pl.lt; have k0 := hplG.cell_ 0; have k1 := hplG.cell_ 1; simp at k0 k1)) | (go_at_call 69; ((with_reducible refine (hcn _).mono ?_); rintro e' wX ⟨rfl, hbX⟩; have hplX := hplG.below hbX hplG.lt; have q0 := hplX.cell_ 0; have q1 := hplX.cell_ 1; simp at q0 q1; have q9 := hplX.free)))
          go_wp2_with fail
          refine hK.out _ _ ?_ (fun hNew => ?_)
          · exact trivial
          clear hK K hHeld
          have hHeld := hNew
          clear hNew
          try simp only [Act.put, pz1, pz2, pz3]
          refine tk 4 ⟨some 28, .move (.tmp 32), 113, "leaf.go:98", #[⟨3, .data⟩], none⟩ ?_; try simp only [Act.put, pz1, pz2, pz3]
          refine tk 5 ⟨some 33, .extract (.tmp 28) 0, 53, "leaf.go:98", #[⟨4, .data⟩], none⟩ ?_; try simp only [Act.put, pz1, pz2, pz3]
          refine tk 6 ⟨some 34, .extract (.tmp 28) 1, 4, "leaf.go:98", #[⟨4, .data⟩, { on := 7, ground := Ground.gcOnly Departure.lateStores }], none⟩ ?_; try simp only [Act.put, pz1, pz2, pz3]
          refine wpAnyH_ready (rs := [7]) (by kernel_rfl) (by simp) ?_
          refine AllReadyH.cons (o := ⟨none, .store 53 (.tmp 5) (.tmp 33), 0, "leaf.go:98", #[⟨5, .data⟩, ⟨3, .chain⟩, ⟨0, .phase⟩, ⟨1, .phase⟩, ⟨2, .phase⟩, ⟨3, .phase⟩, ⟨4, .phase⟩, ⟨5, .phase⟩, { on := 6, ground := Ground.textOnly Departure.lateStores }], none⟩) rfl (fun K hK => ?_) AllReadyH.nil
          go_simp
          skip
          refine hK.out _ _ ?_ (fun hNew => ?_)
          · exact trivial
          clear hK K hHeld
          have hHeld := hNew
          clear hNew
          try simp only [Act.put, pz1, pz2, pz3]
          refine tk 8 ⟨some 8, .assign (.tmp 34), 4, "leaf.go:98", #[⟨6, .data⟩, ⟨7, .chain⟩, ⟨0, .phase⟩, ⟨1, .phase⟩, ⟨2, .phase⟩, ⟨3, .phase⟩, ⟨4, .phase⟩, ⟨5, .phase⟩, ⟨6, .phase⟩, ⟨7, .phase⟩], none⟩ ?_; try simp only [Act.put, pz1, pz2, pz3]
          refine wpAnyH_done (by kernel_rfl) ?_ _
          refine NoPanic.normal ?_
          clear hHeld
          go_wp2_with fail
          obtain ⟨wz, hwz⟩ : ∃ V : World, V = (wX.setCell ⟨w0.heap.size, 0, none⟩ (.int .i64 0)).setCell ⟨w0.heap.size, 1, none⟩ (.int .i64 0) := ⟨_, rfl⟩
          have HZ3 : Blk ((wX.setCell ⟨w0.heap.size, 0, none⟩ (.int .i64 0)).setCell ⟨w0.heap.size, 1, none⟩ (.int .i64 0)) w0.heap.size 53 #[.int .i64 0, .int .i64 0] := (hplX.set_ 0 (.int .i64 0)).set_ 1 (.int .i64 0)
          have TZ := (Tch.setm wX w0.heap.size 0 (.int .i64 0)).trans (Tch.setm _ w0.heap.size 1 (.int .i64 0))
          rw [← hwz] at HZ3 TZ
          rw [← hwz]
          clear hwz
          have hCX := ((hE.chip.below_ hbG).below_ hbX).far TZ (fun g hg => by subst hg; omega)
          have hG4X := TZ.blk ((hpg.below hbG hpg.lt).below hbX (hpg.below hbG hpg.lt).lt) (by omega)
          have hCPX := capK (capK (capK hE.cap (Tch.of_below (S := fun _ => False) hbG) (fun g hg hS => hS)) (Tch.of_below (S := fun _ => False) hbX) (fun g hg hS => hS)) TZ (fun g hg hS => by subst hS; rcases hg with hg | hg <;> omega)
          have hTX := ((hE.tch.then hbG).then hbX).trans (TZ.mono (S' := (fun g => chB m gx gb g ∨ g = gs ∨ w0.heap.size ≤ g)) (fun g hg => by subst hg; exact Or.inr (Or.inr (Nat.le_refl _))))
          refine jumpsQ_ret ?_
          go_ret
          unfold scanE
          rw [HRE.out]
          exact ⟨rfl, hCX.chip, hCPX, by show acc.length ≤ 160; omega, hTX.monoL (fun g hg h => by rcases h with h | h | h; exact Or.inl h; exact Or.inr h; omega), hE.good.mono (by omega), hE.by8⟩
        · go_simp
          skip
          refine hK.out _ _ ?_ (fun hNew => ?_)
          · exact trivial
          clear hK K hHeld
          have hHeld := hNew
          clear hNew
          try simp only [Act.put, pz1, pz2, pz3]
          refine wpAnyH_ready (rs := [1]) (by kernel_rfl) (by simp) ?_
          refine AllReadyH.cons (o := ⟨some 30, .call { callee := .value (.func 36), args := #[.tmp 29], argTypes := #[26] }, 23, "leaf.go:98", #[⟨0, .data⟩], none⟩) rfl (fun K hK => ?_) AllReadyH.nil
          go_simp
          (first | (go_at_call 36; ((with_reducible refine (geometry_0 m gx gb Af nf cf a b c d e fs _ S (by first | exact hE.chip.chip | exact hCd)).mono ?_); rintro e' wG ⟨rfl, hbG⟩; (try have hbG := undrew hbG); have hplG := hE.pl.below hbG hE.pl.lt; have k0 := hplG.cell_ 0; have k1 := hplG.cell_ 1; simp at k0 k1)) | (go_at_call 69; ((with_reducible refine (hcn _).mono ?_); rintro e' wX ⟨rfl, hbX⟩; have hplX := hplG.below hbX hplG.lt; have q0 := hplX.cell_ 0; have q1 := hplX.cell_ 1; simp at q0 q1; have q9 := hplX.free)))
          go_wp2_with fail
          refine hK.out _ _ ?_ (fun hNew => ?_)
          · exact trivial
          clear hK K hHeld
          have hHeld := hNew
          clear hNew
          try simp only [Act.put, pz1, pz2, pz3]
          refine wpAnyH_ready (rs := [3]) (by kernel_rfl) (by simp) ?_
          refine AllReadyH.cons (o := ⟨some 32, .call { callee := .value (.func 69), args := #[.tmp 30, .tmp 31], argTypes := #[23, 53] }, 113, "leaf.go:98", #[⟨1, .data⟩, ⟨2, .data⟩, ⟨1, .chain⟩], none⟩) rfl (fun K hK => ?_) AllReadyH.nil
          go_simp
          (first | (go_at_call 36; ((with_reducible refine (geometry_0 m gx gb Af nf cf a b c d e fs _ S (by first | exact hE.chip.chip | exact hCd)).mono ?_); rintro e' wG ⟨rfl, hbG⟩; (try have hbG := undrew hbG); have hplG := hE.pl.below hbG hE.pl.lt; have k0 := hplG.cell_ 0; have k1 := hplG.cell_ 1; simp at k0 k1)) | (go_at_call 69; ((with_reducible refine (hcn _).mono ?_); rintro e' wX ⟨rfl, hbX⟩; have hplX := hplG.below hbX hplG.lt; have q0 := hplX.cell_ 0; have q1 := hplX.cell_ 1; simp at q0 q1; have q9 := hplX.free)))
          go_wp2_with fail
          refine hK.out _ _ ?_ (fun hNew => ?_)
          · exact trivial
          clear hK K hHeld
          have hHeld := hNew
          clear hNew
          try simp only [Act.put, pz1, pz2, pz3]
          refine tk 4 ⟨some 28, .move (.tmp 32), 113, "leaf.go:98", #[⟨3, .data⟩], none⟩ ?_; try simp only [Act.put, pz1, pz2, pz3]
          refine tk 5 ⟨some 33, .extract (.tmp 28) 0, 53, "leaf.go:98", #[⟨4, .data⟩], none⟩ ?_; try simp only [Act.put, pz1, pz2, pz3]
          refine tk 6 ⟨some 34, .extract (.tmp 28) 1, 4, "leaf.go:98", #[⟨4, .data⟩, { on := 7, ground := Ground.gcOnly Departure.lateStores }], none⟩ ?_; try simp only [Act.put, pz1, pz2, pz3]
          refine wpAnyH_ready (rs := [7]) (by kernel_rfl) (by simp) ?_
          refine AllReadyH.cons (o := ⟨none, .store 53 (.tmp 5) (.tmp 33), 0, "leaf.go:98", #[⟨5, .data⟩, ⟨3, .chain⟩, ⟨0, .phase⟩, ⟨1, .phase⟩, ⟨2, .phase⟩, ⟨3, .phase⟩, ⟨4, .phase⟩, ⟨5, .phase⟩, { on := 6, ground := Ground.textOnly Departure.lateStores }], none⟩) rfl (fun K hK => ?_) AllReadyH.nil
          go_simp
          skip
          refine hK.out _ _ ?_ (fun hNew => ?_)
          · exact trivial
          clear hK K hHeld
          have hHeld := hNew
          clear hNew
          try simp only [Act.put, pz1, pz2, pz3]
          refine tk 8 ⟨some 8, .assign (.tmp 34), 4, "leaf.go:98", #[⟨6, .data⟩, ⟨7, .chain⟩, ⟨0, .phase⟩, ⟨1, .phase⟩, ⟨2, .phase⟩, ⟨3, .phase⟩, ⟨4, .phase⟩, ⟨5, .phase⟩, ⟨6, .phase⟩, ⟨7, .phase⟩], none⟩ ?_; try simp only [Act.put, pz1, pz2, pz3]
          refine wpAnyH_done (by kernel_rfl) ?_ _
          refine NoPanic.normal ?_
          clear hHeld
          go_wp2_with fail
          obtain ⟨wz, hwz⟩ : ∃ V : World, V = (wX.setCell ⟨w0.heap.size, 0, none⟩ (.int .i64 0)).setCell ⟨w0.heap.size, 1, none⟩ (.int .i64 0) := ⟨_, rfl⟩
          have HZ3 : Blk ((wX.setCell ⟨w0.heap.size, 0, none⟩ (.int .i64 0)).setCell ⟨w0.heap.size, 1, none⟩ (.int .i64 0)) w0.heap.size 53 #[.int .i64 0, .int .i64 0] := (hplX.set_ 0 (.int .i64 0)).set_ 1 (.int .i64 0)
          have TZ := (Tch.setm wX w0.heap.size 0 (.int .i64 0)).trans (Tch.setm _ w0.heap.size 1 (.int .i64 0))
          rw [← hwz] at HZ3 TZ
          rw [← hwz]
          clear hwz
          have hCX := ((hE.chip.below_ hbG).below_ hbX).far TZ (fun g hg => by subst hg; omega)
          have hG4X := TZ.blk ((hpg.below hbG hpg.lt).below hbX (hpg.below hbG hpg.lt).lt) (by omega)
          have hCPX := capK (capK (capK hE.cap (Tch.of_below (S := fun _ => False) hbG) (fun g hg hS => hS)) (Tch.of_below (S := fun _ => False) hbX) (fun g hg hS => hS)) TZ (fun g hg hS => by subst hS; rcases hg with hg | hg <;> omega)
          have hTX := ((hE.tch.then hbG).then hbX).trans (TZ.mono (S' := (fun g => chB m gx gb g ∨ g = gs ∨ w0.heap.size ≤ g)) (fun g hg => by subst hg; exact Or.inr (Or.inr (Nat.le_refl _))))
          refine jumpsQ_ret ?_
          go_ret
          unfold scanE
          rw [HRE.out]
          exact ⟨rfl, hCX.chip, hCPX, by show acc.length ≤ 160; omega, hTX.monoL (fun g hg h => by rcases h with h | h | h; exact Or.inl h; exact Or.inr h; omega), hE.good.mono (by omega), hE.by8⟩
  · intro hcut
    have HC := Lib.hid hcut
    clear hcut
    go_wp2
    rename_i K hK
    go_step3
    show K _ _
    refine hK _ _ ?_
    exact HC.out 1 _ _ _ (Or.inl ⟨rfl, scanJ1.mk ⟨⟨hC.below_ HBW, HP3, ⟨_, _, _, _, _, _, HP4⟩, capK hcap (Tch.of_below (S := fun _ => False) HBW) (fun g hg hS => hS), Nat.zero_le _, Tch.of_below HBW, hg.mono (by omega), h8, hAB0, by rw [Nat.zero_div]; rfl, by rw [Nat.zero_mod]; rfl⟩, hR, Nat.le_refl _⟩⟩) _ (by kernel_rfl)
end Go.Proofs.Ytdfojhkpfbnmgaa
namespace Go.Proofs.Ytdfojhkpfbnmgaa
open Go.ChangeShapes Go.WideShapes Go.ChangeAt Go.RowKit
attribute [local go_sem ↓] Go.wp_at_zero Go.wp_at_succ
structure Evcount (w0 : World) (n0 : Int) (m gx gb : Nat) (Af : Option Addr) (nf cf : Nat) (a b c d e : Int) (fs : List Flt) (L NA NB ga gb2 gc : Nat) (R : Int × List Vis × ChS) (wr : World) (i : Nat) (S : ChS) (acc : List Vis) (x y : Int) : Prop where
  chip : ChN wr L m gx gb Af nf cf a b c d e fs S
  pl : Blk wr w0.heap.size 53 #[.int .i64 x, .int .i64 y]
  pg : ∃ v0 v1 v2 v3 v4 v5, Blk wr (w0.heap.size + 1) 99 #[v0, v1, v2, v3, v4, v5]
  cap : (Cnt wr ga gb2 gc (cnt (fun s => s == 0) acc) (cnt (fun s => s == 1) acc) (cnt (fun s => !(s == 0 || s == 1)) acc))
  alen : acc.length ≤ i
  tch : Tch (fun g => chB m gx gb g ∨ cB ga gb2 gc g ∨ w0.heap.size ≤ g) w0 wr
  good : Good S (n0 + 3 * (i : Int))
  by8 : Bytes8 S.X
  lt : i < NA * NB
  px : x = ((i / NB : Nat) : Int)
  py : y = ((i % NB : Nat) : Int)
structure Ewcount (w0 : World) (n0 : Int) (m gx gb : Nat) (Af : Option Addr) (nf cf : Nat) (a b c d e : Int) (fs : List Flt) (L NA NB ga gb2 gc : Nat) (R : Int × List Vis × ChS) (wr : World) (i : Nat) (S : ChS) (acc : List Vis) (x y : Int) : Prop where
  chip : ChN wr L m gx gb Af nf cf a b c d e fs S
  pl : Blk wr w0.heap.size 53 #[.int .i64 x, .int .i64 y]
  pg : ∃ v0 v1 v2 v3 v4 v5, Blk wr (w0.heap.size + 1) 99 #[v0, v1, v2, v3, v4, v5]
  cap : (Cnt wr ga gb2 gc (cnt (fun s => s == 0) acc) (cnt (fun s => s == 1) acc) (cnt (fun s => !(s == 0 || s == 1)) acc))
  alen : acc.length ≤ i + 1
  tch : Tch (fun g => chB m gx gb g ∨ cB ga gb2 gc g ∨ w0.heap.size ≤ g) w0 wr
  good : Good S (n0 + 3 + 3 * (i : Int))
  by8 : Bytes8 S.X
  lt : i < NA * NB
  px : x = ((i / NB : Nat) : Int)
  py : y = ((i % NB : Nat) : Int)
def countE (w0 : World) (n0 : Int) (m gx gb : Nat) (Af : Option Addr) (nf cf : Nat) (a b c d e : Int) (fs : List Flt) (L NA NB ga gb2 gc : Nat) (R : Int × List Vis × ChS) (e' : Ending) (w' : World) : Prop := e' = .returned (.int .i64 R.1) ∧ ChipW w' m gx gb Af nf cf a b c d e fs R.2.2 ∧ (Cnt w' ga gb2 gc (cnt (fun s => s == 0) R.2.1) (cnt (fun s => s == 1) R.2.1) (cnt (fun s => !(s == 0 || s == 1)) R.2.1)) ∧ R.2.1.length ≤ 160 ∧ Tch (fun g => chB m gx gb g ∨ cB ga gb2 gc g) w0 w' ∧ Good R.2.2 (n0 + 1000) ∧ Bytes8 R.2.2.X
end Go.Proofs.Ytdfojhkpfbnmgaa
namespace Go.Proofs.Ytdfojhkpfbnmgaa
open Go.ChangeShapes Go.WideShapes Go.ChangeAt Go.RowKit
attribute [local go_sem ↓] Go.wp_at_zero Go.wp_at_succ
theorem scan_ok (m gx gb : Nat) (Af : Option Addr) (nf cf : Nat) (a b c d e : Int) (fs : List Flt) (NA NB : Nat) (n0 : Int) (acc : List Vis) (s S1 : ChS) (w : World) (hC : ChipW w m gx gb Af nf cf a b c d e fs s) (hg : Good s n0) (hn0 : n0 ≤ 800000000) (h8 : Bytes8 s.X) (hNA : (NA : Int) = a) (hNB : (NB : Int) = b) (hR : Hid (walkF a b c NB fs (NA * NB) 0 s [] = (0, acc, S1))) (n : Nat) (hn : Hid ((fdsOf acc).length = n)) :
    Calls Try.prog 44 #[.pointer (some ⟨m, 0, none⟩)] w fun e' w' => (∃ A c', e' = .returned (.tuple #[.slice A n c', .int .i64 0]) ∧ RowFd w' w.heap.size (.slice A n c') (fdsOf acc)) ∧ ChipW w' m gx gb Af nf cf a b c d e fs S1 ∧ Tch (chB m gx gb) w w' ∧ Good S1 (n0 + 1000) ∧ Bytes8 S1.X := by
  have HN := hn
  have hCN := (ChN.start hC).below_ (show Below w.heap.size w (w.alloc (.cells #[.slice none 0 0] 76)) from (Below.refl _ _).alloc (Nat.le_refl _) _)
  have hsz1 : w.heap.size ≤ (w.alloc (.cells #[.slice none 0 0] 76)).heap.size := by simp
  have hB1 : Blk (w.alloc (.cells #[.slice none 0 0] 76)) w.heap.size 76 #[.slice none 0 0] := Blk.new_ _ _ _
  have hgs : w.heap.size ≤ w.heap.size ∧ w.heap.size < (w.alloc (.cells #[.slice none 0 0] 76)).heap.size := ⟨Nat.le_refl _, hB1.lt⟩
  have hcap : Cap (w.alloc (.cells #[.slice none 0 0] 76)) w.heap.size ((w.alloc (.cells #[.slice none 0 0] 76)).heap.size + 2) (fdsOf []) := ⟨⟨_, hB1, RowFd.nil_ _ _⟩, by have := hB1.lt; omega⟩
  have hBW : Below w.heap.size w (w.alloc (.cells #[.slice none 0 0] 76)) := (Below.refl _ _).alloc (Nat.le_refl _) _
  have HNA := Lib.hid (And.intro hNA hNB)
  have hmf : ∀ (fn : Fn) (first cap : Array Value) (w : World), (Instr.makeFunc fn first cap).run Try.prog w = .ok (.func fn first cap) w := fun _ _ _ _ => rfl
  go_enter Try.func44, Try.ntmps44
  go_wp2_with (go_at_call 62; ((with_reducible refine (each_scan (w.alloc (.cells #[.slice none 0 0] 76)) n0 m gx gb Af nf cf a b c d e fs w.heap.size NA NB w.heap.size s (0, acc, S1) hCN hsz1 hgs hcap hg hn0 h8 hNA hNB hR).mono ?_); rintro e' wE hX; obtain ⟨rfl, hCE, hKE, hlE, hTE, hGE, hBE⟩ := hX; obtain ⟨⟨v, hvB, hvR⟩, -⟩ := hKE; obtain ⟨A2, c2, hv, -, -, -⟩ := hvR.sl; rw [HN.out] at hv; subst hv; have z0 := hvB.cell_ 0; simp at z0))
  go_ret2
  refine ⟨⟨_, _, rfl, hvR.base (by simp; omega)⟩, hCE, ?_, hGE, hBE⟩
  exact ((Tch.of_below (S := fun g => chB m gx gb g ∨ g = w.heap.size) hBW).trans hTE).monoL (fun g hg h => by rcases h with h | h; exact h; omega)
end Go.Proofs.Ytdfojhkpfbnmgaa
namespace Go.Proofs.Ytdfojhkpfbnmgaa
def ext (ws : List Int) (good : List Bool) (s : Int) : Nat → Int
  | 0 => -1
  | k + 1 => if good.getD k false = true ∧ (ext ws good s k < 0 ∨ s * ws.getD k 0 < s * ws.getD (ext ws good s k).toNat 0) then (k : Int) else ext ws good s k
def cntW (good : List Bool) : Nat → Nat
  | 0 => 0
  | k + 1 => cntW good k + if good.getD k false = true then 1 else 0
theorem ext_bd (ws : List Int) (good : List Bool) (s : Int) : ∀ k, ext ws good s k = -1 ∨ (0 ≤ ext ws good s k ∧ ext ws good s k < (k : Int))
  | 0 => Or.inl rfl
  | k + 1 => by
    have h := ext_bd ws good s k
    unfold ext
    split
    · right; omega
    · rcases h with h | h
      · left; exact h
      · right; omega
theorem ext_neg (ws : List Int) (good : List Bool) (s : Int) : ∀ k, ext ws good s k < 0 ↔ cntW good k = 0
  | 0 => by simp [ext, cntW]
  | k + 1 => by
    have h := ext_neg ws good s k
    have hb := ext_bd ws good s k
    unfold ext cntW
    cases hg : good.getD k false
    · simpa using h
    · simp only [true_and, if_true]
      constructor
      · intro h2
        split at h2
        · omega
        · rename_i h3
          rw [not_or] at h3
          omega
      · intro h2
        omega
theorem ext_one (ws : List Int) (good : List Bool) (s t : Int) : ∀ k, cntW good k ≤ 1 → ext ws good s k = ext ws good t k
  | 0, _ => rfl
  | k + 1, h => by
    have hs := ext_neg ws good s k
    have ht := ext_neg ws good t k
    unfold ext
    cases hg : good.getD k false
    · simp only [Bool.false_eq_true, false_and, if_false]
      refine ext_one ws good s t k ?_
      unfold cntW at h
      omega
    · unfold cntW at h
      rw [hg] at h
      simp only [if_true] at h
      have h0 : cntW good k = 0 := by omega
      rw [if_pos ⟨rfl, Or.inl (hs.2 h0)⟩, if_pos ⟨rfl, Or.inl (ht.2 h0)⟩]
def mlen (ws : List Int) (good : List Bool) : Nat := min ws.length good.length
def spreadI (ws : List Int) (good : List Bool) : Int :=
  if ext ws good 1 (mlen ws good) < 0 then 0 else ws.getD (ext ws good (-1) (mlen ws good)).toNat 0 - ws.getD (ext ws good 1 (mlen ws good)).toNat 0
theorem spread_few {ws : List Int} {good : List Bool} (h : cntW good (mlen ws good) < 2) : spreadI ws good = 0 := by
  unfold spreadI
  rw [ext_one ws good (-1) 1 _ (by omega)]
  split <;> omega
theorem cntW_le (good : List Bool) : ∀ k, cntW good k ≤ k
  | 0 => by simp [cntW]
  | k + 1 => by
    have h := cntW_le good k
    unfold cntW
    split <;> omega
end Go.Proofs.Ytdfojhkpfbnmgaa
namespace Go.Proofs.Ytdfojhkpfbnmgaa
open Go.ChangeShapes Go.WideShapes Go.ChangeAt Go.RowKit
theorem look_le (ws : List Int) (good : List Bool) (A1 A2 : Option Addr) (c1 c2 : Nat) (w : World)
    (h1 : Sl w w.heap.size A1 (ws.map (Value.int .i64))) (h2 : Sl w w.heap.size A2 (good.map Value.bool)) (n1 : ws.length ≤ 1000000) (n2 : good.length ≤ 1000000)
    (hw : ∀ z ∈ ws, -4611686018427387904 ≤ z ∧ z ≤ 4611686018427387904) (hm : ws.length ≤ good.length) :
    Calls Try.prog 58 #[.slice A1 ws.length c1, .slice A2 good.length c2] w fun e w' =>
      e = .returned (.agg #[.int .i64 (cntW good (mlen ws good)), .int .i64 (ext ws good 1 (mlen ws good)), .int .i64 (ext ws good (-1) (mlen ws good))]) ∧ Below w.heap.size w w' := by
  have em : mlen ws good = ws.length := by unfold mlen; omega
  rw [em]
  have Em := Lib.hid em
  have HW := Lib.hid hw
  clear em hw
  go_enter Try.func58, Try.ntmps58
  go_wp2
  go_loopw [13] (fun i wr => ∃ k : Nat, k ≤ ws.length ∧ i = .int .i64 k ∧ Below w.heap.size w wr ∧ Blk wr w.heap.size 94 #[.int .i64 0, .int .i64 0, .int .i64 0] ∧
      Blk wr (w.heap.size + 1) 94 #[.int .i64 (cntW good k), .int .i64 (ext ws good 1 k), .int .i64 (ext ws good (-1) k)]) (fun i _ => ws.length - (intOf i).toNat)
  case atStart =>
    refine ⟨0, Nat.zero_le _, rfl, ((Below.refl _ _).alloc (Nat.le_refl _) _).alloc (by simp) _, (Blk.new_ _ _ _).alloc_ _, ?_⟩
    have := Blk.new_ (w.alloc (.cells #[.int .i64 0, .int .i64 0, .int .i64 0] 94)) 94 #[.int .i64 0, .int .i64 (-1), .int .i64 (-1)]
    simpa [cntW, ext] using this
  case round =>
    obtain ⟨k, hk, rfl, hBr, R0, R1⟩ := hrel
    by_cases hlt : k < ws.length
    · have hk1 : k < ws.length := by omega
      have hk2 : k < good.length := by omega
      have s1 := (h1.below hBr).at_ (by simpa using (by omega : 0 < ws.length))
      have s2 := (h2.below hBr).at_ (by simpa using (by omega : 0 < good.length))
      obtain ⟨b1, o1, rfl, l1, q1⟩ := s1
      obtain ⟨b2, o2, rfl, l2, q2⟩ := s2
      obtain ⟨g, hg⟩ : ∃ g, good.getD k false = g := ⟨_, rfl⟩
      have cg : wr.cell? ⟨b2, o2 + k, none⟩ = some (.bool g) := q2 k _ (by rw [← hg]; simp [hk2])
      have Q1 := Lib.hid q1
      clear q2
      have w0 := R1.cell_ 0
      have w1 := R1.cell_ 1
      have w2 := R1.cell_ 2
      have wf := R1.free
      simp at w0 w1 w2
      have i1 : (0 : Int) ≤ (k : Int) := by omega
      have i2 : (k : Int) < (ws.length : Int) := by omega
      have i3 : (k : Int) < (good.length : Int) := by omega
      have l3 := R1.lt
      have Hg := Lib.hid hg
      have Hne1 : b1 ≠ w.heap.size + 1 := by omega
      have Hne2 : b2 ≠ w.heap.size + 1 := by omega
      have eb1 := ext_bd ws good 1 k
      have eb2 := ext_bd ws good (-1) k
      have en1 := ext_neg ws good 1 k
      have en2 := ext_neg ws good (-1) k
      have ec := cntW_le good k
      obtain ⟨e1, he1⟩ : ∃ x, ext ws good 1 k = x := ⟨_, rfl⟩
      obtain ⟨e2, he2⟩ : ∃ x, ext ws good (-1) k = x := ⟨_, rfl⟩
      obtain ⟨c, hc⟩ : ∃ x, cntW good k = x := ⟨_, rfl⟩
      rw [he1] at w1 eb1 en1 R1
      rw [he2] at w2 eb2 en2 R1
      rw [hc] at w0 en1 en2 ec R1
      have He1 := Lib.hid he1
      have He2 := Lib.hid he2
      have Hc := Lib.hid hc
      clear hg he1 he2 hc
      cases g
      · clear q1
        go_wp2
        go_roundw
        case rel =>
          refine ⟨k + 1, by omega, by go_num, hBr, R0, ?_⟩
          have a1 : cntW good (k + 1) = c := by unfold cntW; rw [Hg.out, Hc.out]; simp
          have a2 : ext ws good 1 (k + 1) = e1 := by unfold ext; rw [Hg.out, He1.out]; simp
          have a3 : ext ws good (-1) (k + 1) = e2 := by unfold ext; rw [Hg.out, He2.out]; simp
          rw [a1, a2, a3]
          exact R1
        case measure => simp [intOf]; omega
      · have kw : ∃ z, ws.getD k 0 = z := ⟨_, rfl⟩
        obtain ⟨zk, hzk⟩ := kw
        have ck : wr.cell? ⟨b1, o1 + k, none⟩ = some (.int .i64 zk) := q1 k _ (by rw [← hzk]; simp [hk1])
        have a1 : cntW good (k + 1) = c + 1 := by unfold cntW; rw [Hg.out, Hc.out]; simp
        have Ha1 := Lib.hid a1
        have Hzk := Lib.hid hzk
        clear hzk a1 q1
        have i4 : (0 : Int) ≤ (c : Int) := by omega
        have i5 : (c : Int) ≤ 1000000 := by omega
        by_cases hneg : e1 < 0
        · have hc0 : c = 0 := en1.1 hneg
          have f1 : e1 = -1 := by omega
          have f2 : e2 = -1 := by omega
          subst f1
          subst f2
          subst hc0
          clear w0 w1 w2
          have w0 := R1.cell_ 0
          have w1 := R1.cell_ 1
          have w2 := R1.cell_ 2
          simp at w0 w1 w2
          go_wp2
          go_quiet (fail)
          go_wp2
          go_quiet (fail)
          go_wp2
          go_roundw
          case rel =>
            have a2 : ext ws good 1 (k + 1) = k := by unfold ext; rw [Hg.out, He1.out]; simp
            have a3 : ext ws good (-1) (k + 1) = k := by unfold ext; rw [Hg.out, He2.out]; simp
            refine ⟨k + 1, by omega, by go_num, ?_, ?_, ?_⟩
            · exact (below_dn ((below_dn (hBr.setCell (p := ⟨w.heap.size + 1, 0, none⟩) (by simp) _) _).setCell (p := ⟨w.heap.size + 1, 1, none⟩) (by simp) _) _).setCell (p := ⟨w.heap.size + 1, 2, none⟩) (by simp) _
            · exact ((((R0.far (p := ⟨w.heap.size + 1, 0, none⟩) (by simp) _).drewN_ _).far (p := ⟨w.heap.size + 1, 1, none⟩) (by simp) _).drewN_ _).far (p := ⟨w.heap.size + 1, 2, none⟩) (by simp) _
            · rw [Ha1.out, a2, a3]
              exact ((((R1.set_ 0 _).drewN_ _).set_ 1 _).drewN_ _).set_ 2 _
          case measure => simp [intOf]; omega
        · obtain ⟨j1, rfl⟩ : ∃ j : Nat, e1 = (j : Int) := ⟨e1.toNat, by omega⟩
          obtain ⟨j2, rfl⟩ : ∃ j : Nat, e2 = (j : Int) := ⟨e2.toNat, by omega⟩
          have hj1 : j1 < ws.length := by omega
          have hj2 : j2 < ws.length := by omega
          obtain ⟨z1, hz1⟩ : ∃ z, ws.getD j1 0 = z := ⟨_, rfl⟩
          obtain ⟨z2, hz2⟩ : ∃ z, ws.getD j2 0 = z := ⟨_, rfl⟩
          have v1 : wr.cell? ⟨b1, o1 + j1, none⟩ = some (.int .i64 z1) := Q1.out j1 _ (by rw [← hz1]; simp [hj1])
          have v2 : wr.cell? ⟨b1, o1 + j2, none⟩ = some (.int .i64 z2) := Q1.out j2 _ (by rw [← hz2]; simp [hj2])
          have a2 : ext ws good 1 (k + 1) = if zk < z1 then (k : Int) else j1 := by
            unfold ext
            rw [Hg.out, He1.out, Hzk.out, Int.toNat_natCast, hz1, Int.one_mul, Int.one_mul]
            by_cases h : zk < z1 <;> simp [h] <;> omega
          have a3 : ext ws good (-1) (k + 1) = if z2 < zk then (k : Int) else j2 := by
            unfold ext
            rw [Hg.out, He2.out, Hzk.out, Int.toNat_natCast, hz2]
            by_cases h : z2 < zk
            · have h' : -1 * zk < -1 * z2 := by omega
              simp only [h, h', or_true, and_self, if_true]
            · have h' : ¬ (-1 * zk < -1 * z2) := by omega
              have h'' : ¬ ((j2 : Int) < 0) := by omega
              simp only [h, h', h'', or_self, and_false, if_false]
          have m1 : (j1 : Int) < (ws.length : Int) := by omega
          have m2 : (j2 : Int) < (ws.length : Int) := by omega
          have m3 : (0 : Int) ≤ (j1 : Int) := by omega
          have m4 : (0 : Int) ≤ (j2 : Int) := by omega
          have heq : j1 = j2 → z1 = z2 := fun h => by rw [← hz1, ← hz2, h]
          have A2 := Lib.hid a2
          have A3 := Lib.hid a3
          clear w0 w1 w2 a2 a3 hz1 hz2 en1 en2 eb1 eb2 hneg
          have w0 := R1.cell_ 0
          have w1 := R1.cell_ 1
          have w2 := R1.cell_ 2
          simp at w0 w1 w2
          by_cases hj : j1 = j2
          · subst hj
            obtain rfl := heq rfl
            clear heq v2
            by_cases hA : zk < z1
            · have hB : ¬ z1 < zk := by omega
              have HA := Lib.hid hA
              have HB := Lib.hid hB
              go_wp2
              go_quiet (fail)
              go_wp2
              go_quiet (fail)
              go_wp2
              go_roundw
              case rel =>
                refine ⟨k + 1, by omega, by go_num, below_dn ((below_dn (hBr.setCell (p := ⟨w.heap.size + 1, 0, none⟩) (by simp) _) _).setCell (p := ⟨w.heap.size + 1, 1, none⟩) (by simp) _) _, (((R0.far (p := ⟨w.heap.size + 1, 0, none⟩) (by simp) _).drewN_ _).far (p := ⟨w.heap.size + 1, 1, none⟩) (by simp) _).drewN_ _, ?_⟩
                rw [Ha1.out, A2.out, A3.out, if_pos HA.out, if_neg (Int.not_lt.2 HB.out)]
                exact (((R1.set_ 0 _).drewN_ _).set_ 1 _).drewN_ _
              case measure => simp [intOf]; omega
            · by_cases hB : z1 < zk
              · have HA := Lib.hid hA
                have HB := Lib.hid hB
                go_wp2
                go_quiet (fail)
                go_wp2
                go_quiet (fail)
                go_wp2
                go_roundw
                case rel =>
                  refine ⟨k + 1, by omega, by go_num, (below_dn (hBr.setCell (p := ⟨w.heap.size + 1, 0, none⟩) (by simp) _) _).setCell (p := ⟨w.heap.size + 1, 2, none⟩) (by simp) _, ((R0.far (p := ⟨w.heap.size + 1, 0, none⟩) (by simp) _).drewN_ _).far (p := ⟨w.heap.size + 1, 2, none⟩) (by simp) _, ?_⟩
                  rw [Ha1.out, A2.out, A3.out, if_neg (Int.not_lt.2 HA.out), if_pos HB.out]
                  exact ((R1.set_ 0 _).drewN_ _).set_ 2 _
                case measure => simp [intOf]; omega
              · skip
                have HA := Lib.hid hA
                have HB := Lib.hid hB
                go_wp2
                go_quiet (fail)
                go_wp2
                go_quiet (fail)
                go_wp2
                go_roundw
                case rel =>
                  refine ⟨k + 1, by omega, by go_num, below_dn (hBr.setCell (p := ⟨w.heap.size + 1, 0, none⟩) (by simp) _) _, (R0.far (p := ⟨w.heap.size + 1, 0, none⟩) (by simp) _).drewN_ _, ?_⟩
                  rw [Ha1.out, A2.out, A3.out, if_neg (Int.not_lt.2 HA.out), if_neg (Int.not_lt.2 HB.out)]
                  exact (R1.set_ 0 _).drewN_ _
                case measure => simp [intOf]; omega
          · clear heq
            by_cases hA : zk < z1 <;> by_cases hB : z2 < zk
            · skip
              have HA := Lib.hid hA
              have HB := Lib.hid hB
              go_wp2
              go_quiet (fail)
              go_wp2
              go_quiet (fail)
              go_wp2
              go_roundw
              case rel =>
                refine ⟨k + 1, by omega, by go_num, (below_dn ((below_dn (hBr.setCell (p := ⟨w.heap.size + 1, 0, none⟩) (by simp) _) _).setCell (p := ⟨w.heap.size + 1, 1, none⟩) (by simp) _) _).setCell (p := ⟨w.heap.size + 1, 2, none⟩) (by simp) _, ((((R0.far (p := ⟨w.heap.size + 1, 0, none⟩) (by simp) _).drewN_ _).far (p := ⟨w.heap.size + 1, 1, none⟩) (by simp) _).drewN_ _).far (p := ⟨w.heap.size + 1, 2, none⟩) (by simp) _, ?_⟩
                rw [Ha1.out, A2.out, A3.out, if_pos HA.out, if_pos HB.out]
                exact ((((R1.set_ 0 _).drewN_ _).set_ 1 _).drewN_ _).set_ 2 _
              case measure => simp [intOf]; omega
            · skip
              have HA := Lib.hid hA
              have HB := Lib.hid hB
              go_wp2
              go_quiet (fail)
              go_wp2
              go_quiet (fail)
              go_wp2
              go_roundw
              case rel =>
                refine ⟨k + 1, by omega, by go_num, below_dn ((below_dn (hBr.setCell (p := ⟨w.heap.size + 1, 0, none⟩) (by simp) _) _).setCell (p := ⟨w.heap.size + 1, 1, none⟩) (by simp) _) _, (((R0.far (p := ⟨w.heap.size + 1, 0, none⟩) (by simp) _).drewN_ _).far (p := ⟨w.heap.size + 1, 1, none⟩) (by simp) _).drewN_ _, ?_⟩
                rw [Ha1.out, A2.out, A3.out, if_pos HA.out, if_neg (Int.not_lt.2 HB.out)]
                exact (((R1.set_ 0 _).drewN_ _).set_ 1 _).drewN_ _
              case measure => simp [intOf]; omega
            · skip
              have HA := Lib.hid hA
              have HB := Lib.hid hB
              go_wp2
              go_quiet (fail)
              go_wp2
              go_quiet (fail)
              go_wp2
              go_roundw
              case rel =>
                refine ⟨k + 1, by omega, by go_num, (below_dn (hBr.setCell (p := ⟨w.heap.size + 1, 0, none⟩) (by simp) _) _).setCell (p := ⟨w.heap.size + 1, 2, none⟩) (by simp) _, ((R0.far (p := ⟨w.heap.size + 1, 0, none⟩) (by simp) _).drewN_ _).far (p := ⟨w.heap.size + 1, 2, none⟩) (by simp) _, ?_⟩
                rw [Ha1.out, A2.out, A3.out, if_neg (Int.not_lt.2 HA.out), if_pos HB.out]
                exact ((R1.set_ 0 _).drewN_ _).set_ 2 _
              case measure => simp [intOf]; omega
            · skip
              have HA := Lib.hid hA
              have HB := Lib.hid hB
              go_wp2
              go_quiet (fail)
              go_wp2
              go_quiet (fail)
              go_wp2
              go_roundw
              case rel =>
                refine ⟨k + 1, by omega, by go_num, below_dn (hBr.setCell (p := ⟨w.heap.size + 1, 0, none⟩) (by simp) _) _, (R0.far (p := ⟨w.heap.size + 1, 0, none⟩) (by simp) _).drewN_ _, ?_⟩
                rw [Ha1.out, A2.out, A3.out, if_neg (Int.not_lt.2 HA.out), if_neg (Int.not_lt.2 HB.out)]
                exact (R1.set_ 0 _).drewN_ _
              case measure => simp [intOf]; omega
    · have hk' : k = ws.length := by omega
      subst hk'
      have w0 := R1.cell_ 0
      have w1 := R1.cell_ 1
      have w2 := R1.cell_ 2
      simp at w0 w1 w2
      have wf := R0.free
      have r0 := R0.cell_ 0
      have r1 := R0.cell_ 1
      have r2 := R0.cell_ 2
      simp at r0 r1 r2
      go_wp2
      refine bodyPost_ret (v := .agg #[.int .i64 (cntW good ws.length), .int .i64 (ext ws good 1 ws.length), .int .i64 (ext ws good (-1) ws.length)]) (by simp [results, Try.results58, go_sem, *]) rfl ⟨rfl, ?_⟩
      exact ((hBr.setCell (by simp) _).setCell (by simp) _).setCell (by simp) _
theorem look_ge (ws : List Int) (good : List Bool) (A1 A2 : Option Addr) (c1 c2 : Nat) (w : World)
    (h1 : Sl w w.heap.size A1 (ws.map (Value.int .i64))) (h2 : Sl w w.heap.size A2 (good.map Value.bool)) (n1 : ws.length ≤ 1000000) (n2 : good.length ≤ 1000000)
    (hw : ∀ z ∈ ws, -4611686018427387904 ≤ z ∧ z ≤ 4611686018427387904) (hm : good.length < ws.length) :
    Calls Try.prog 58 #[.slice A1 ws.length c1, .slice A2 good.length c2] w fun e w' =>
      e = .returned (.agg #[.int .i64 (cntW good (mlen ws good)), .int .i64 (ext ws good 1 (mlen ws good)), .int .i64 (ext ws good (-1) (mlen ws good))]) ∧ Below w.heap.size w w' := by
  have em : mlen ws good = good.length := by unfold mlen; omega
  rw [em]
  have Em := Lib.hid em
  have HW := Lib.hid hw
  clear em hw
  go_enter Try.func58, Try.ntmps58
  go_wp2
  go_loopw [13] (fun i wr => ∃ k : Nat, k ≤ good.length ∧ i = .int .i64 k ∧ Below w.heap.size w wr ∧ Blk wr w.heap.size 94 #[.int .i64 0, .int .i64 0, .int .i64 0] ∧
      Blk wr (w.heap.size + 1) 94 #[.int .i64 (cntW good k), .int .i64 (ext ws good 1 k), .int .i64 (ext ws good (-1) k)]) (fun i _ => good.length - (intOf i).toNat)
  case atStart =>
    refine ⟨0, Nat.zero_le _, rfl, ((Below.refl _ _).alloc (Nat.le_refl _) _).alloc (by simp) _, (Blk.new_ _ _ _).alloc_ _, ?_⟩
    have := Blk.new_ (w.alloc (.cells #[.int .i64 0, .int .i64 0, .int .i64 0] 94)) 94 #[.int .i64 0, .int .i64 (-1), .int .i64 (-1)]
    simpa [cntW, ext] using this
  case round =>
    obtain ⟨k, hk, rfl, hBr, R0, R1⟩ := hrel
    by_cases hlt : k < good.length
    · have hk1 : k < ws.length := by omega
      have hk2 : k < good.length := by omega
      have s1 := (h1.below hBr).at_ (by simpa using (by omega : 0 < ws.length))
      have s2 := (h2.below hBr).at_ (by simpa using (by omega : 0 < good.length))
      obtain ⟨b1, o1, rfl, l1, q1⟩ := s1
      obtain ⟨b2, o2, rfl, l2, q2⟩ := s2
      obtain ⟨g, hg⟩ : ∃ g, good.getD k false = g := ⟨_, rfl⟩
      have cg : wr.cell? ⟨b2, o2 + k, none⟩ = some (.bool g) := q2 k _ (by rw [← hg]; simp [hk2])
      have Q1 := Lib.hid q1
      clear q2
      have w0 := R1.cell_ 0
      have w1 := R1.cell_ 1
      have w2 := R1.cell_ 2
      have wf := R1.free
      simp at w0 w1 w2
      have i1 : (0 : Int) ≤ (k : Int) := by omega
      have i2 : (k : Int) < (ws.length : Int) := by omega
      have i3 : (k : Int) < (good.length : Int) := by omega
      have l3 := R1.lt
      have Hg := Lib.hid hg
      have Hne1 : b1 ≠ w.heap.size + 1 := by omega
      have Hne2 : b2 ≠ w.heap.size + 1 := by omega
      have eb1 := ext_bd ws good 1 k
      have eb2 := ext_bd ws good (-1) k
      have en1 := ext_neg ws good 1 k
      have en2 := ext_neg ws good (-1) k
      have ec := cntW_le good k
      obtain ⟨e1, he1⟩ : ∃ x, ext ws good 1 k = x := ⟨_, rfl⟩
      obtain ⟨e2, he2⟩ : ∃ x, ext ws good (-1) k = x := ⟨_, rfl⟩
      obtain ⟨c, hc⟩ : ∃ x, cntW good k = x := ⟨_, rfl⟩
      rw [he1] at w1 eb1 en1 R1
      rw [he2] at w2 eb2 en2 R1
      rw [hc] at w0 en1 en2 ec R1
      have He1 := Lib.hid he1
      have He2 := Lib.hid he2
      have Hc := Lib.hid hc
      clear hg he1 he2 hc
      cases g
      · clear q1
        go_wp2
        go_roundw
        case rel =>
          refine ⟨k + 1, by omega, by go_num, hBr, R0, ?_⟩
          have a1 : cntW good (k + 1) = c := by unfold cntW; rw [Hg.out, Hc.out]; simp
          have a2 : ext ws good 1 (k + 1) = e1 := by unfold ext; rw [Hg.out, He1.out]; simp
          have a3 : ext ws good (-1) (k + 1) = e2 := by unfold ext; rw [Hg.out, He2.out]; simp
          rw [a1, a2, a3]
          exact R1
        case measure => simp [intOf]; omega
      · have kw : ∃ z, ws.getD k 0 = z := ⟨_, rfl⟩
        obtain ⟨zk, hzk⟩ := kw
        have ck : wr.cell? ⟨b1, o1 + k, none⟩ = some (.int .i64 zk) := q1 k _ (by rw [← hzk]; simp [hk1])
        have a1 : cntW good (k + 1) = c + 1 := by unfold cntW; rw [Hg.out, Hc.out]; simp
        have Ha1 := Lib.hid a1
        have Hzk := Lib.hid hzk
        clear hzk a1 q1
        have i4 : (0 : Int) ≤ (c : Int) := by omega
        have i5 : (c : Int) ≤ 1000000 := by omega
        by_cases hneg : e1 < 0
        · have hc0 : c = 0 := en1.1 hneg
          have f1 : e1 = -1 := by omega
          have f2 : e2 = -1 := by omega
          subst f1
          subst f2
          subst hc0
          clear w0 w1 w2
          have w0 := R1.cell_ 0
          have w1 := R1.cell_ 1
          have w2 := R1.cell_ 2
          simp at w0 w1 w2
          go_wp2
          go_quiet (fail)
          go_wp2
          go_quiet (fail)
          go_wp2
          go_roundw
          case rel =>
            have a2 : ext ws good 1 (k + 1) = k := by unfold ext; rw [Hg.out, He1.out]; simp
            have a3 : ext ws good (-1) (k + 1) = k := by unfold ext; rw [Hg.out, He2.out]; simp
            refine ⟨k + 1, by omega, by go_num, ?_, ?_, ?_⟩
            · exact (below_dn ((below_dn (hBr.setCell (p := ⟨w.heap.size + 1, 0, none⟩) (by simp) _) _).setCell (p := ⟨w.heap.size + 1, 1, none⟩) (by simp) _) _).setCell (p := ⟨w.heap.size + 1, 2, none⟩) (by simp) _
            · exact ((((R0.far (p := ⟨w.heap.size + 1, 0, none⟩) (by simp) _).drewN_ _).far (p := ⟨w.heap.size + 1, 1, none⟩) (by simp) _).drewN_ _).far (p := ⟨w.heap.size + 1, 2, none⟩) (by simp) _
            · rw [Ha1.out, a2, a3]
              exact ((((R1.set_ 0 _).drewN_ _).set_ 1 _).drewN_ _).set_ 2 _
          case measure => simp [intOf]; omega
        · obtain ⟨j1, rfl⟩ : ∃ j : Nat, e1 = (j : Int) := ⟨e1.toNat, by omega⟩
          obtain ⟨j2, rfl⟩ : ∃ j : Nat, e2 = (j : Int) := ⟨e2.toNat, by omega⟩
          have hj1 : j1 < ws.length := by omega
          have hj2 : j2 < ws.length := by omega
          obtain ⟨z1, hz1⟩ : ∃ z, ws.getD j1 0 = z := ⟨_, rfl⟩
          obtain ⟨z2, hz2⟩ : ∃ z, ws.getD j2 0 = z := ⟨_, rfl⟩
          have v1 : wr.cell? ⟨b1, o1 + j1, none⟩ = some (.int .i64 z1) := Q1.out j1 _ (by rw [← hz1]; simp [hj1])
          have v2 : wr.cell? ⟨b1, o1 + j2, none⟩ = some (.int .i64 z2) := Q1.out j2 _ (by rw [← hz2]; simp [hj2])
          have a2 : ext ws good 1 (k + 1) = if zk < z1 then (k : Int) else j1 := by
            unfold ext
            rw [Hg.out, He1.out, Hzk.out, Int.toNat_natCast, hz1, Int.one_mul, Int.one_mul]
            by_cases h : zk < z1 <;> simp [h] <;> omega
          have a3 : ext ws good (-1) (k + 1) = if z2 < zk then (k : Int) else j2 := by
            unfold ext
            rw [Hg.out, He2.out, Hzk.out, Int.toNat_natCast, hz2]
            by_cases h : z2 < zk
            · have h' : -1 * zk < -1 * z2 := by omega
              simp only [h, h', or_true, and_self, if_true]
            · have h' : ¬ (-1 * zk < -1 * z2) := by omega
              have h'' : ¬ ((j2 : Int) < 0) := by omega
              simp only [h, h', h'', or_self, and_false, if_false]
          have m1 : (j1 : Int) < (ws.length : Int) := by omega
          have m2 : (j2 : Int) < (ws.length : Int) := by omega
          have m3 : (0 : Int) ≤ (j1 : Int) := by omega
          have m4 : (0 : Int) ≤ (j2 : Int) := by omega
          have heq : j1 = j2 → z1 = z2 := fun h => by rw [← hz1, ← hz2, h]
          have A2 := Lib.hid a2
          have A3 := Lib.hid a3
          clear w0 w1 w2 a2 a3 hz1 hz2 en1 en2 eb1 eb2 hneg
          have w0 := R1.cell_ 0
          have w1 := R1.cell_ 1
          have w2 := R1.cell_ 2
          simp at w0 w1 w2
          by_cases hj : j1 = j2
          · subst hj
            obtain rfl := heq rfl
            clear heq v2
            by_cases hA : zk < z1
            · have hB : ¬ z1 < zk := by omega
              have HA := Lib.hid hA
              have HB := Lib.hid hB
              go_wp2
              go_quiet (fail)
              go_wp2
              go_quiet (fail)
              go_wp2
              go_roundw
              case rel =>
                refine ⟨k + 1, by omega, by go_num, below_dn ((below_dn (hBr.setCell (p := ⟨w.heap.size + 1, 0, none⟩) (by simp) _) _).setCell (p := ⟨w.heap.size + 1, 1, none⟩) (by simp) _) _, (((R0.far (p := ⟨w.heap.size + 1, 0, none⟩) (by simp) _).drewN_ _).far (p := ⟨w.heap.size + 1, 1, none⟩) (by simp) _).drewN_ _, ?_⟩
                rw [Ha1.out, A2.out, A3.out, if_pos HA.out, if_neg (Int.not_lt.2 HB.out)]
                exact (((R1.set_ 0 _).drewN_ _).set_ 1 _).drewN_ _
              case measure => simp [intOf]; omega
            · by_cases hB : z1 < zk
              · have HA := Lib.hid hA
                have HB := Lib.hid hB
                go_wp2
                go_quiet (fail)
                go_wp2
                go_quiet (fail)
                go_wp2
                go_roundw
                case rel =>
                  refine ⟨k + 1, by omega, by go_num, (below_dn (hBr.setCell (p := ⟨w.heap.size + 1, 0, none⟩) (by simp) _) _).setCell (p := ⟨w.heap.size + 1, 2, none⟩) (by simp) _, ((R0.far (p := ⟨w.heap.size + 1, 0, none⟩) (by simp) _).drewN_ _).far (p := ⟨w.heap.size + 1, 2, none⟩) (by simp) _, ?_⟩
                  rw [Ha1.out, A2.out, A3.out, if_neg (Int.not_lt.2 HA.out), if_pos HB.out]
                  exact ((R1.set_ 0 _).drewN_ _).set_ 2 _
                case measure => simp [intOf]; omega
              · skip
                have HA := Lib.hid hA
                have HB := Lib.hid hB
                go_wp2
                go_quiet (fail)
                go_wp2
                go_quiet (fail)
                go_wp2
                go_roundw
                case rel =>
                  refine ⟨k + 1, by omega, by go_num, below_dn (hBr.setCell (p := ⟨w.heap.size + 1, 0, none⟩) (by simp) _) _, (R0.far (p := ⟨w.heap.size + 1, 0, none⟩) (by simp) _).drewN_ _, ?_⟩
                  rw [Ha1.out, A2.out, A3.out, if_neg (Int.not_lt.2 HA.out), if_neg (Int.not_lt.2 HB.out)]
                  exact (R1.set_ 0 _).drewN_ _
                case measure => simp [intOf]; omega
          · clear heq
            by_cases hA : zk < z1 <;> by_cases hB : z2 < zk
            · skip
              have HA := Lib.hid hA
              have HB := Lib.hid hB
              go_wp2
              go_quiet (fail)
              go_wp2
              go_quiet (fail)
              go_wp2
              go_roundw
              case rel =>
                refine ⟨k + 1, by omega, by go_num, (below_dn ((below_dn (hBr.setCell (p := ⟨w.heap.size + 1, 0, none⟩) (by simp) _) _).setCell (p := ⟨w.heap.size + 1, 1, none⟩) (by simp) _) _).setCell (p := ⟨w.heap.size + 1, 2, none⟩) (by simp) _, ((((R0.far (p := ⟨w.heap.size + 1, 0, none⟩) (by simp) _).drewN_ _).far (p := ⟨w.heap.size + 1, 1, none⟩) (by simp) _).drewN_ _).far (p := ⟨w.heap.size + 1, 2, none⟩) (by simp) _, ?_⟩
                rw [Ha1.out, A2.out, A3.out, if_pos HA.out, if_pos HB.out]
                exact ((((R1.set_ 0 _).drewN_ _).set_ 1 _).drewN_ _).set_ 2 _
              case measure => simp [intOf]; omega
            · skip
              have HA := Lib.hid hA
              have HB := Lib.hid hB
              go_wp2
              go_quiet (fail)
              go_wp2
              go_quiet (fail)
              go_wp2
              go_roundw
              case rel =>
                refine ⟨k + 1, by omega, by go_num, below_dn ((below_dn (hBr.setCell (p := ⟨w.heap.size + 1, 0, none⟩) (by simp) _) _).setCell (p := ⟨w.heap.size + 1, 1, none⟩) (by simp) _) _, (((R0.far (p := ⟨w.heap.size + 1, 0, none⟩) (by simp) _).drewN_ _).far (p := ⟨w.heap.size + 1, 1, none⟩) (by simp) _).drewN_ _, ?_⟩
                rw [Ha1.out, A2.out, A3.out, if_pos HA.out, if_neg (Int.not_lt.2 HB.out)]
                exact (((R1.set_ 0 _).drewN_ _).set_ 1 _).drewN_ _
              case measure => simp [intOf]; omega
            · skip
              have HA := Lib.hid hA
              have HB := Lib.hid hB
              go_wp2
              go_quiet (fail)
              go_wp2
              go_quiet (fail)
              go_wp2
              go_roundw
              case rel =>
                refine ⟨k + 1, by omega, by go_num, (below_dn (hBr.setCell (p := ⟨w.heap.size + 1, 0, none⟩) (by simp) _) _).setCell (p := ⟨w.heap.size + 1, 2, none⟩) (by simp) _, ((R0.far (p := ⟨w.heap.size + 1, 0, none⟩) (by simp) _).drewN_ _).far (p := ⟨w.heap.size + 1, 2, none⟩) (by simp) _, ?_⟩
                rw [Ha1.out, A2.out, A3.out, if_neg (Int.not_lt.2 HA.out), if_pos HB.out]
                exact ((R1.set_ 0 _).drewN_ _).set_ 2 _
              case measure => simp [intOf]; omega
            · skip
              have HA := Lib.hid hA
              have HB := Lib.hid hB
              go_wp2
              go_quiet (fail)
              go_wp2
              go_quiet (fail)
              go_wp2
              go_roundw
              case rel =>
                refine ⟨k + 1, by omega, by go_num, below_dn (hBr.setCell (p := ⟨w.heap.size + 1, 0, none⟩) (by simp) _) _, (R0.far (p := ⟨w.heap.size + 1, 0, none⟩) (by simp) _).drewN_ _, ?_⟩
                rw [Ha1.out, A2.out, A3.out, if_neg (Int.not_lt.2 HA.out), if_neg (Int.not_lt.2 HB.out)]
                exact (R1.set_ 0 _).drewN_ _
              case measure => simp [intOf]; omega
    · have hk' : k = good.length := by omega
      subst hk'
      have w0 := R1.cell_ 0
      have w1 := R1.cell_ 1
      have w2 := R1.cell_ 2
      simp at w0 w1 w2
      have wf := R0.free
      have r0 := R0.cell_ 0
      have r1 := R0.cell_ 1
      have r2 := R0.cell_ 2
      simp at r0 r1 r2
      go_wp2
      refine bodyPost_ret (v := .agg #[.int .i64 (cntW good good.length), .int .i64 (ext ws good 1 good.length), .int .i64 (ext ws good (-1) good.length)]) (by simp [results, Try.results58, go_sem, *]) rfl ⟨rfl, ?_⟩
      exact ((hBr.setCell (by simp) _).setCell (by simp) _).setCell (by simp) _
theorem look_any (ws : List Int) (good : List Bool) (A1 A2 : Option Addr) (c1 c2 : Nat) (w : World)
    (h1 : Sl w w.heap.size A1 (ws.map (Value.int .i64))) (h2 : Sl w w.heap.size A2 (good.map Value.bool)) (n1 : ws.length ≤ 1000000) (n2 : good.length ≤ 1000000)
    (hw : ∀ z ∈ ws, -4611686018427387904 ≤ z ∧ z ≤ 4611686018427387904) :
    Calls Try.prog 58 #[.slice A1 ws.length c1, .slice A2 good.length c2] w fun e w' =>
      e = .returned (.agg #[.int .i64 (cntW good (mlen ws good)), .int .i64 (ext ws good 1 (mlen ws good)), .int .i64 (ext ws good (-1) (mlen ws good))]) ∧ Below w.heap.size w w' := by
  by_cases h : ws.length ≤ good.length
  · exact look_le ws good A1 A2 c1 c2 w h1 h2 n1 n2 hw h
  · exact look_ge ws good A1 A2 c1 c2 w h1 h2 n1 n2 hw (by omega)
end Go.Proofs.Ytdfojhkpfbnmgaa
namespace Go.Proofs.Ytdfojhkpfbnmgaa
open Go.ChangeShapes Go.WideShapes Go.ChangeAt Go.RowKit
theorem extreme_any (ws : List Int) (good : List Bool) (s : Int) (A1 A2 : Option Addr) (c1 c2 : Nat) (w : World)
    (h1 : Sl w w.heap.size A1 (ws.map (Value.int .i64))) (h2 : Sl w w.heap.size A2 (good.map Value.bool)) (n1 : ws.length ≤ 1000000) (n2 : good.length ≤ 1000000)
    (hw : ∀ z ∈ ws, -4611686018427387904 ≤ s * z ∧ s * z ≤ 4611686018427387904) :
    Calls Try.prog 59 #[.slice A1 ws.length c1, .slice A2 good.length c2, .int .i64 s] w fun e w' =>
      e = .returned (.int .i64 (ext ws good s (mlen ws good))) ∧ Below w.heap.size w w' := by
  have em1 : mlen ws good ≤ ws.length := by unfold mlen; omega
  have em2 : mlen ws good ≤ good.length := by unfold mlen; omega
  have em3 : ws.length ≤ mlen ws good ∨ good.length ≤ mlen ws good := by unfold mlen; omega
  obtain ⟨m, hm⟩ : ∃ m, mlen ws good = m := ⟨_, rfl⟩
  rw [hm] at em1 em2 em3 ⊢
  have HW := Lib.hid hw
  have Em := Lib.hid em3
  clear hm hw em3
  go_enter Try.func59, Try.ntmps59
  go_wp2
  go_loopw [7, 8] (fun a i wr => ∃ k : Nat, k ≤ m ∧ i = .int .i64 k ∧ a = .int .i64 (ext ws good s k) ∧ Below w.heap.size w wr) (fun _ i _ => m - (intOf i).toNat)
  case atStart => exact ⟨0, Nat.zero_le _, rfl, rfl, Below.refl _ _⟩
  case round =>
    obtain ⟨k, hk, rfl, rfl, hBr⟩ := hrel
    by_cases hlt : k < m
    · have hk1 : k < ws.length := by omega
      have hk2 : k < good.length := by omega
      have s1 := (h1.below hBr).at_ (by simpa using (by omega : 0 < ws.length))
      have s2 := (h2.below hBr).at_ (by simpa using (by omega : 0 < good.length))
      obtain ⟨b1, o1, rfl, l1, q1⟩ := s1
      obtain ⟨b2, o2, rfl, l2, q2⟩ := s2
      obtain ⟨g, hg⟩ : ∃ g, good.getD k false = g := ⟨_, rfl⟩
      have cg : wr.cell? ⟨b2, o2 + k, none⟩ = some (.bool g) := q2 k _ (by rw [← hg]; simp [hk2])
      have Q1 := Lib.hid q1
      clear q1 q2
      have i1 : (0 : Int) ≤ (k : Int) := by omega
      have i2 : (k : Int) < (ws.length : Int) := by omega
      have i3 : (k : Int) < (good.length : Int) := by omega
      have Hg := Lib.hid hg
      have eb1 := ext_bd ws good s k
      obtain ⟨e1, he1⟩ : ∃ x, ext ws good s k = x := ⟨_, rfl⟩
      rw [he1] at eb1 ⊢
      have He1 := Lib.hid he1
      clear hg he1
      cases g
      · clear eb1
        have a2 : ext ws good s (k + 1) = e1 := by unfold ext; rw [Hg.out, He1.out]; simp
        have A2 := Lib.hid a2
        clear a2
        go_wp2
        go_quiet (fail)
        go_wp2
        go_roundw
        case rel => exact ⟨k + 1, by omega, by go_num, by rw [A2.out], below_dn hBr _⟩
        case measure => simp [intOf]; omega
      · obtain ⟨zk, hzk⟩ : ∃ z, ws.getD k 0 = z := ⟨_, rfl⟩
        have ck : wr.cell? ⟨b1, o1 + k, none⟩ = some (.int .i64 zk) := Q1.out k _ (by rw [← hzk]; simp [hk1])
        have bk : -4611686018427387904 ≤ s * zk ∧ s * zk ≤ 4611686018427387904 := HW.out zk (by rw [← hzk]; simp [hk1])
        have Hzk := Lib.hid hzk
        clear hzk
        have wk : IntKind.i64.wrap (s * zk) = s * zk := IntWalk.i64_in _ (by omega)
        by_cases hneg : e1 < 0
        · have f1 : e1 = -1 := by omega
          subst f1
          have a2 : ext ws good s (k + 1) = k := by unfold ext; rw [Hg.out, He1.out]; simp
          have A2 := Lib.hid a2
          clear a2 eb1 bk wk hneg
          go_wp2
          go_quiet (fail)
          go_wp2
          go_roundw
          case rel => exact ⟨k + 1, by omega, by go_num, by rw [A2.out], below_dn hBr _⟩
          case measure => simp [intOf]; omega
        · obtain ⟨j1, rfl⟩ : ∃ j : Nat, e1 = (j : Int) := ⟨e1.toNat, by omega⟩
          have hj1 : j1 < ws.length := by omega
          obtain ⟨z1, hz1⟩ : ∃ z, ws.getD j1 0 = z := ⟨_, rfl⟩
          have v1 : wr.cell? ⟨b1, o1 + j1, none⟩ = some (.int .i64 z1) := Q1.out j1 _ (by rw [← hz1]; simp [hj1])
          have b1' : -4611686018427387904 ≤ s * z1 ∧ s * z1 ≤ 4611686018427387904 := HW.out z1 (by rw [← hz1]; simp [hj1])
          have w1 : IntKind.i64.wrap (s * z1) = s * z1 := IntWalk.i64_in _ (by omega)
          have a2 : ext ws good s (k + 1) = if s * zk < s * z1 then (k : Int) else j1 := by
            unfold ext
            rw [Hg.out, He1.out, Hzk.out, Int.toNat_natCast, hz1]
            have h'' : ¬ ((j1 : Int) < 0) := by omega
            by_cases h : s * zk < s * z1
            · simp only [h, or_true, and_self, if_true]
            · simp only [h, h'', or_self, and_false, if_false]
          have m1 : (j1 : Int) < (ws.length : Int) := by omega
          have m3 : (0 : Int) ≤ (j1 : Int) := by omega
          have A2 := Lib.hid a2
          clear a2 hz1 eb1 hneg bk b1'
          by_cases hA : s * zk < s * z1
          · have HA : Hid (ext ws good s (k + 1) = k) := A2.out.trans (if_pos hA)
            have hd : decide (s * zk < s * z1) = true := by simpa using hA
            clear A2 hA
            go_wp2
            go_quiet (fail)
            go_wp2
            go_roundw
            case rel => exact ⟨k + 1, by omega, by go_num, by rw [HA.out], below_dn hBr _⟩
            case measure => simp [intOf]; omega
          · have HA : Hid (ext ws good s (k + 1) = j1) := A2.out.trans (if_neg hA)
            have hd : decide (s * zk < s * z1) = false := by simpa using hA
            clear A2 hA
            go_wp2
            go_quiet (fail)
            go_wp2
            go_roundw
            case rel => exact ⟨k + 1, by omega, by go_num, by rw [HA.out], below_dn hBr _⟩
            case measure => simp [intOf]; omega
    · have hk' : k = m := by omega
      subst hk'
      have hE := Em.out
      rcases hE with hE | hE
      · have t1 : ¬ ((k : Int) < (ws.length : Int)) := by omega
        go_wp2
        go_ret
        exact ⟨rfl, hBr⟩
      · have t1 : ¬ ((k : Int) < (good.length : Int)) := by omega
        go_wp2
        all_goals
          go_ret
          exact ⟨rfl, hBr⟩
end Go.Proofs.Ytdfojhkpfbnmgaa
namespace Go.Proofs.Ytdfojhkpfbnmgaa
open Go.ChangeShapes Go.WideShapes Go.ChangeAt Go.RowKit
def leastI (ws : List Int) (good : List Bool) : Int := ext ws good 1 (mlen ws good)
def mostI (ws : List Int) (good : List Bool) : Int := ext ws good (-1) (mlen ws good)
theorem rLeast_any (ws : List Int) (good : List Bool) (A1 A2 : Option Addr) (c1 c2 : Nat) (w : World)
    (h1 : Sl w w.heap.size A1 (ws.map (Value.int .i64))) (h2 : Sl w w.heap.size A2 (good.map Value.bool)) (n1 : ws.length ≤ 1000000) (n2 : good.length ≤ 1000000)
    (hw : ∀ z ∈ ws, 0 ≤ z ∧ z ≤ 2147483648) :
    Calls Try.prog 40 #[.slice A1 ws.length c1, .slice A2 good.length c2] w fun e w' => e = .returned (.int .i64 (leastI ws good)) ∧ Below w.heap.size w w' := by
  go_enter Try.func40, Try.ntmps40
  go_wp2_with (go_at_call 59; refine (extreme_any ws good (1) A1 A2 c1 c2 _ h1 h2 n1 n2 (fun z hz => by have := hw z hz; omega)).mono ?_; rintro e w1 ⟨rfl, hb1⟩)
  go_ret
  exact ⟨rfl, hb1⟩
theorem rMost_any (ws : List Int) (good : List Bool) (A1 A2 : Option Addr) (c1 c2 : Nat) (w : World)
    (h1 : Sl w w.heap.size A1 (ws.map (Value.int .i64))) (h2 : Sl w w.heap.size A2 (good.map Value.bool)) (n1 : ws.length ≤ 1000000) (n2 : good.length ≤ 1000000)
    (hw : ∀ z ∈ ws, 0 ≤ z ∧ z ≤ 2147483648) :
    Calls Try.prog 41 #[.slice A1 ws.length c1, .slice A2 good.length c2] w fun e w' => e = .returned (.int .i64 (mostI ws good)) ∧ Below w.heap.size w w' := by
  go_enter Try.func41, Try.ntmps41
  go_wp2_with (go_at_call 59; refine (extreme_any ws good (-1) A1 A2 c1 c2 _ h1 h2 n1 n2 (fun z hz => by have := hw z hz; omega)).mono ?_; rintro e w1 ⟨rfl, hb1⟩)
  go_ret
  exact ⟨rfl, hb1⟩
theorem wear_idx {ws : List Int} {good : List Bool} (h : ¬ ext ws good 1 (mlen ws good) < 0) :
    ∃ j1 j2 : Nat, ext ws good 1 (mlen ws good) = (j1 : Int) ∧ ext ws good (-1) (mlen ws good) = (j2 : Int) ∧ j1 < ws.length ∧ j2 < ws.length ∧ spreadI ws good = ws.getD j2 0 - ws.getD j1 0 := by
  have m1 : mlen ws good ≤ ws.length := by unfold mlen; omega
  have e1 := ext_bd ws good 1 (mlen ws good)
  have e2 := ext_bd ws good (-1) (mlen ws good)
  have n1 := ext_neg ws good 1 (mlen ws good)
  have n2 := ext_neg ws good (-1) (mlen ws good)
  have h2 : ¬ ext ws good (-1) (mlen ws good) < 0 := fun h' => h (n1.2 (n2.1 h'))
  refine ⟨(ext ws good 1 (mlen ws good)).toNat, (ext ws good (-1) (mlen ws good)).toNat, by omega, by omega, by omega, by omega, ?_⟩
  unfold spreadI
  rw [if_neg h]
theorem getD_cell {w : World} {b o : Nat} {ws : List Int} {j : Nat} (q : ∀ k v, (ws.map (Value.int .i64))[k]? = some v → w.cell? ⟨b, o + k, none⟩ = some v) (hj : j < ws.length) :
    w.cell? ⟨b, o + j, none⟩ = some (.int .i64 (ws.getD j 0)) := q j _ (by simp [hj])
theorem getD_mem {ws : List Int} {j : Nat} (hj : j < ws.length) : ws.getD j 0 ∈ ws := by simp [hj]
theorem Spread_any (ws : List Int) (good : List Bool) (A1 A2 : Option Addr) (c1 c2 : Nat) (w : World)
    (h1 : Sl w w.heap.size A1 (ws.map (Value.int .i64))) (h2 : Sl w w.heap.size A2 (good.map Value.bool)) (n1 : ws.length ≤ 1000000) (n2 : good.length ≤ 1000000)
    (hw : ∀ z ∈ ws, 0 ≤ z ∧ z ≤ 2147483648) :
    Calls Try.prog 39 #[.slice A1 ws.length c1, .slice A2 good.length c2] w fun e w' => e = .returned (.int .i64 (spreadI ws good)) ∧ Below w.heap.size w w' := by
  by_cases hfew : cntW good (mlen ws good) < 2
  · rw [spread_few hfew]
    have hc : ((cntW good (mlen ws good) : Nat) : Int) < 2 := by omega
    clear hfew
    go_enter Try.func39, Try.ntmps39
    go_wp2_with (go_at_call 58; refine (look_any ws good A1 A2 c1 c2 _ h1 h2 n1 n2 (fun z hz => by have := hw z hz; omega)).mono ?_; rintro e w1 ⟨rfl, hb1⟩)
    go_ret
    exact ⟨rfl, hb1.alloc hb1.size _⟩
  · have hne : ¬ ext ws good 1 (mlen ws good) < 0 := by rw [ext_neg]; omega
    obtain ⟨j1, j2, hj1, hj2, k1, k2, hs⟩ := wear_idx hne
    rw [hs]
    have hc : ¬ ((cntW good (mlen ws good) : Nat) : Int) < 2 := by omega
    have h0 : 0 < ws.length := by omega
    obtain ⟨c, hcc⟩ : ∃ c, ((cntW good (mlen ws good) : Nat) : Int) = c := ⟨_, rfl⟩
    rw [hcc] at hc
    have Hc := Lib.hid hcc
    have J1 := Lib.hid hj1
    have J2 := Lib.hid hj2
    obtain ⟨b1, o1, rfl, l1, q1⟩ := h1.at_ (by simpa using h0)
    obtain ⟨z1, hz1⟩ : ∃ z, ws.getD j1 0 = z := ⟨_, rfl⟩
    obtain ⟨z2, hz2⟩ : ∃ z, ws.getD j2 0 = z := ⟨_, rfl⟩
    have v1 := getD_cell q1 k1
    have v2 := getD_cell q1 k2
    have B1 := hw _ (getD_mem k1)
    have B2 := hw _ (getD_mem k2)
    rw [hz1] at v1 B1 ⊢
    rw [hz2] at v2 B2 ⊢
    have hsub : IntKind.i64.wrap (z2 - z1) = z2 - z1 := IntWalk.i64_in _ (by omega)
    have i1 : (0 : Int) ≤ (j1 : Int) := by omega
    have i2 : (j1 : Int) < (ws.length : Int) := by omega
    have i3 : (0 : Int) ≤ (j2 : Int) := by omega
    have i4 : (j2 : Int) < (ws.length : Int) := by omega
    clear hfew hne hs hcc hj1 hj2 q1 hz1 hz2 k1 k2 B1 B2 h0
    go_enter Try.func39, Try.ntmps39
    go_wp2_with (go_at_call 58; refine (look_any ws good (some ⟨b1, o1, none⟩) A2 c1 c2 _ h1 h2 n1 n2 (fun z hz => by have := hw z hz; omega)).mono ?_; rw [Hc.out, J1.out, J2.out]; rintro e w1 ⟨rfl, hb1⟩; have u1 := (hb1.cell (p := ⟨b1, o1 + j1, none⟩) l1).trans v1; have u2 := (hb1.cell (p := ⟨b1, o1 + j2, none⟩) l1).trans v2; have l2 : b1 < w1.heap.size := by { have := hb1.size; omega })
    go_quiet (fail)
    go_wp2
    go_ret
    exact ⟨rfl, below_dn (hb1.alloc hb1.size _) _⟩
theorem rSpread_any (ws : List Int) (good : List Bool) (A1 A2 : Option Addr) (c1 c2 : Nat) (w : World)
    (h1 : Sl w w.heap.size A1 (ws.map (Value.int .i64))) (h2 : Sl w w.heap.size A2 (good.map Value.bool)) (n1 : ws.length ≤ 1000000) (n2 : good.length ≤ 1000000)
    (hw : ∀ z ∈ ws, 0 ≤ z ∧ z ≤ 2147483648) :
    Calls Try.prog 17 #[.slice A1 ws.length c1, .slice A2 good.length c2] w fun e w' => e = .returned (.int .i64 (spreadI ws good)) ∧ Below w.heap.size w w' := by
  by_cases hne : ext ws good 1 (mlen ws good) < 0
  · have hs : spreadI ws good = 0 := by unfold spreadI; rw [if_pos hne]
    rw [hs]
    have hl : leastI ws good < 0 := hne
    clear hne hs
    go_enter Try.func17, Try.ntmps17
    go_wp2_with (first
      | (go_at_call 40; refine (rLeast_any ws good A1 A2 c1 c2 _ h1 h2 n1 n2 hw).mono ?_; rintro e w1 ⟨rfl, hb1⟩)
      | (go_at_call 41; refine (rMost_any ws good A1 A2 c1 c2 _ ((h1.below hb1).mono hb1.size) ((h2.below hb1).mono hb1.size) n1 n2 hw).mono ?_; rintro e w2 ⟨rfl, hb2⟩))
    go_ret
    exact ⟨rfl, btr hb1 hb1.size hb2⟩
  · obtain ⟨j1, j2, hj1, hj2, k1, k2, hs⟩ := wear_idx hne
    rw [hs]
    have h0 : 0 < ws.length := by omega
    have J1 : Hid (leastI ws good = (j1 : Int)) := hj1
    have J2 : Hid (mostI ws good = (j2 : Int)) := hj2
    obtain ⟨b1, o1, rfl, l1, q1⟩ := h1.at_ (by simpa using h0)
    obtain ⟨z1, hz1⟩ : ∃ z, ws.getD j1 0 = z := ⟨_, rfl⟩
    obtain ⟨z2, hz2⟩ : ∃ z, ws.getD j2 0 = z := ⟨_, rfl⟩
    have v1 := getD_cell q1 k1
    have v2 := getD_cell q1 k2
    have B1 := hw _ (getD_mem k1)
    have B2 := hw _ (getD_mem k2)
    rw [hz1] at v1 B1 ⊢
    rw [hz2] at v2 B2 ⊢
    have hsub : IntKind.i64.wrap (z2 - z1) = z2 - z1 := IntWalk.i64_in _ (by omega)
    have i1 : (0 : Int) ≤ (j1 : Int) := by omega
    have i2 : (j1 : Int) < (ws.length : Int) := by omega
    have i3 : (0 : Int) ≤ (j2 : Int) := by omega
    have i4 : (j2 : Int) < (ws.length : Int) := by omega
    clear hne hs hj1 hj2 q1 hz1 hz2 k1 k2 B1 B2 h0
    go_enter Try.func17, Try.ntmps17
    go_wp2_with (first
      | (go_at_call 40; refine (rLeast_any ws good (some ⟨b1, o1, none⟩) A2 c1 c2 _ h1 h2 n1 n2 hw).mono ?_; rw [J1.out]; rintro e w1 ⟨rfl, hb1⟩)
      | (go_at_call 41; refine (rMost_any ws good (some ⟨b1, o1, none⟩) A2 c1 c2 _ ((h1.below hb1).mono hb1.size) ((h2.below hb1).mono hb1.size) n1 n2 hw).mono ?_; rw [J2.out]; rintro e w2 ⟨rfl, hb2⟩; have u1 := ((hb1.trans (hb2.mono hb1.size)).cell (p := ⟨b1, o1 + j1, none⟩) l1).trans v1; have u2 := ((hb1.trans (hb2.mono hb1.size)).cell (p := ⟨b1, o1 + j2, none⟩) l1).trans v2))
    go_quiet (fail)
    go_wp2
    go_ret
    exact ⟨rfl, below_dn (btr hb1 hb1.size hb2) _⟩
end Go.Proofs.Ytdfojhkpfbnmgaa
namespace Go.Proofs.Ytdfojhkpfbnmgaa
open Go.ChangeShapes Go.WideShapes Go.ChangeAt Go.RowKit
attribute [local go_sem ↓] Go.wp_at_zero Go.wp_at_succ
theorem own_sliceV {w : World} {base : Nat} {e : TypeId} {v : Value} {n : Nat} {vs : List Value} (h : w.ownsRow base e 1 v n vs) : ∃ (A : Option Addr) (c : Nat), v = .slice A n c ∧ vs.length = n ∧ n ≤ c ∧ c ≤ maxLen ∧ Sl w w.heap.size A vs := by
  have hl : vs.length = n := by
    have := h.1
    omega
  rcases h.2 with ⟨hv, h0⟩ | ⟨g, cap, cur, hv, hbg, hh, hnc, hm, hsz, ht⟩
  · subst h0
    exact ⟨none, 0, hv, hl, Nat.le_refl _, by unfold maxLen; omega, Or.inl (List.eq_nil_of_length_eq_zero hl)⟩
  · subst hv
    exact ⟨some ⟨g, 0, none⟩, cap, rfl, hl, hnc, hm, Sl.of_own h⟩
theorem own_kept2 {w w' : World} {base : Nat} {e : TypeId} {n : Nat} {v u : Value} {xs : List Value} (h : w.ownsRow base e 1 v n xs) (hg : w.grownBy w' u.ownBlock) (hd : ∀ g, v.ownBlock = some g → u.ownBlock ≠ some g) : w'.ownsRow base e 1 v n xs := by
  refine h.kept hg ?_
  cases hv : v.ownBlock with
  | none => exact Or.inl rfl
  | some g => exact Or.inr (fun he => hd g hv he.symm)
theorem apart_new {w : World} {base : Nat} {e : TypeId} {n : Nat} {v u' : Value} {xs : List Value} (h : w.ownsRow base e 1 v n xs) (hu : u'.ownBlock = none ∨ u'.ownBlock = some w.heap.size) : ∀ g, v.ownBlock = some g → u'.ownBlock ≠ some g := by
  intro g hg he
  have := (h.lt g hg).2
  rcases hu with hu | hu
  · rw [hu] at he
    cases he
  · rw [hu] at he
    cases he
    omega
theorem apart_sym {v u : Value} (h : ∀ g, v.ownBlock = some g → u.ownBlock ≠ some g) : ∀ g, u.ownBlock = some g → v.ownBlock ≠ some g := fun g hu hv => h g hv hu
theorem apart_app {w : World} {base : Nat} {e : TypeId} {n : Nat} {v u u' : Value} {xs : List Value} (h : w.ownsRow base e 1 v n xs) (hd : ∀ g, v.ownBlock = some g → u.ownBlock ≠ some g) (hu : u'.ownBlock = u.ownBlock ∨ u'.ownBlock = some w.heap.size) :
    ∀ g, v.ownBlock = some g → u'.ownBlock ≠ some g := by
  rcases hu with hu | hu
  · rw [hu]
    exact hd
  · exact apart_new h (Or.inr hu)
theorem own_belowA {w w' : World} {base : Nat} {e : TypeId} {size n : Nat} {v : Value} {xs : List Value} (h : w.ownsRow base e size v n xs) (hb : Below w.heap.size w w') : w'.ownsRow base e size v n xs :=
  h.kept (row := none) ⟨hb.os, hb.tape, hb.output, hb.size, fun k hk _ => hb.block k hk⟩ (by cases v.ownBlock <;> simp)
theorem infoInt : (Try.prog.info? 3).map (fun i => (i.zero, i.size, i.bytes)) = some (some (.int .i64 0), 1, 8) := by kernel_rfl
theorem infoBoo : (Try.prog.info? 4).map (fun i => (i.zero, i.size, i.bytes)) = some (some (.bool false), 1, 1) := by kernel_rfl
@[go_sem] theorem field_geo0 (a b c d e : Int) (w : World) : (Instr.field 23 (.agg #[.int .i64 a, .int .i64 b, .int .i64 c, .int .i64 d, .int .i64 e]) 0).run Try.prog w = .ok (.int .i64 a) w := by kernel_rfl
@[go_sem] theorem field_geo3 (a b c d e : Int) (w : World) : (Instr.field 23 (.agg #[.int .i64 a, .int .i64 b, .int .i64 c, .int .i64 d, .int .i64 e]) 3).run Try.prog w = .ok (.int .i64 d) w := by kernel_rfl
def wsL (s : ChS) (n : Nat) : List Int := (List.range n).map fun b : Nat => s.k (b : Int) 1
def gsL (fs : List Flt) (a : Int) (s : ChS) (n : Nat) : List Bool := (List.range n).map fun b : Nat => !badB fs (b : Int) && !failedB a fs s (b : Int)
theorem wsL_succ (s : ChS) (n : Nat) : wsL s (n + 1) = wsL s n ++ [s.k (n : Int) 1] := by simp [wsL, List.range_succ]
theorem gsL_succ (fs : List Flt) (a : Int) (s : ChS) (n : Nat) : gsL fs a s (n + 1) = gsL fs a s n ++ [!badB fs (n : Int) && !failedB a fs s (n : Int)] := by simp [gsL, List.range_succ]
theorem wsL_len (s : ChS) (n : Nat) : (wsL s n).length = n := by simp [wsL]
theorem gsL_len (fs : List Flt) (a : Int) (s : ChS) (n : Nat) : (gsL fs a s n).length = n := by simp [gsL]
theorem wear_k (m gx gb : Nat) (Af : Option Addr) (nf cf : Nat) (a b c d e : Int) (fs : List Flt) (k : Nat) (z : Int) (w : World) (s : ChS) (hC : ChipW w m gx gb Af nf cf a b c d e fs s) (hk : (k : Int) < a) (hz : Hid (s.k (k : Int) 1 = z)) : Calls Try.prog 11 #[.pointer (some ⟨m, 0, none⟩), .int .i64 (k : Int)] w fun e' w' => e' = .returned (.int .i64 z) ∧ w = w' := by
  have := wear_any m gx gb Af nf cf a b c d e fs (k : Int) w s hC
  rwa [show s.ask a (k : Int) 1 = z by unfold ChS.ask; rw [inB_yes (by omega) hk]; exact hz.out] at this
structure Wr (w0 wr : World) (fs : List Flt) (a : Int) (s : ChS) (k1 k2 : Nat) (v1 v2 : Value) : Prop where
  b : Below w0.heap.size w0 wr
  r1 : wr.ownsRow w0.heap.size 3 1 v1 k1 ((wsL s k1).map (Value.int .i64))
  r2 : wr.ownsRow w0.heap.size 4 1 v2 k2 ((gsL fs a s k2).map Value.bool)
  ap : (∀ g, Value.ownBlock v1 = some g → Value.ownBlock v2 ≠ some g)
theorem Wr.then {w0 wr : World} {fs : List Flt} {a : Int} {s : ChS} {k1 k2 : Nat} {v1 v2 : Value} {w' : World} (h : Wr w0 wr fs a s k1 k2 v1 v2) (hb : Below wr.heap.size wr w') : Wr w0 w' fs a s k1 k2 v1 v2 :=
  ⟨btr h.b h.b.size hb, own_belowA h.r1 hb, own_belowA h.r2 hb, h.ap⟩
theorem Wr.push1 {w0 wr : World} {fs : List Flt} {a : Int} {s : ChS} {k1 k2 : Nat} {v1 v2 : Value} {w1 : World} {o : Obj} {u : Value} {z : Int} (h : Wr w0 wr fs a s k1 k2 v1 v2) (hz : s.k (k1 : Int) 1 = z) (ho : w1.ownsRow w0.heap.size 3 1 u (k1 + 1) ((wsL s k1).map (Value.int .i64) ++ [.int .i64 z])) (hg : (wr.alloc o).grownBy w1 v1.ownBlock) (hv : u.ownBlock = v1.ownBlock ∨ u.ownBlock = some (wr.alloc o).heap.size) : Wr w0 w1 fs a s (k1 + 1) k2 u v2 := by
  have hA := h.then ((Below.refl _ _).alloc (Nat.le_refl _) o)
  refine ⟨hA.b.grown hg hA.b.size (fun g hg' => (hA.r1.lt g hg').1), ?_, own_kept2 hA.r2 hg (apart_sym hA.ap), apart_sym (apart_app hA.r2 (apart_sym hA.ap) hv)⟩
  rw [wsL_succ, List.map_append, hz]
  exact ho
theorem Wr.push2 {w0 wr : World} {fs : List Flt} {a : Int} {s : ChS} {k1 k2 : Nat} {v1 v2 : Value} {w1 : World} {o : Obj} {u : Value} {z : Bool} (h : Wr w0 wr fs a s k1 k2 v1 v2) (hz : (!badB fs (k2 : Int) && !failedB a fs s (k2 : Int)) = z) (ho : w1.ownsRow w0.heap.size 4 1 u (k2 + 1) ((gsL fs a s k2).map Value.bool ++ [.bool z])) (hg : (wr.alloc o).grownBy w1 v2.ownBlock) (hv : u.ownBlock = v2.ownBlock ∨ u.ownBlock = some (wr.alloc o).heap.size) : Wr w0 w1 fs a s k1 (k2 + 1) v1 u := by
  have hA := h.then ((Below.refl _ _).alloc (Nat.le_refl _) o)
  refine ⟨hA.b.grown hg hA.b.size (fun g hg' => (hA.r2.lt g hg').1), own_kept2 hA.r1 hg hA.ap, ?_, apart_app hA.r1 hA.ap hv⟩
  rw [gsL_succ, List.map_append, hz]
  exact ho
end Go.Proofs.Ytdfojhkpfbnmgaa
namespace Go.Proofs.Ytdfojhkpfbnmgaa
open Go.ChangeShapes Go.WideShapes Go.ChangeAt Go.RowKit
attribute [local go_sem ↓] Go.wp_at_zero Go.wp_at_succ
theorem wears_any (m gx gb : Nat) (Af : Option Addr) (nf cf : Nat) (a b c d e : Int) (fs : List Flt) (NA : Nat) (w : World) (s : ChS) (hC : ChipW w m gx gb Af nf cf a b c d e fs s) (hNA : (NA : Int) = a) : Calls Try.prog 10 #[.pointer (some ⟨m, 0, none⟩)] w fun e' w' => (∃ v1 v2, e' = .returned (.tuple #[v1, v2]) ∧ Wr w w' fs a s NA NA v1 v2) := by
  obtain ⟨q1, q2, q3, q4, q5, q6, -⟩ := may_bd (planMay_bd hC.may).1
  have HLA := Lib.hid hNA
  have hA20 : NA ≤ 20 := by omega
  clear hNA q3 q4 q5 q6
  go_enter Try.func10, Try.ntmps10
  go_wp2_with (go_at_call 36; go_loud (((with_reducible refine (geometry_0 m gx gb Af nf cf a b c d e fs _ s hC).mono ?_); rintro e' wG ⟨rfl, hbG⟩)))
  go_loopw [4, 5, 10] (fun s4 s5 s10 wr => ∃ (k : Nat) (v1 v2 : Value), k ≤ NA ∧ s10 = .int .i64 (k : Int) ∧ s4 = v1 ∧ s5 = v2 ∧ Wr w wr fs a s k k v1 v2) (fun _ _ s10 _ => NA - (intOf s10).toNat)
  case atStart => exact ⟨0, _, _, Nat.zero_le _, rfl, rfl, rfl, hbG, World.ownsRow_nil _ _ _ _, World.ownsRow_nil _ _ _ _, fun g hg => by simp [Value.ownBlock] at hg⟩
  case round =>
    obtain ⟨k, v1, v2, hk, rfl, e4, e5, hE⟩ := hrel
    have e4' := e4.symm
    have e5' := e5.symm
    subst e4' e5'
    have k0 : (0 : Int) ≤ (k : Int) := by omega
    by_cases hka : (k : Int) < a
    · have hkA : k < NA := by have := HLA.out; omega
      obtain ⟨z, hz⟩ : ∃ z, s.k (k : Int) 1 = z := ⟨_, rfl⟩
      have HZ := Lib.hid hz
      clear hz
      obtain ⟨A1, c1, hv1, -, -, -, -⟩ := own_sliceV hE.r1
      obtain ⟨A2, c2, hv2, -, -, -, -⟩ := own_sliceV hE.r2
      subst hv1 hv2
      rcases (by cases hq : badB fs (k : Int) <;> simp : badB fs (k : Int) = true ∨ badB fs (k : Int) = false) with hb | hb
      · have HBD := Lib.hid hb
        clear hb
        have HGD : Hid ((!badB fs (k : Int) && !failedB a fs s (k : Int)) = false) := Lib.hid (by rw [HBD.out]; rfl)
        go_wp2_with (first | (go_at_call 11; go_loud (((with_reducible refine (wear_k m gx gb Af nf cf a b c d e fs k z _ s (hC.below hE.b) hka HZ).mono ?_); rintro e' wN ⟨rfl, rfl⟩))) | (at_builtin; go_loud (obtain ⟨ti0, hi, hz0, hz1, hz2⟩ := info_parts infoInt; refine wpList_app _ rfl (.tmp 13) (.tmp 17) _ rfl w.heap.size 3 ti0 _ 1 8 Try.underlying32 hi hz0 hz1 hz2 rfl (by decide) _ k ((wsL s k).map (Value.int .i64)) rfl (hE.r1.alloc _) _ 1 _ [.int .i64 z] rfl (Rd.one (by simp)) (by simp [Value.oneCell']) (by unfold maxLen; omega) (by omega) (by have := hE.b.size; simp; omega) ?_; intro u w1 ho hg hv; replace hE := hE.push1 HZ.out ho hg hv; clear hi hz0 hz1 hz2 ho hg hv)) | (go_at_call 12; go_loud (((with_reducible refine (bad_v0 m gx gb Af nf cf a b c d e fs _ true _ s (hC.below hE.b) HBD).mono ?_); rintro e' wB ⟨rfl, hbB⟩; replace hE := hE.then hbB; clear hbB))) | (at_builtin; go_loud (obtain ⟨ti0, hi, hz0, hz1, hz2⟩ := info_parts infoBoo; refine wpList_app _ rfl (.tmp 19) (.tmp 30) _ rfl w.heap.size 4 ti0 _ 1 1 Try.underlying33 hi hz0 hz1 hz2 rfl (by decide) _ k ((gsL fs a s k).map Value.bool) rfl (hE.r2.alloc _) _ 1 _ [.bool false] rfl (Rd.one (by simp)) (by simp [Value.oneCell']) (by unfold maxLen; omega) (by omega) (by have := hE.b.size; simp; omega) ?_; intro u w1 ho hg hv; replace hE := hE.push2 HGD.out ho hg hv; clear hi hz0 hz1 hz2 ho hg hv)))
        go_roundw
        case rel => exact ⟨k + 1, _, _, by omega, by go_num, rfl, rfl, hE⟩
        case measure => simp [intOf]; omega
      · have HBD := Lib.hid hb
        clear hb
        rcases (by cases hq : failedB a fs s (k : Int) <;> simp : failedB a fs s (k : Int) = true ∨ failedB a fs s (k : Int) = false) with hf | hf
        · have HFD := Lib.hid hf
          clear hf
          have HGD : Hid ((!badB fs (k : Int) && !failedB a fs s (k : Int)) = false) := Lib.hid (by rw [HBD.out, HFD.out]; rfl)
          go_wp2_with (first | (go_at_call 11; go_loud (((with_reducible refine (wear_k m gx gb Af nf cf a b c d e fs k z _ s (hC.below hE.b) hka HZ).mono ?_); rintro e' wN ⟨rfl, rfl⟩))) | (at_builtin; go_loud (obtain ⟨ti0, hi, hz0, hz1, hz2⟩ := info_parts infoInt; refine wpList_app _ rfl (.tmp 13) (.tmp 17) _ rfl w.heap.size 3 ti0 _ 1 8 Try.underlying32 hi hz0 hz1 hz2 rfl (by decide) _ k ((wsL s k).map (Value.int .i64)) rfl (hE.r1.alloc _) _ 1 _ [.int .i64 z] rfl (Rd.one (by simp)) (by simp [Value.oneCell']) (by unfold maxLen; omega) (by omega) (by have := hE.b.size; simp; omega) ?_; intro u w1 ho hg hv; replace hE := hE.push1 HZ.out ho hg hv; clear hi hz0 hz1 hz2 ho hg hv)) | (go_at_call 12; go_loud (((with_reducible refine (bad_v0 m gx gb Af nf cf a b c d e fs _ false _ s (hC.below hE.b) HBD).mono ?_); rintro e' wB ⟨rfl, hbB⟩; replace hE := hE.then hbB; clear hbB))) | (go_at_call 13; go_loud (((with_reducible refine (failed_b m gx gb Af nf cf a b c d e fs _ true _ s (hC.below hE.b) HFD).mono ?_); rintro e' wF ⟨rfl, hbF⟩; replace hE := hE.then hbF; clear hbF))) | (at_builtin; go_loud (obtain ⟨ti0, hi, hz0, hz1, hz2⟩ := info_parts infoBoo; refine wpList_app _ rfl (.tmp 19) (.tmp 30) _ rfl w.heap.size 4 ti0 _ 1 1 Try.underlying33 hi hz0 hz1 hz2 rfl (by decide) _ k ((gsL fs a s k).map Value.bool) rfl (hE.r2.alloc _) _ 1 _ [.bool false] rfl (Rd.one (by simp)) (by simp [Value.oneCell']) (by unfold maxLen; omega) (by omega) (by have := hE.b.size; simp; omega) ?_; intro u w1 ho hg hv; replace hE := hE.push2 HGD.out ho hg hv; clear hi hz0 hz1 hz2 ho hg hv)))
          go_roundw
          case rel => exact ⟨k + 1, _, _, by omega, by go_num, rfl, rfl, hE⟩
          case measure => simp [intOf]; omega
        · have HFD := Lib.hid hf
          clear hf
          have HGD : Hid ((!badB fs (k : Int) && !failedB a fs s (k : Int)) = true) := Lib.hid (by rw [HBD.out, HFD.out]; rfl)
          go_wp2_with (first | (go_at_call 11; go_loud (((with_reducible refine (wear_k m gx gb Af nf cf a b c d e fs k z _ s (hC.below hE.b) hka HZ).mono ?_); rintro e' wN ⟨rfl, rfl⟩))) | (at_builtin; go_loud (obtain ⟨ti0, hi, hz0, hz1, hz2⟩ := info_parts infoInt; refine wpList_app _ rfl (.tmp 13) (.tmp 17) _ rfl w.heap.size 3 ti0 _ 1 8 Try.underlying32 hi hz0 hz1 hz2 rfl (by decide) _ k ((wsL s k).map (Value.int .i64)) rfl (hE.r1.alloc _) _ 1 _ [.int .i64 z] rfl (Rd.one (by simp)) (by simp [Value.oneCell']) (by unfold maxLen; omega) (by omega) (by have := hE.b.size; simp; omega) ?_; intro u w1 ho hg hv; replace hE := hE.push1 HZ.out ho hg hv; clear hi hz0 hz1 hz2 ho hg hv)) | (go_at_call 12; go_loud (((with_reducible refine (bad_v0 m gx gb Af nf cf a b c d e fs _ false _ s (hC.below hE.b) HBD).mono ?_); rintro e' wB ⟨rfl, hbB⟩; replace hE := hE.then hbB; clear hbB))) | (go_at_call 13; go_loud (((with_reducible refine (failed_b m gx gb Af nf cf a b c d e fs _ false _ s (hC.below hE.b) HFD).mono ?_); rintro e' wF ⟨rfl, hbF⟩; replace hE := hE.then hbF; clear hbF))) | (at_builtin; go_loud (obtain ⟨ti0, hi, hz0, hz1, hz2⟩ := info_parts infoBoo; refine wpList_app _ rfl (.tmp 19) (.tmp 30) _ rfl w.heap.size 4 ti0 _ 1 1 Try.underlying33 hi hz0 hz1 hz2 rfl (by decide) _ k ((gsL fs a s k).map Value.bool) rfl (hE.r2.alloc _) _ 1 _ [.bool true] rfl (Rd.one (by simp)) (by simp [Value.oneCell']) (by unfold maxLen; omega) (by omega) (by have := hE.b.size; simp; omega) ?_; intro u w1 ho hg hv; replace hE := hE.push2 HGD.out ho hg hv; clear hi hz0 hz1 hz2 ho hg hv)))
          go_roundw
          case rel => exact ⟨k + 1, _, _, by omega, by go_num, rfl, rfl, hE⟩
          case measure => simp [intOf]; omega
    · have hkA : k = NA := by have := HLA.out; omega
      go_wp2_with fail
      go_ret2
      subst hkA
      exact ⟨_, _, rfl, hE⟩
end Go.Proofs.Ytdfojhkpfbnmgaa
namespace Go.Proofs.Ytdfojhkpfbnmgaa
open Go.ChangeShapes Go.WideShapes Go.ChangeAt Go.RowKit
attribute [local go_sem ↓] Go.wp_at_zero Go.wp_at_succ
def RIn : Value → Option (DataW Int × List MemPlace)
  | .int .i64 n => some (.held n, [])
  | _ => none
theorem RIn_mk (x : Int) : RIn (.int .i64 x) = some (.held x, []) := rfl
theorem RIn_inv {v : Value} {x : Int} {ps : List MemPlace} (h : RIn v = some (.held x, ps)) : v = .int .i64 x := by
  unfold RIn at h
  split at h
  · injection h with h
    injection h with h1 _
    injection h1 with h1
    subst h1
    rfl
  · cases h
def OwnI (w : World) (b n : Nat) (M : Int → Int) : Prop :=
  ∃ D : DataW Int, w.ownsMap Try.prog 3 RIn b n D ∧ ∀ p, D.atKey (.int .i64 p) (.held 0) = .held (M p)
theorem OwnI.made (w : World) : OwnI (w.alloc (.map #[] 0)) w.heap.size 0 (fun _ => 0) :=
  ⟨.map [], World.ownsMap_made w _ _ _, fun p => rfl⟩
theorem OwnI.lt {w : World} {b n : Nat} {M : Int → Int} (h : OwnI w b n M) : b < w.heap.size := by
  obtain ⟨D, h, _⟩ := h
  exact h.lt
theorem OwnI.below {w w' : World} {b n : Nat} {M : Int → Int} (h : OwnI w b n M) (hb : Below w.heap.size w w') : OwnI w' b n M := by
  obtain ⟨D, h, k⟩ := h
  exact ⟨D, h.kept (row := none) ⟨hb.os, hb.tape, hb.output, hb.size, fun k hk _ => hb.block k hk⟩ (by simp), k⟩
theorem OwnI.alloc_ {w : World} {b n : Nat} {M : Int → Int} (h : OwnI w b n M) (o : Obj) : OwnI (w.alloc o) b n M := h.below ((Below.refl _ _).alloc (Nat.le_refl _) _)
theorem lawI : Maps.Keyed Try.prog 3 := Maps.int_keyed Try.underlying3
theorem zeroI (w : World) : (zeroValue 3).run Try.prog w = .ok (.int .i64 0) w := by kernel_rfl
theorem wfI {p : Int} (h : i64in p) : (Lit.int .i64 p).wf = true := by
  have e1 : IntKind.i64.min = -9223372036854775808 := rfl
  have e2 : IntKind.i64.max = 9223372036854775807 := rfl
  unfold i64in at h
  simp only [Lit.wf, Bool.and_eq_true, decide_eq_true_eq, e1, e2]
  exact h
section
variable (w : World) {ops : Array Oper} {rest : List Oper} {o : Oper} {a : Act} {Q : Exit → Act → World → Prop}
theorem wpList_lookI (hg : o.guard = none) (m x : Operand) (hop : o.op = Op.lookup 103 m x false) (b n : Nat) (M : Int → Int) (hm : a.eval m = .map (some b)) (hown : OwnI w b n M) (p : Int) (hx : a.eval x = .int .i64 p) (hp : i64in p) (y : Int) (hy : M p = y)
    (hK : wpList Try.prog ops Q rest (a.put o.dst (.int .i64 y)) w) : wpList Try.prog ops Q (o :: rest) a w := by
  obtain ⟨D, h, k⟩ := hown
  refine wpList_plain hg fun K' hK' => ?_
  obtain ⟨v, ps, hrun, hv⟩ := h.lookup lawI Try.underlying103 (zeroI w) (RIn_mk 0) (Maps.keyOf_int_mk Try.underlying3 (wfI hp))
  rw [k p, hy] at hv
  obtain rfl := RIn_inv hv
  unfold Oper.wp
  simp [execOp, hop, hm, hx, hrun, Result.andThen]
  exact hK' _ _ hK
theorem wpList_putI (hg : o.guard = none) (m x v : Operand) (hop : o.op = Op.mapUpdate 103 m x v) (b n : Nat) (M : Int → Int) (hm : a.eval m = .map (some b)) (hown : OwnI w b n M) (hn : n ≤ 1000000) (p : Int) (hx : a.eval x = .int .i64 p) (hp : i64in p) (y : Int) (hv : a.eval v = .int .i64 y)
    (hK : ∀ w', OwnI w' b (n + 1) (fun q => if q = p then y else M q) → w.grownBy w' (some b) → wpList Try.prog ops Q rest (a.put o.dst undef) w') : wpList Try.prog ops Q (o :: rest) a w := by
  obtain ⟨D, h, k⟩ := hown
  refine wpList_plain hg fun K' hK' => ?_
  obtain ⟨w', hrun, r1, r2⟩ := h.update lawI Try.underlying103 (by unfold maxLen; omega) (Maps.keyOf_int_mk Try.underlying3 (wfI hp)) (RIn_mk y)
  unfold Oper.wp
  simp [execOp, hop, hm, hx, hv, hrun, Result.andThen]
  refine hK' _ _ (hK w' ⟨_, r1, fun q => ?_⟩ r2)
  show _ = DataW.held (if q = p then y else M q)
  by_cases hq : q = p
  · subst hq
    rw [if_pos rfl]
    exact Maps.atKey_put_same h.isMap (by simp [WideAt.IsKeyLit]) _ _
  · rw [if_neg hq]
    have hne : (Lit.int .i64 q) ≠ Lit.int .i64 p := fun e => hq (by injection e)
    exact (Maps.atKey_put_other hne _ _).trans (k q)
end
def dupB : List Int → Bool
  | [] => false
  | x :: l => l.contains x || dupB l
def seqs (fs : List Fd) : List Int := fs.map (·.s)
def seenI (l : List Int) (q : Int) : Int := if l.contains q then 1 else 0
theorem dup_snoc (l : List Int) (x : Int) : dupB (l ++ [x]) = (dupB l || l.contains x) := by
  induction l with
  | nil => rfl
  | cons y l ih =>
    show (((l ++ [x]).contains y) || dupB (l ++ [x])) = ((l.contains y || dupB l) || (y :: l).contains x)
    have e3 : (y :: l).contains x = (x == y || l.contains x) := List.contains_cons ..
    have e : [x].contains y = (y == x) := by rw [List.contains_cons]; simp
    have e2 : (x == y) = (y == x) := by
      by_cases h : x = y
      · rw [h]
      · rw [beq_false_of_ne h, beq_false_of_ne (Ne.symm h)]
    rw [ih, List.contains_append, e3, e, e2]
    cases l.contains y <;> cases dupB l <;> cases l.contains x <;> cases (y == x) <;> rfl
theorem dup_app (l m : List Int) (h : dupB l = true) : dupB (l ++ m) = true := by
  induction l with
  | nil => cases h
  | cons y l ih =>
    have h' : (l.contains y || dupB l) = true := h
    show (((l ++ m).contains y) || dupB (l ++ m)) = true
    rw [List.contains_append]
    cases h1 : l.contains y
    · rw [h1] at h'
      rw [ih (by simpa using h')]
      simp
    · simp
theorem seqs_take {fs : List Fd} {k : Nat} {x : Fd} (h : fs[k]? = some x) : seqs (fs.take (k + 1)) = seqs (fs.take k) ++ [x.s] := by
  unfold seqs
  rw [List.take_add_one, h, List.map_append]
  rfl
theorem dup_take {fs : List Fd} {k : Nat} (h : dupB (seqs (fs.take k)) = true) : dupB (seqs fs) = true := by
  have e : seqs fs = seqs (fs.take k) ++ seqs (fs.drop k) := by unfold seqs; rw [← List.map_append, List.take_append_drop]
  rw [e]
  exact dup_app _ _ h
theorem twice_any (fs : List Fd) (A : Option Addr) (n c : Nat) (w : World) (hn : fs.length = n) (h : SlFd w w.heap.size A fs) (n1 : n ≤ 1000) (hok : ∀ x ∈ fs, i64in x.s) (T : Bool) (hT : Hid (dupB (seqs fs) = T)) :
    Calls Try.prog 45 #[.slice A n c] w fun e' w' => e' = .returned (.bool T) ∧ Below w.heap.size w w' := by
  have HN := Lib.hid hn
  clear hn
  have hmm := @run_makeMap Try.prog
  go_enter Try.func45, Try.ntmps45
  go_wp2
  clear hmm
  have HM0 := OwnI.made w
  have HB0 : Below w.heap.size w (w.alloc (.map #[] 0)) := (Below.refl _ _).alloc (Nat.le_refl _) _
  go_loopw [9] (fun s9 wr => ∃ (k : Nat), k ≤ n ∧ s9 = .int .i64 (k : Int) ∧ OwnI wr w.heap.size k (seenI (seqs (fs.take k))) ∧ Hid (dupB (seqs (fs.take k)) = false) ∧ Below w.heap.size w wr) (fun s9 _ => n - (intOf s9).toNat)
  case atStart => exact ⟨0, Nat.zero_le _, rfl, HM0, Lib.hid rfl, HB0⟩
  case round =>
    clear HM0 HB0
    obtain ⟨k, hk, rfl, hO, HD, hB⟩ := hrel
    have hgl := hO.lt
    by_cases hlt : k < n
    · obtain ⟨b1, o1, rfl, l1, q1⟩ := (h.below hB).at_ (by have := HN.out; omega)
      obtain ⟨x, hx⟩ : ∃ x, fs[k]? = some x := ⟨_, List.getElem?_eq_getElem (by have := HN.out; omega)⟩
      obtain ⟨x0, x1, x2, x3, x4, x5⟩ := q1 k x hx
      have hsz := hB.size
      have l1' : b1 < wr.heap.size := by omega
      have i0 : (0 : Int) ≤ (k : Int) := by omega
      have i1 : (k : Int) < (n : Int) := by omega
      have hp : i64in x.s := hok x (List.mem_of_getElem? hx)
      have hst := seqs_take hx
      clear q1
      rcases (by cases hq : (seqs (fs.take k)).contains x.s <;> simp : (seqs (fs.take k)).contains x.s = true ∨ (seqs (fs.take k)).contains x.s = false) with hc | hc
      · have HQ : Hid (seenI (seqs (fs.take k)) x.s = 1) := Lib.hid (by unfold seenI; rw [hc]; rfl)
        have HR : Hid (T = true) := Lib.hid (by
          rw [← hT.out]
          refine dup_take (k := k + 1) ?_
          rw [hst, dup_snoc, hc]
          simp)
        clear hst hc hx
        go_wp2_with (first | (at_lookup; go_loud (refine wpList_lookI _ rfl (.tmp 13) (.tmp 16) rfl w.heap.size k _ rfl (hO.alloc_ (.cells #[.int .i64 x.b, .int .i64 x.g, .int .i64 x.k, .int .i64 x.p, .int .i64 x.s, .int .i64 x.e] 101)) x.s rfl hp 1 HQ.out ?_)) | (at_mapUpdate; go_loud (refine wpList_putI _ rfl _ _ _ rfl w.heap.size k _ rfl (hO.alloc_ (.cells #[.int .i64 x.b, .int .i64 x.g, .int .i64 x.k, .int .i64 x.p, .int .i64 x.s, .int .i64 x.e] 101)) (by omega) x.s rfl hp 2 rfl ?_; intro w4 ho4 hg4; have hBk : Blk w4 wr.heap.size 101 #[.int .i64 x.b, .int .i64 x.g, .int .i64 x.k, .int .i64 x.p, .int .i64 x.s, .int .i64 x.e] := (hg4.block wr.heap.size (by simp) (fun e => by have := Option.some.inj e; omega)).trans (heap_alloc_new wr _); obtain ⟨f0, f1, f2, f3, f4, f5⟩ := cells6 hBk; have f9 := hBk.lt)) | (at_lookup; go_loud (refine wpList_lookI _ rfl (.tmp 19) (.tmp 22) rfl w.heap.size (k + 1) _ rfl ho4 x.s rfl hp 2 (if_pos rfl) ?_)))
        go_ret
        obtain rfl := HR.out
        exact ⟨rfl, ((hB.alloc hsz (.cells #[.int .i64 x.b, .int .i64 x.g, .int .i64 x.k, .int .i64 x.p, .int .i64 x.s, .int .i64 x.e] 101)).grown hg4 (by simp; omega) (fun j hj => by have := Option.some.inj hj; omega))⟩
      · have HQ : Hid (seenI (seqs (fs.take k)) x.s = 0) := Lib.hid (by unfold seenI; rw [hc]; rfl)
        have HD2 : Hid (dupB (seqs (fs.take (k + 1))) = false) := Lib.hid (by rw [hst, dup_snoc, HD.out, hc]; rfl)
        have HE : Hid ((fun q => if q = x.s then 1 else seenI (seqs (fs.take k)) q) = seenI (seqs (fs.take (k + 1)))) := Lib.hid (by
          funext q
          unfold seenI
          rw [hst, List.contains_append]
          by_cases hq : q = x.s
          · simp [hq]
          · have e : [x.s].contains q = false := by simp [List.contains_cons, hq]
            rw [if_neg hq, e, Bool.or_false])
        clear hst hc hx
        go_wp2_with (first | (at_lookup; go_loud (refine wpList_lookI _ rfl (.tmp 13) (.tmp 16) rfl w.heap.size k _ rfl (hO.alloc_ (.cells #[.int .i64 x.b, .int .i64 x.g, .int .i64 x.k, .int .i64 x.p, .int .i64 x.s, .int .i64 x.e] 101)) x.s rfl hp 0 HQ.out ?_)) | (at_mapUpdate; go_loud (refine wpList_putI _ rfl _ _ _ rfl w.heap.size k _ rfl (hO.alloc_ (.cells #[.int .i64 x.b, .int .i64 x.g, .int .i64 x.k, .int .i64 x.p, .int .i64 x.s, .int .i64 x.e] 101)) (by omega) x.s rfl hp 1 rfl ?_; intro w4 ho4 hg4; have hBk : Blk w4 wr.heap.size 101 #[.int .i64 x.b, .int .i64 x.g, .int .i64 x.k, .int .i64 x.p, .int .i64 x.s, .int .i64 x.e] := (hg4.block wr.heap.size (by simp) (fun e => by have := Option.some.inj e; omega)).trans (heap_alloc_new wr _); obtain ⟨f0, f1, f2, f3, f4, f5⟩ := cells6 hBk; have f9 := hBk.lt)) | (at_lookup; go_loud (refine wpList_lookI _ rfl (.tmp 19) (.tmp 22) rfl w.heap.size (k + 1) _ rfl ho4 x.s rfl hp 1 (if_pos rfl) ?_)))
        rw [HE.out] at ho4
        go_roundw
        case rel => exact ⟨k + 1, by omega, by go_num, ho4, HD2, (hB.alloc hsz (.cells #[.int .i64 x.b, .int .i64 x.g, .int .i64 x.k, .int .i64 x.p, .int .i64 x.s, .int .i64 x.e] 101)).grown hg4 (by simp; omega) (fun j hj => by have := Option.some.inj hj; omega)⟩
        case measure => simp [intOf]; omega
    · have hkn : k = n := by omega
      have HR : Hid (T = false) := Lib.hid (by
        rw [← hT.out]
        have := HD.out
        rwa [hkn, ← HN.out, List.take_length] at this)
      go_wp2
      go_ret
      obtain rfl := HR.out
      exact ⟨rfl, hB⟩
end Go.Proofs.Ytdfojhkpfbnmgaa
namespace Go.Proofs.Ytdfojhkpfbnmgaa
open Go.ChangeShapes Go.WideShapes Go.ChangeAt Go.RowKit
attribute [local go_sem ↓] Go.wp_at_zero Go.wp_at_succ
theorem wsL_bd {s : ChS} {n0 : Int} (hs : Fine s n0) (hn0 : n0 ≤ 900000000) (n : Nat) : ∀ z ∈ wsL s n, 0 ≤ z ∧ z ≤ 2147483648 := by
  intro z hz
  unfold wsL at hz
  obtain ⟨b, _, rfl⟩ := List.mem_map.1 hz
  have := k_le hs.bnd (b : Int) 1
  omega
theorem spread_v (ws : List Int) (good : List Bool) (n m : Nat) (hn : Hid (ws.length = n ∧ good.length = m)) (A1 A2 : Option Addr) (c1 c2 : Nat) (w : World) (S : Int) (hS : Hid (spreadI ws good = S))
    (h1 : Sl w w.heap.size A1 (ws.map (Value.int .i64))) (h2 : Sl w w.heap.size A2 (good.map Value.bool)) (n1 : n ≤ 1000000) (n2 : m ≤ 1000000) (hw : ∀ z ∈ ws, 0 ≤ z ∧ z ≤ 2147483648) :
    Calls Try.prog 39 #[.slice A1 n c1, .slice A2 m c2] w fun e' w' => e' = .returned (.int .i64 S) ∧ Below w.heap.size w w' := by
  obtain ⟨rfl, rfl⟩ := hn.out
  rw [← hS.out]
  exact Spread_any ws good A1 A2 c1 c2 w h1 h2 n1 n2 hw
theorem rspread_v (ws : List Int) (good : List Bool) (n m : Nat) (hn : Hid (ws.length = n ∧ good.length = m)) (A1 A2 : Option Addr) (c1 c2 : Nat) (w : World) (S : Int) (hS : Hid (spreadI ws good = S))
    (h1 : Sl w w.heap.size A1 (ws.map (Value.int .i64))) (h2 : Sl w w.heap.size A2 (good.map Value.bool)) (n1 : n ≤ 1000000) (n2 : m ≤ 1000000) (hw : ∀ z ∈ ws, 0 ≤ z ∧ z ≤ 2147483648) :
    Calls Try.prog 17 #[.slice A1 n c1, .slice A2 m c2] w fun e' w' => e' = .returned (.int .i64 S) ∧ Below w.heap.size w w' := by
  obtain ⟨rfl, rfl⟩ := hn.out
  rw [← hS.out]
  exact rSpread_any ws good A1 A2 c1 c2 w h1 h2 n1 n2 hw
theorem aspread_any (m gx gb : Nat) (Af : Option Addr) (nf cf : Nat) (a b c d e : Int) (fs : List Flt) (NA : Nat) (n0 : Int) (w : World) (s : ChS) (hC : ChipW w m gx gb Af nf cf a b c d e fs s) (hNA0 : (NA : Int) = a) (hs : Fine s n0) (hn0 : n0 ≤ 900000000) (S : Int) (hS : Hid (spreadI (wsL s NA) (gsL fs a s NA) = S)) : Calls Try.prog 14 #[.pointer (some ⟨m, 0, none⟩)] w fun e' w' => e' = .returned (.int .i64 S) ∧ Below w.heap.size w w' := by
  obtain ⟨q1, q2, q3, q4, q5, q6, -⟩ := may_bd (planMay_bd hC.may).1
  have hA20 : NA ≤ 20 := by omega
  have hNA := Lib.hid hNA0
  have HL := Lib.hid (And.intro (wsL_len s NA) (gsL_len fs a s NA))
  have HW := wsL_bd hs hn0 NA
  clear hNA0 q1 q2 q3 q4 q5 q6
  go_enter Try.func14, Try.ntmps14
  go_wp2_with (first | (go_at_call 10; go_loud (((with_reducible refine (wears_any m gx gb Af nf cf a b c d e fs NA _ s hC hNA.out).mono ?_); rintro e' wN ⟨v1, v2, rfl, hE⟩; obtain ⟨A1, c1, hv1, -, -, -, hs1⟩ := own_sliceV hE.r1; obtain ⟨A2, c2, hv2, -, -, -, hs2⟩ := own_sliceV hE.r2; subst hv1 hv2; have hBW := hE.b))) | (go_at_call 39; go_loud (((with_reducible refine (spread_v _ _ NA NA HL A1 A2 c1 c2 _ S hS hs1 hs2 (by omega) (by omega) HW).mono ?_); rintro e' wS ⟨rfl, hbS⟩))))
  go_ret
  exact ⟨rfl, btr hBW hBW.size hbS⟩
def badN (l : List Bool) : Nat := (l.filter fun x => !x).length
theorem badN_take {l : List Bool} {k : Nat} {x : Bool} (h : l[k]? = some x) : badN (l.take (k + 1)) = if x = true then badN (l.take k) else badN (l.take k) + 1 := by
  unfold badN
  rw [List.take_add_one, h, List.filter_append]
  cases x <;> simp
theorem badN_le (l : List Bool) : badN l ≤ l.length := List.length_filter_le _ _
theorem gs_at {w : World} {B : Nat} {A : Option Addr} {l : List Bool} {k : Nat} {x : Bool} (h : Sl w B A (l.map Value.bool)) (hx : l[k]? = some x) : ∃ g o, A = some ⟨g, o, none⟩ ∧ g < B ∧ w.cell? ⟨g, o + k, none⟩ = some (.bool x) := by
  obtain ⟨g, o, e, hl, hc⟩ := h.at_ (by
    have := (List.getElem?_eq_some_iff.1 hx).1
    simpa using (by omega : 0 < l.length))
  exact ⟨g, o, e, hl, hc k _ (by rw [List.getElem?_map, hx]; rfl)⟩
theorem afailed_any (m gx gb : Nat) (Af : Option Addr) (nf cf : Nat) (a b c d e : Int) (fs : List Flt) (NA : Nat) (w : World) (s : ChS) (hC : ChipW w m gx gb Af nf cf a b c d e fs s) (hNA0 : (NA : Int) = a) (F : Nat) (hF : Hid (badN (gsL fs a s NA) = F)) : Calls Try.prog 46 #[.pointer (some ⟨m, 0, none⟩)] w fun e' w' => e' = .returned (.int .i64 (F : Int)) ∧ Below w.heap.size w w' := by
  obtain ⟨q1, q2, q3, q4, q5, q6, -⟩ := may_bd (planMay_bd hC.may).1
  have hA20 : NA ≤ 20 := by omega
  have hNA := Lib.hid hNA0
  have HL := Lib.hid (gsL_len fs a s NA)
  clear hNA0 q1 q2 q3 q4 q5 q6
  go_enter Try.func46, Try.ntmps46
  go_wp2_with (go_at_call 10; go_loud (((with_reducible refine (wears_any m gx gb Af nf cf a b c d e fs NA _ s hC hNA.out).mono ?_); rintro e' wN ⟨v1, v2, rfl, hE⟩; obtain ⟨A1, c1, hv1, -, -, -, hs1⟩ := own_sliceV hE.r1; obtain ⟨A2, c2, hv2, -, -, -, hs2⟩ := own_sliceV hE.r2; subst hv1 hv2; have hBW := hE.b)))
  go_loopw [3, 15] (fun s3 s15 wr => ∃ (k p : Nat), k ≤ NA ∧ s15 = .int .i64 (k : Int) ∧ s3 = .int .i64 (p : Int) ∧ Hid (badN ((gsL fs a s NA).take k) = p) ∧ Below wN.heap.size wN wr) (fun _ s15 _ => NA - (intOf s15).toNat)
  case atStart => exact ⟨0, 0, Nat.zero_le _, rfl, rfl, Lib.hid rfl, Below.refl _ _⟩
  case round =>
    obtain ⟨k, p, hk, rfl, rfl, HP, hBr⟩ := hrel
    by_cases hlt : k < NA
    · obtain ⟨x, hx⟩ : ∃ x, (gsL fs a s NA)[k]? = some x := ⟨_, List.getElem?_eq_getElem (by have := HL.out; omega)⟩
      obtain ⟨b1, o1, rfl, l1, z1⟩ := gs_at (hs2.next hBr) hx
      have hst := badN_take hx
      have hle : p ≤ 20 := by have h1 := badN_le ((gsL fs a s NA).take k); have h2 := HP.out; rw [List.length_take] at h1; omega
      have i0 : (0 : Int) ≤ (k : Int) := by omega
      have i1 : (k : Int) < (NA : Int) := by omega
      rw [HP.out] at hst
      clear hx
      cases x
      · have HP2 : Hid (badN ((gsL fs a s NA).take (k + 1)) = p + 1) := Lib.hid (by rw [hst]; rfl)
        clear hst
        go_wp2
        go_roundw
        case rel => exact ⟨k + 1, p + 1, by omega, by go_num, by go_num, HP2, hBr⟩
        case measure => simp [intOf]; omega
      · have HP2 : Hid (badN ((gsL fs a s NA).take (k + 1)) = p) := Lib.hid (by rw [hst]; rfl)
        clear hst
        go_wp2
        go_roundw
        case rel => exact ⟨k + 1, p, by omega, by go_num, rfl, HP2, hBr⟩
        case measure => simp [intOf]; omega
    · have HR : Hid (p = F) := Lib.hid (by
        have h1 := HP.out
        rw [List.take_of_length_le (by have := HL.out; omega)] at h1
        rw [← h1]
        exact hF.out)
      go_wp2
      go_ret
      obtain rfl := HR.out
      exact ⟨rfl, btr hBW hBW.size hBr⟩
theorem Slack_any (a b c d e : Int) (w : World) :
    Calls Try.prog 19 #[.agg #[.int .i64 a, .int .i64 b, .int .i64 c, .int .i64 d, .int .i64 e]] w fun e' w' => e' = .returned (.int .i64 (ifMay a b c d e (2 * a))) ∧ Below w.heap.size w w' := by
  cases hm : mayB a b c d e
  · rw [ifMay_no _ hm]
    have Hm := Lib.hid hm
    clear hm
    go_enter Try.func19, Try.ntmps19
    go_wp2_with (go_at_call 42; go_loud (refine (may_any _ _ _ _ _ _).mono ?_; rw [Hm.out]; rintro e' w1 ⟨rfl, hb1⟩))
    go_ret
    exact ⟨rfl, below1 hb1⟩
  · rw [ifMay_yes _ hm]
    obtain ⟨k1, k2, k3, k4, k7, k8, k5, k6, _⟩ := may_bd hm
    have Hm := Lib.hid hm
    clear hm
    go_enter Try.func19, Try.ntmps19
    go_wp2_with (go_at_call 42; go_loud (refine (may_any _ _ _ _ _ _).mono ?_; rw [Hm.out]; rintro e' w1 ⟨rfl, hb1⟩; obtain ⟨hc1, hf1⟩ := bcell hb1))
    go_ret
    exact ⟨rfl, below1 hb1⟩
theorem wrapI {x : Int} (h0 : -9223372036854775808 ≤ x) (h1 : x ≤ 9223372036854775807) : IntKind.i64.wrap x = x := by
  simp [IntKind.wrap, IntKind.bits, IntKind.signed]
  omega
theorem slack_v (a b c d e : Int) (w : World) (hm : Hid (mayB a b c d e = true)) : Calls Try.prog 19 #[.agg #[.int .i64 a, .int .i64 b, .int .i64 c, .int .i64 d, .int .i64 e]] w fun e' w' => e' = .returned (.int .i64 (2 * a)) ∧ Below w.heap.size w w' := by
  have h := Slack_any a b c d e w
  rwa [ifMay_yes _ hm.out] at h
theorem alimit_any (m gx gb : Nat) (Af : Option Addr) (nf cf : Nat) (a b c d e : Int) (fs : List Flt) (n0 : Int) (w : World) (s : ChS) (hC : ChipW w m gx gb Af nf cf a b c d e fs s) (hs : Fine s n0) (hn0 : n0 ≤ 900000000) (L : Int) (hL : Hid (e + 2 * a + s.cuts = L)) : Calls Try.prog 15 #[.pointer (some ⟨m, 0, none⟩)] w fun e' w' => e' = .returned (.int .i64 L) ∧ Below w.heap.size w w' := by
  have hm := (planMay_bd hC.may).1
  obtain ⟨q1, q2, q3, q4, q5, q6, q7, q8, q9⟩ := may_bd hm
  have HM := Lib.hid hm
  obtain ⟨o0, o1, c0, c1, -, -⟩ := hs.bnd
  have hret : Ending.returned (Value.int .i64 (IntKind.i64.wrap (IntKind.i64.wrap (e + 2 * a) + s.cuts))) = .returned (.int .i64 L) := by
    rw [← hL.out, wrapI (x := e + 2 * a) (by omega) (by omega), wrapI (x := e + 2 * a + s.cuts) (by omega) (by omega)]
  clear hm q3 q4 q5 q6
  go_enter Try.func15, Try.ntmps15
  go_upto_region 2 with (go_at_call 36; go_loud (((with_reducible refine (geometry_0 m gx gb Af nf cf a b c d e fs _ s hC).mono ?_); rintro e' wG ⟨rfl, hbG⟩)))
  obtain ⟨g, hg⟩ : ∃ g, wG.heap.size = g := ⟨_, rfl⟩
  have HG : Blk (wG.alloc (.cells #[.int .i64 a, .int .i64 b, .int .i64 c, .int .i64 d, .int .i64 e] 23)) wG.heap.size 23 #[.int .i64 a, .int .i64 b, .int .i64 c, .int .i64 d, .int .i64 e] := Blk.new_ _ _ _
  have hB : Below w.heap.size w (wG.alloc (.cells #[.int .i64 a, .int .i64 b, .int .i64 c, .int .i64 d, .int .i64 e] 23)) := hbG.alloc hbG.size _
  obtain ⟨wZ, hwZ⟩ : ∃ V : World, V = wG.alloc (.cells #[.int .i64 a, .int .i64 b, .int .i64 c, .int .i64 d, .int .i64 e] 23) := ⟨_, rfl⟩
  rw [← hwZ] at HG hB ⊢
  rw [hg] at HG ⊢
  clear hwZ
  have HY := cells5 HG
  refine wp_region_noPanic ?_
  refine wp_region_held_drew (S := (fun w' => w'.cell? ⟨g, 0, none⟩ = some (.int .i64 a) ∧ w'.cell? ⟨g, 1, none⟩ = some (.int .i64 b) ∧ w'.cell? ⟨g, 2, none⟩ = some (.int .i64 c) ∧ w'.cell? ⟨g, 3, none⟩ = some (.int .i64 d) ∧ w'.cell? ⟨g, 4, none⟩ = some (.int .i64 e))) (by kernel_rfl) ?_ (fun hHeld => ?_)
  · (first | exact HY | exact HY2 | assumption)
  refine tk 0 ⟨some 6, .fieldAddr 23 (.tmp 3) 4, 0, "audit.go:33", #[], none⟩ ?_; try simp only [Act.put, pz1, pz2, pz3]
  refine tk 1 ⟨some 7, .load 3 (.tmp 6), 3, "audit.go:33", #[⟨0, .data⟩], none⟩ ?_; try simp only [Act.put, pz1, pz2, pz3]
  refine tk 2 ⟨some 8, .load 23 (.tmp 3), 23, "audit.go:33", #[], none⟩ ?_; try simp only [Act.put, pz1, pz2, pz3]
  refine tk 5 ⟨some 11, .move (.tmp 0), 26, "audit.go:33", #[], none⟩ ?_; try simp only [Act.put, pz1, pz2, pz3]
  refine wpAnyH_ready (rs := [3]) (by kernel_rfl) (by simp) ?_
  refine AllReadyH.cons (o := ⟨some 9, .call { callee := .value (.func 19), args := #[.tmp 8], argTypes := #[23] }, 3, "audit.go:33", #[⟨2, .data⟩], none⟩) rfl (fun K hK => ?_) AllReadyH.nil
  go_simp
  (first | (go_at_call 19; go_loud (((with_reducible refine (slack_v a b c d e _ HM).mono ?_); rintro e' wS ⟨rfl, hbS⟩; (try have hbS := undrew hbS); have HY2 := cells5 (HG.below hbS HG.lt); replace hB := btr hB hB.size hbS))) | (go_at_call 20; go_loud (((with_reducible refine (cuts_any m gx gb Af nf cf a b c d e fs _ s (hC.likeB hB)).mono ?_); rintro e' wC ⟨rfl, rfl⟩))))
  go_wp2_with fail
  refine hK.out _ _ ?_ (fun hNew => ?_)
  · (first | exact HY | exact HY2 | assumption)
  clear hK K hHeld
  have hHeld := hNew
  clear hNew
  try simp only [Act.put, pz1, pz2, pz3]
  refine tk 4 ⟨some 10, .binOp .add 3 (.tmp 7) (.tmp 9) 3, 3, "audit.go:33", #[⟨1, .data⟩, ⟨3, .data⟩], none⟩ ?_; try simp only [Act.put, pz1, pz2, pz3]
  refine wpAnyH_ready (rs := [6]) (by kernel_rfl) (by simp) ?_
  refine AllReadyH.cons (o := ⟨some 12, .call { callee := .value (.func 20), args := #[.tmp 11], argTypes := #[26] }, 3, "audit.go:33", #[⟨5, .data⟩, ⟨3, .chain⟩], none⟩) rfl (fun K hK => ?_) AllReadyH.nil
  go_simp
  (first | (go_at_call 19; go_loud (((with_reducible refine (slack_v a b c d e _ HM).mono ?_); rintro e' wS ⟨rfl, hbS⟩; (try have hbS := undrew hbS); have HY2 := cells5 (HG.below hbS HG.lt); replace hB := btr hB hB.size hbS))) | (go_at_call 20; go_loud (((with_reducible refine (cuts_any m gx gb Af nf cf a b c d e fs _ s (hC.likeB hB)).mono ?_); rintro e' wC ⟨rfl, rfl⟩))))
  go_wp2_with fail
  refine hK.out _ _ ?_ (fun hNew => ?_)
  · (first | exact HY | exact HY2 | assumption)
  clear hK K hHeld
  have hHeld := hNew
  clear hNew
  try simp only [Act.put, pz1, pz2, pz3]
  refine tk 7 ⟨some 13, .binOp .add 3 (.tmp 10) (.tmp 12) 3, 3, "audit.go:33", #[⟨4, .data⟩, ⟨6, .data⟩], none⟩ ?_; try simp only [Act.put, pz1, pz2, pz3]
  refine tk 8 ⟨some 2, .assign (.tmp 13), 3, "audit.go:33", #[⟨7, .data⟩, ⟨6, .chain⟩, ⟨0, .phase⟩, ⟨1, .phase⟩, ⟨2, .phase⟩, ⟨3, .phase⟩, ⟨4, .phase⟩, ⟨5, .phase⟩, ⟨6, .phase⟩, ⟨7, .phase⟩], none⟩ ?_; try simp only [Act.put, pz1, pz2, pz3]
  refine wpAnyH_done (by kernel_rfl) ?_ _
  refine NoPanic.normal ?_
  clear hHeld
  go_wp2_with fail
  go_ret
  exact ⟨hret, (by first | exact hB | exact hB.drew)⟩
end Go.Proofs.Ytdfojhkpfbnmgaa
namespace Go.Proofs.Ytdfojhkpfbnmgaa
open Go.ChangeShapes Go.WideShapes Go.ChangeAt Go.RowKit
attribute [local go_sem ↓] Go.wp_at_zero Go.wp_at_succ
structure Kept (s S : ChS) : Prop where
  k : S.K = s.K
  c : S.cuts = s.cuts
  x : S.X = s.X
  o : S.on = s.on
  m : S.armed = s.armed
theorem Kept.refl (s : ChS) : Kept s s := ⟨rfl, rfl, rfl, rfl, rfl⟩
theorem Kept.trans {s S T : ChS} (h : Kept s S) (k : Kept S T) : Kept s T := ⟨k.k.trans h.k, k.c.trans h.c, k.x.trans h.x, k.o.trans h.o, k.m.trans h.m⟩
theorem read_kept {s : ChS} {a b x y : Int} (hz : s.readZ a b x y = 0) : Kept s (s.readS a b x y) := by
  unfold ChS.readZ at hz
  unfold ChS.readS
  cases ho : s.on
  · rw [ho] at hz; simp at hz
  · rw [ho] at hz
    cases ht : thereB a b x y
    · rw [ht] at hz; simp at hz
    · rw [ht] at hz
      cases hc : s.cutB
      · rw [Bool.true_and, if_pos rfl, tick_nc hc]
        exact ⟨rfl, rfl, rfl, rfl, rfl⟩
      · rw [hc] at hz; simp at hz
theorem walkF_kept {a b c : Int} {NB : Nat} {fs : List Flt} : ∀ (r i : Nat) (s : ChS) (acc accR : List Vis) (S : ChS), walkF a b c NB fs r i s acc = (0, accR, S) → Kept s S := by
  intro r
  induction r with
  | zero => intro i s acc accR S h; unfold walkF at h; simp only [Prod.mk.injEq] at h; rw [← h.2.2]; exact Kept.refl _
  | succ r ih =>
    intro i s acc accR S h
    rw [walkF] at h
    split at h
    · exact ih _ _ _ _ _ h
    · split at h
      · rename_i hz
        exact (read_kept hz).trans (ih _ _ _ _ _ h)
      · rename_i hz
        simp only [Prod.mk.injEq] at h
        exact absurd h.1 hz
theorem ws_kept {s S : ChS} (h : Kept s S) (n : Nat) : wsL S n = wsL s n := by
  unfold wsL ChS.k
  rw [h.k]
theorem gs_kept {s S : ChS} (h : Kept s S) (fs : List Flt) (a : Int) (n : Nat) : gsL fs a S n = gsL fs a s n := by
  unfold gsL failedB ChS.k
  rw [h.k]
theorem on_v (m gx gb : Nat) (Af : Option Addr) (nf cf : Nat) (a b c d e : Int) (fs : List Flt) (T : Bool) (w : World) (s : ChS) (hC : ChipW w m gx gb Af nf cf a b c d e fs s) (hT : Hid (s.on = T)) : Calls Try.prog 43 #[.pointer (some ⟨m, 0, none⟩)] w fun e' w' => e' = .returned (.bool T) ∧ w = w' := by
  have h := on_any m gx gb Af nf cf a b c d e fs w s hC
  rwa [hT.out] at h
theorem why_nil (w : World) : Calls Try.prog 21 #[.pointer none] w fun e' w' => e' = .returned (.string { data := #[111, 102, 102] }) ∧ Below w.heap.size w w' := by
  go_enter Try.func21, Try.ntmps21
  go_wp2_with (go_at_call 43; go_loud (((with_reducible refine (on_nil _).mono ?_); rintro e' wN ⟨rfl, rfl⟩)))
  go_ret
  exact ⟨rfl, Below.refl _ _⟩
theorem rowfd_slA {w : World} {B n c : Nat} {A : Option Addr} {L : List Fd} (h : RowFd w B (.slice A n c) L) : SlFd w w.heap.size A L := by
  obtain ⟨A', c', hv, hs, -, -⟩ := h.sl
  cases hv
  exact hs
theorem why_low (m gx gb : Nat) (Af : Option Addr) (nf cf : Nat) (a b c d e : Int) (fs : List Flt) (NA NB : Nat) (n0 : Int) (acc : List Vis) (w : World) (s S1 : ChS) (hC : ChipW w m gx gb Af nf cf a b c d e fs s) (hg : Good s n0) (hn0 : n0 ≤ 800000000) (h8 : Bytes8 s.X) (hon : Hid (s.on = true)) (hNA : Hid ((NA : Int) = a)) (hNB : Hid ((NB : Int) = b)) (hR : Hid (walkF a b c NB fs (NA * NB) 0 s [] = (0, acc, S1))) (n : Nat) (hn : Hid ((fdsOf acc).length = n)) (hn1 : n ≤ 1000) (hok : ∀ x ∈ fdsOf acc, i64in x.s) (hdup : Hid (dupB (seqs (fdsOf acc)) = false)) (S L : Int) (hS : Hid (spreadI (wsL S1 NA) (gsL fs a S1 NA) = S)) (hL : Hid (e + 2 * a + S1.cuts = L)) (hSL : ¬ L < S) :
    Calls Try.prog 21 #[.pointer (some ⟨m, 0, none⟩)] w fun e' w' => e' = .returned (.string { data := #[] }) ∧ ChipW w' m gx gb Af nf cf a b c d e fs S1 ∧ Tch (chB m gx gb) w w' ∧ Good S1 (n0 + 1000) := by
  go_enter Try.func21, Try.ntmps21
  go_wp2_with (first | (go_at_call 43; go_loud (((with_reducible refine (on_v m gx gb Af nf cf a b c d e fs true _ s hC hon).mono ?_); rintro e' wN ⟨rfl, rfl⟩))) | (go_at_call 44; go_loud (((with_reducible refine (scan_ok m gx gb Af nf cf a b c d e fs NA NB n0 acc s S1 _ hC hg (by omega) h8 hNA.out hNB.out hR n hn).mono ?_); rintro e' wE ⟨⟨A3, c3, rfl, hrF⟩, hC1, hT1, hg1, -⟩; have hsF := rowfd_slA hrF))) | (go_at_call 45; go_loud (((with_reducible refine (twice_any (fdsOf acc) A3 n c3 _ hn.out hsF (by omega) hok false hdup).mono ?_); rintro e' wT ⟨rfl, hbT⟩; have hTT := hT1.then hbT; have hC2 := hC1.below hbT))) | (go_at_call 14; go_loud (((with_reducible refine (aspread_any m gx gb Af nf cf a b c d e fs NA (n0 + 1000) _ S1 hC2 hNA.out hg1.fine (by omega) S hS).mono ?_); rintro e' wS ⟨rfl, hbS⟩; replace hTT := hTT.then hbS; replace hC2 := hC2.below hbS))) | (go_at_call 15; go_loud (((with_reducible refine (alimit_any m gx gb Af nf cf a b c d e fs (n0 + 1000) _ S1 hC2 hg1.fine (by omega) L hL).mono ?_); rintro e' wL ⟨rfl, hbL⟩; replace hTT := hTT.then hbL; replace hC2 := hC2.below hbL))))
  go_ret
  first | exact ⟨rfl, hC2, hTT, hg1⟩ | exact ⟨rfl, hC2, hTT⟩
theorem why_wear (m gx gb : Nat) (Af : Option Addr) (nf cf : Nat) (a b c d e : Int) (fs : List Flt) (NA NB : Nat) (n0 : Int) (acc : List Vis) (w : World) (s S1 : ChS) (hC : ChipW w m gx gb Af nf cf a b c d e fs s) (hg : Good s n0) (hn0 : n0 ≤ 800000000) (h8 : Bytes8 s.X) (hon : Hid (s.on = true)) (hNA : Hid ((NA : Int) = a)) (hNB : Hid ((NB : Int) = b)) (hR : Hid (walkF a b c NB fs (NA * NB) 0 s [] = (0, acc, S1))) (n : Nat) (hn : Hid ((fdsOf acc).length = n)) (hn1 : n ≤ 1000) (hok : ∀ x ∈ fdsOf acc, i64in x.s) (hdup : Hid (dupB (seqs (fdsOf acc)) = false)) (S L : Int) (hS : Hid (spreadI (wsL S1 NA) (gsL fs a S1 NA) = S)) (hL : Hid (e + 2 * a + S1.cuts = L)) (hSL : L < S) (F : Nat) (hF : Hid (badN (gsL fs a S1 NA) = F)) (hFd : (F : Int) ≤ d) :
    Calls Try.prog 21 #[.pointer (some ⟨m, 0, none⟩)] w fun e' w' => e' = .returned (.string { data := #[119, 101, 97, 114] }) ∧ ChipW w' m gx gb Af nf cf a b c d e fs S1 ∧ Tch (chB m gx gb) w w' ∧ Good S1 (n0 + 1000) := by
  go_enter Try.func21, Try.ntmps21
  go_wp2_with (first | (go_at_call 43; go_loud (((with_reducible refine (on_v m gx gb Af nf cf a b c d e fs true _ s hC hon).mono ?_); rintro e' wN ⟨rfl, rfl⟩))) | (go_at_call 44; go_loud (((with_reducible refine (scan_ok m gx gb Af nf cf a b c d e fs NA NB n0 acc s S1 _ hC hg (by omega) h8 hNA.out hNB.out hR n hn).mono ?_); rintro e' wE ⟨⟨A3, c3, rfl, hrF⟩, hC1, hT1, hg1, -⟩; have hsF := rowfd_slA hrF))) | (go_at_call 45; go_loud (((with_reducible refine (twice_any (fdsOf acc) A3 n c3 _ hn.out hsF (by omega) hok false hdup).mono ?_); rintro e' wT ⟨rfl, hbT⟩; have hTT := hT1.then hbT; have hC2 := hC1.below hbT))) | (go_at_call 14; go_loud (((with_reducible refine (aspread_any m gx gb Af nf cf a b c d e fs NA (n0 + 1000) _ S1 hC2 hNA.out hg1.fine (by omega) S hS).mono ?_); rintro e' wS ⟨rfl, hbS⟩; replace hTT := hTT.then hbS; replace hC2 := hC2.below hbS))) | (go_at_call 15; go_loud (((with_reducible refine (alimit_any m gx gb Af nf cf a b c d e fs (n0 + 1000) _ S1 hC2 hg1.fine (by omega) L hL).mono ?_); rintro e' wL ⟨rfl, hbL⟩; replace hTT := hTT.then hbL; replace hC2 := hC2.below hbL))) | (go_at_call 46; go_loud (((with_reducible refine (afailed_any m gx gb Af nf cf a b c d e fs NA _ S1 hC2 hNA.out F hF).mono ?_); rintro e' wF ⟨rfl, hbF⟩; replace hTT := hTT.then hbF; replace hC2 := hC2.below hbF))) | (go_at_call 36; go_loud (((with_reducible refine (geometry_0 m gx gb Af nf cf a b c d e fs _ S1 hC2).mono ?_); rintro e' wG ⟨rfl, hbG⟩; replace hTT := hTT.then hbG; replace hC2 := hC2.below hbG))))
  go_ret
  first | exact ⟨rfl, hC2, hTT, hg1⟩ | exact ⟨rfl, hC2, hTT⟩
theorem why_many (m gx gb : Nat) (Af : Option Addr) (nf cf : Nat) (a b c d e : Int) (fs : List Flt) (NA NB : Nat) (n0 : Int) (acc : List Vis) (w : World) (s S1 : ChS) (hC : ChipW w m gx gb Af nf cf a b c d e fs s) (hg : Good s n0) (hn0 : n0 ≤ 800000000) (h8 : Bytes8 s.X) (hon : Hid (s.on = true)) (hNA : Hid ((NA : Int) = a)) (hNB : Hid ((NB : Int) = b)) (hR : Hid (walkF a b c NB fs (NA * NB) 0 s [] = (0, acc, S1))) (n : Nat) (hn : Hid ((fdsOf acc).length = n)) (hn1 : n ≤ 1000) (hok : ∀ x ∈ fdsOf acc, i64in x.s) (hdup : Hid (dupB (seqs (fdsOf acc)) = false)) (S L : Int) (hS : Hid (spreadI (wsL S1 NA) (gsL fs a S1 NA) = S)) (hL : Hid (e + 2 * a + S1.cuts = L)) (hSL : L < S) (F : Nat) (hF : Hid (badN (gsL fs a S1 NA) = F)) (hFd : ¬ (F : Int) ≤ d) :
    Calls Try.prog 21 #[.pointer (some ⟨m, 0, none⟩)] w fun e' w' => e' = .returned (.string { data := #[] }) ∧ ChipW w' m gx gb Af nf cf a b c d e fs S1 ∧ Tch (chB m gx gb) w w' ∧ Good S1 (n0 + 1000) := by
  go_enter Try.func21, Try.ntmps21
  go_wp2_with (first | (go_at_call 43; go_loud (((with_reducible refine (on_v m gx gb Af nf cf a b c d e fs true _ s hC hon).mono ?_); rintro e' wN ⟨rfl, rfl⟩))) | (go_at_call 44; go_loud (((with_reducible refine (scan_ok m gx gb Af nf cf a b c d e fs NA NB n0 acc s S1 _ hC hg (by omega) h8 hNA.out hNB.out hR n hn).mono ?_); rintro e' wE ⟨⟨A3, c3, rfl, hrF⟩, hC1, hT1, hg1, -⟩; have hsF := rowfd_slA hrF))) | (go_at_call 45; go_loud (((with_reducible refine (twice_any (fdsOf acc) A3 n c3 _ hn.out hsF (by omega) hok false hdup).mono ?_); rintro e' wT ⟨rfl, hbT⟩; have hTT := hT1.then hbT; have hC2 := hC1.below hbT))) | (go_at_call 14; go_loud (((with_reducible refine (aspread_any m gx gb Af nf cf a b c d e fs NA (n0 + 1000) _ S1 hC2 hNA.out hg1.fine (by omega) S hS).mono ?_); rintro e' wS ⟨rfl, hbS⟩; replace hTT := hTT.then hbS; replace hC2 := hC2.below hbS))) | (go_at_call 15; go_loud (((with_reducible refine (alimit_any m gx gb Af nf cf a b c d e fs (n0 + 1000) _ S1 hC2 hg1.fine (by omega) L hL).mono ?_); rintro e' wL ⟨rfl, hbL⟩; replace hTT := hTT.then hbL; replace hC2 := hC2.below hbL))) | (go_at_call 46; go_loud (((with_reducible refine (afailed_any m gx gb Af nf cf a b c d e fs NA _ S1 hC2 hNA.out F hF).mono ?_); rintro e' wF ⟨rfl, hbF⟩; replace hTT := hTT.then hbF; replace hC2 := hC2.below hbF))) | (go_at_call 36; go_loud (((with_reducible refine (geometry_0 m gx gb Af nf cf a b c d e fs _ S1 hC2).mono ?_); rintro e' wG ⟨rfl, hbG⟩; replace hTT := hTT.then hbG; replace hC2 := hC2.below hbG))))
  go_ret
  first | exact ⟨rfl, hC2, hTT, hg1⟩ | exact ⟨rfl, hC2, hTT⟩
end Go.Proofs.Ytdfojhkpfbnmgaa
namespace Go.Proofs.Ytdfojhkpfbnmgaa
open Go.ChangeShapes Go.WideShapes Go.ChangeAt Go.RowKit
attribute [local go_sem ↓] Go.wp_at_zero Go.wp_at_succ
theorem lwears_any (m gx gb : Nat) (Af : Option Addr) (nf cf : Nat) (a b c d e : Int) (fs : List Flt) (NA : Nat) (w : World) (s : ChS) (hC : ChipW w m gx gb Af nf cf a b c d e fs s) (hNA : (NA : Int) = a) : Calls Try.prog 18 #[.pointer (some ⟨m, 0, none⟩)] w fun e' w' => (∃ A c, e' = .returned (.slice A NA c) ∧ Sl w' w'.heap.size A ((wsL s NA).map (Value.int .i64))) ∧ Below w.heap.size w w' := by
  obtain ⟨q1, q2, q3, q4, q5, q6, -⟩ := may_bd (planMay_bd hC.may).1
  have HLA := Lib.hid hNA
  have hA20 : NA ≤ 20 := by omega
  clear hNA q3 q4 q5 q6
  go_enter Try.func18, Try.ntmps18
  go_wp2
  go_loopw [3, 4] (fun s3 s4 wr => ∃ (k : Nat) (v1 : Value), k ≤ NA ∧ s4 = .int .i64 (k : Int) ∧ s3 = v1 ∧ Wr w wr fs a s k 0 v1 (.slice none 0 0)) (fun _ s4 _ => NA - (intOf s4).toNat)
  case atStart => exact ⟨0, _, Nat.zero_le _, rfl, rfl, Below.refl _ _, World.ownsRow_nil _ _ _ _, World.ownsRow_nil _ _ _ _, fun g hg => by simp [Value.ownBlock] at hg⟩
  case round =>
    obtain ⟨k, v1, hk, rfl, e3, hE⟩ := hrel
    have e3' := e3.symm
    subst e3'
    obtain ⟨A1, c1, hv1, -, -, -, -⟩ := own_sliceV hE.r1
    subst hv1
    have k0 : (0 : Int) ≤ (k : Int) := by omega
    by_cases hka : (k : Int) < a
    · have hkA : k < NA := by have := HLA.out; omega
      obtain ⟨z, hz⟩ : ∃ z, s.k (k : Int) 1 = z := ⟨_, rfl⟩
      have HZ := Lib.hid hz
      clear hz
      go_wp2_with (first | (go_at_call 36; go_loud (((with_reducible refine (geometry_0 m gx gb Af nf cf a b c d e fs _ s (hC.below hE.b)).mono ?_); rintro e' wG ⟨rfl, hbG⟩; replace hE := hE.then hbG; clear hbG))) | (go_at_call 11; go_loud (((with_reducible refine (wear_k m gx gb Af nf cf a b c d e fs k z _ s (hC.below hE.b) hka HZ).mono ?_); rintro e' wN ⟨rfl, rfl⟩))) | (at_builtin; go_loud (obtain ⟨ti0, hi, hz0, hz1, hz2⟩ := info_parts infoInt; refine wpList_app _ rfl (.tmp 12) (.tmp 16) _ rfl w.heap.size 3 ti0 _ 1 8 Try.underlying32 hi hz0 hz1 hz2 rfl (by decide) _ k ((wsL s k).map (Value.int .i64)) rfl (hE.r1.alloc _) _ 1 _ [.int .i64 z] rfl (Rd.one (by simp)) (by simp [Value.oneCell']) (by unfold maxLen; omega) (by omega) (by have := hE.b.size; simp; omega) ?_; intro u w1 ho hg hv; replace hE := hE.push1 HZ.out ho hg hv; clear hi hz0 hz1 hz2 ho hg hv)))
      go_roundw
      case rel => exact ⟨k + 1, _, by omega, by go_num, rfl, hE⟩
      case measure => simp [intOf]; omega
    · have hkA : k = NA := by have := HLA.out; omega
      go_wp2_with (go_at_call 36; go_loud (((with_reducible refine (geometry_0 m gx gb Af nf cf a b c d e fs _ s (hC.below hE.b)).mono ?_); rintro e' wG ⟨rfl, hbG⟩; replace hE := hE.then hbG; clear hbG)))
      go_ret
      subst hkA
      obtain ⟨A5, c5, hv5, -, -, -, hs5⟩ := own_sliceV hE.r1
      cases hv5
      exact ⟨⟨_, _, rfl, hs5⟩, hE.b⟩
theorem overI_any (A : Option Addr) (n cap : Nat) (xs : List Value) (base : Nat) (w : World) (ho : w.ownsRow base 3 1 (.slice A n cap) n xs) (hb : base ≤ w.heap.size) (hn : n ≤ 100000) :
    Calls Try.prog 16 #[.slice A n cap] w fun e w' => (∃ v, e = .returned v) ∧ w.grownBy w' (Value.ownBlock (.slice A n cap)) := by
  obtain ⟨i0, hi, hz0, hz1, hz2⟩ := info_parts infoInt
  go_enter Try.func16, Try.ntmps16
  go_wp2
  go_loopw [2] (fun i wr => ∃ (k : Nat) (ys : List Value), k ≤ n ∧ i = .int .i64 k ∧ wr.ownsRow base 3 1 (.slice A n cap) n ys ∧ w.grownBy wr (Value.ownBlock (.slice A n cap))) (fun i _ => n - (intOf i).toNat)
  case atStart => exact ⟨0, xs, Nat.zero_le _, rfl, ho, World.grownBy.refl _ _⟩
  case round =>
    obtain ⟨k, ys, hk, rfl, hr, hB⟩ := hrel
    clear ho
    by_cases hlt : k < n
    · have hyl : ys.length = n := by have := hr.1; omega
      obtain ⟨g, cap', hg, -⟩ := hr.form (by omega)
      cases hg
      have c1 : wr.cell? ⟨g, k, none⟩ = some (ys.getD k (.bool false)) := by
        rw [hr.cellAt k (by omega)]
        simp [show k < ys.length by omega]
      have f1 : wr.frozen? ⟨g, k, none⟩ = false := hr.frozenAt k
      have i0' : (0 : Int) ≤ (k : Int) := by omega
      have i1 : (k : Int) < (n : Int) := by omega
      have hst := hr.stored k (.int .i64 (-999))
      have hgl := (hr.lt g rfl).1
      clear hyl
      go_wp2
      go_roundw
      case rel => exact ⟨k + 1, ys.set k (.int .i64 (-999)), by omega, by go_num, hst.1, hB.trans hst.2⟩
      case measure => simp [intOf]; omega
    · go_wp2_with (at_builtin; go_loud (refine wpList_app _ rfl (.tmp 12) (.tmp 13) _ rfl base 3 i0 _ 1 8 Try.underlying32 hi hz0 hz1 hz2 rfl (by decide) _ _ _ rfl (hr.alloc _) _ 1 _ [.int .i64 (-999)] rfl (Rd.one (by simp)) (by simp [Value.oneCell']) (by unfold maxLen; omega) (by omega) (by simp; have := hB.size; omega) ?_; intro s2 w2 ho2 hg2 hv2))
      have HF : w.grownBy w2 (Value.ownBlock (.slice A n cap)) := (hB.trans (World.grownBy_alloc _ _ _)).trans hg2
      exact bodyPost_end (v := .tuple #[]) (by simp [results, Try.results16, go_sem]) rfl ⟨⟨_, rfl⟩, HF⟩
end Go.Proofs.Ytdfojhkpfbnmgaa
namespace Go.Proofs.Ytdfojhkpfbnmgaa
open Go.ChangeShapes Go.WideShapes Go.ChangeAt Go.RowKit
theorem good_new (NX NB : Nat) : Good (ChS.new NX NB) 20 := by
  have hz : ∀ i, (List.replicate (3 * NB) (0 : Int)).getD i 0 = 0 := by
    intro i
    rw [List.getD_eq_getElem?_getD, List.getElem?_replicate]
    split <;> rfl
  exact ⟨⟨⟨by simp [ChS.new], by simp [ChS.new], by simp [ChS.new], by simp [ChS.new], fun i => by show 0 ≤ (List.replicate (3 * NB) (0 : Int)).getD i 0; rw [hz]; omega, fun i => by show (List.replicate (3 * NB) (0 : Int)).getD i 0 ≤ 20; rw [hz]; omega⟩, by simp [ChS.new], by simp [ChS.new]⟩, ⟨fun h => by simp [ChS.new] at h, fun h => by simp [ChS.new] at h⟩⟩
structure Liv (s : ChS) : Prop where
  on : s.on = true
  ar : s.armed = false
  b8 : Bytes8 s.X
theorem Liv.cut {s : ChS} (h : Liv s) : s.cutB = false := by unfold ChS.cutB; rw [h.ar]; rfl
theorem Liv.tick {s : ChS} (h : Liv s) : Liv s.tick := by
  unfold ChS.tick
  rw [h.cut]
  exact ⟨h.on, h.ar, h.b8⟩
theorem Liv.new (NX NB : Nat) : Liv (ChS.new NX NB) := ⟨rfl, rfl, fun x hx => by
  have := List.eq_of_mem_replicate hx
  omega⟩
theorem putX_8 {X vs : List Nat} {F : Nat} (h : Bytes8 X) (hv : Bytes8 vs) : Bytes8 (putX X F vs) := by
  intro x hx
  unfold putX at hx
  rcases List.mem_append.1 hx with hx | hx
  · rcases List.mem_append.1 hx with hx | hx
    · exact h x (List.mem_of_mem_take hx)
    · exact hv x hx
  · exact h x (List.mem_of_mem_drop hx)
theorem tick_X8 (s : ChS) : s.tick.X = s.X := by unfold ChS.tick; split <;> rfl
theorem Liv.prog {s : ChS} (h : Liv s) (a b c : Int) (fs : List Flt) (x y : Int) {bs : List Nat} (hb : Bytes8 bs) : Liv (s.progS a b c fs x y bs) := by
  unfold ChS.progS
  split
  · split
    · rw [h.cut]
      have ht := h.tick
      exact ⟨ht.on, ht.ar, putX_8 h.b8 hb⟩
    · exact h.tick
  · exact h
theorem Liv.read {s : ChS} (h : Liv s) (a b x y : Int) : Liv (s.readS a b x y) := by
  unfold ChS.readS
  split
  · exact h.tick
  · exact h
def pg (X : List Nat) (RW i : Nat) : List Nat := (X.drop (i * RW)).take RW
def visF (NB RW : Nat) (fs : List Flt) (X : List Nat) : Nat → Nat → List Vis
  | 0, _ => []
  | r + 1, i => (if badB fs ((i / NB : Nat) : Int) = true then [] else [(i / NB, i % NB, pg X RW i)]) ++ visF NB RW fs X r (i + 1)
theorem live_read {a b c : Int} {NA NB RW i : Nat} {s : ChS} (h : Liv s) (hA : (NA : Int) = a) (hB : (NB : Int) = b) (hR : (RW : Int) = c + 16) (h0 : 0 < NB) (hi : i < NA * NB) : s.readZ a b ((i / NB : Nat) : Int) ((i % NB : Nat) : Int) = 0 ∧ s.readB a b c ((i / NB : Nat) : Int) ((i % NB : Nat) : Int) = pg s.X RW i := by
  have ht := there_in hA hB h0 hi
  obtain ⟨h1, h2, h3⟩ := divmod h0 hi
  have e1 : (((i / NB : Nat) : Int) * b + ((i % NB : Nat) : Int)).toNat = i := by rw [← hB, ← Int.natCast_mul]; omega
  have e2 : (c + 16).toNat = RW := by omega
  unfold ChS.readZ ChS.readB
  rw [h.on, ht, h.cut]
  refine ⟨by simp, ?_⟩
  simp only [Bool.not_false, Bool.and_true, Bool.and_self, if_true, reduceIte]
  unfold ChS.pageOf pg
  rw [e1, e2]
theorem walkF_liv {a b c : Int} {NA NB RW : Nat} {fs : List Flt} (hA : (NA : Int) = a) (hB : (NB : Int) = b) (hR : (RW : Int) = c + 16) (h0 : 0 < NB) : ∀ (r i : Nat) (s : ChS) (acc : List Vis), i + r ≤ NA * NB → Liv s → ∃ S1, walkF a b c NB fs r i s acc = (0, acc ++ visF NB RW fs s.X r i, S1) ∧ S1.X = s.X ∧ Liv S1
  | 0, i, s, acc, _, h => ⟨s, by simp [walkF, visF], rfl, h⟩
  | r + 1, i, s, acc, hi, h => by
    cases hb : badB fs ((i / NB : Nat) : Int) with
    | true =>
      rw [walkF_bad hb]
      obtain ⟨S1, h1, h2, h3⟩ := walkF_liv hA hB hR h0 r (i + 1) s acc (by omega) h
      refine ⟨S1, ?_, h2, h3⟩
      rw [h1, visF, if_pos hb, List.nil_append]
    | false =>
      obtain ⟨z1, z2⟩ := live_read (c := c) h hA hB hR h0 (show i < NA * NB by omega)
      rw [walkF_ok hb z1 rfl z2]
      obtain ⟨S1, h1, h2, h3⟩ := walkF_liv hA hB hR h0 r (i + 1) (s.readS a b ((i / NB : Nat) : Int) ((i % NB : Nat) : Int)) (acc ++ [(i / NB, i % NB, pg s.X RW i)]) (by omega) (h.read a b _ _)
      rw [readS_X] at h1 h2
      refine ⟨S1, ?_, h2, h3⟩
      rw [h1, visF, if_neg (by rw [hb]; simp), List.append_assoc]
theorem fds_cons (v : Vis) (l : List Vis) : fdsOf (v :: l) = fdOf v ++ fdsOf l := rfl
theorem fds_app (l l' : List Vis) : fdsOf (l ++ l') = fdsOf l ++ fdsOf l' := by simp [fdsOf]
theorem pg_rep {n RW i f : Nat} (h : i * RW + RW ≤ n) : pg (List.replicate n f) RW i = List.replicate RW f := by
  unfold pg
  rw [List.drop_replicate, List.take_replicate, Nat.min_eq_left (by omega)]
theorem st_blank {RW : Nat} (h1 : 40 ≤ RW) (h2 : RW ≤ 80) : readSt (List.replicate RW 255) = 0 := by
  unfold readSt
  rw [List.length_replicate, if_pos ⟨h1, h2⟩, if_pos]
  unfold blankB
  rw [List.all_eq_true]
  intro x hx
  rw [List.eq_of_mem_replicate hx]
  rfl
structure Emp (s : ChS) : Prop where
  liv : Liv s
  ff : ∀ v ∈ s.X, v = 255
theorem Emp.new (NX NB : Nat) : Emp (ChS.new NX NB) := ⟨Liv.new NX NB, fun v hv => List.eq_of_mem_replicate hv⟩
theorem putX_ff {X : List Nat} {F n : Nat} (h : ∀ v ∈ X, v = 255) : ∀ v ∈ putX X F (List.replicate n 255), v = 255 := by
  intro v hv
  unfold putX at hv
  rcases List.mem_append.1 hv with hv | hv
  · rcases List.mem_append.1 hv with hv | hv
    · exact h v (List.mem_of_mem_take hv)
    · exact List.eq_of_mem_replicate hv
  · exact h v (List.mem_of_mem_drop hv)
theorem Emp.erase {s : ChS} (h : Emp s) (a b c : Int) (fs : List Flt) (x : Int) : Emp (s.eraseS a b c fs x) := by
  have ht := h.liv.tick
  have hx : s.tick.X = s.X := tick_X8 s
  unfold ChS.eraseS
  split
  · split
    · exact ⟨ht, by rw [hx]; exact h.ff⟩
    · rw [h.liv.cut, if_neg (by simp)]
      have hf := putX_ff (F := x.toNat * (b * (c + 16)).toNat) (n := (b * (c + 16)).toNat) (X := s.tick.X) (by rw [hx]; exact h.ff)
      exact ⟨⟨ht.on, ht.ar, fun v hv => by rw [hf v hv]; omega⟩, hf⟩
  · exact h
theorem rep_of {l : List Nat} (h : ∀ v ∈ l, v = 255) : l = List.replicate l.length 255 := List.eq_replicate_iff.2 ⟨rfl, h⟩
theorem vis_none {NB RW : Nat} {fs : List Flt} {X : List Nat} : ∀ (r i : Nat), (∀ t, i ≤ t → t < i + r → readSt (pg X RW t) = 0) → fdsOf (visF NB RW fs X r i) = []
  | 0, i, _ => rfl
  | r + 1, i, h => by
    have h1 := vis_none (NB := NB) (fs := fs) r (i + 1) (fun t ht1 ht2 => h t (by omega) (by omega))
    rw [visF, fds_app, h1, List.append_nil]
    split
    · rfl
    · rw [fds_cons]
      have h0 := h i (Nat.le_refl _) (by omega)
      have : fdOf (i / NB, i % NB, pg X RW i) = [] := by
        unfold fdOf
        rw [h0]
        rfl
      rw [this]
      rfl
theorem emp_walk {a b c : Int} {NA NB RW : Nat} {fs : List Flt} {s : ChS} (h : Emp s) (hA : (NA : Int) = a) (hB : (NB : Int) = b) (hR : (RW : Int) = c + 16) (h0 : 0 < NB) (h40 : 40 ≤ RW) (h80 : RW ≤ 80) (hl : s.X.length = NA * NB * RW) : ∃ acc S1, walkF a b c NB fs (NA * NB) 0 s [] = (0, acc, S1) ∧ fdsOf acc = [] ∧ Kept s S1 := by
  obtain ⟨S1, h1, h2, h3⟩ := walkF_liv (fs := fs) hA hB hR h0 (NA * NB) 0 s [] (by omega) h.liv
  rw [List.nil_append] at h1
  refine ⟨_, S1, h1, ?_, walkF_kept _ _ _ _ _ _ h1⟩
  refine vis_none _ _ fun t ht1 ht2 => ?_
  rw [rep_of h.ff, pg_rep]
  · exact st_blank h40 h80
  · rw [hl]
    have : t * RW + RW ≤ NA * NB * RW := by
      rw [← Nat.succ_mul]
      exact Nat.mul_le_mul_right _ (by omega)
    omega
theorem ChipW.len {w : World} {m gx gb : Nat} {Af : Option Addr} {nf cf : Nat} {a b c d e : Int} {fs : List Flt} {s : ChS} (h : ChipW w m gx gb Af nf cf a b c d e fs s) {NA NB RW : Nat} (hA : (NA : Int) = a) (hB : (NB : Int) = b) (hR : (RW : Int) = c + 16) : s.X.length = NA * NB * RW := by
  rw [h.lenX, ← hA, ← hB, ← hR]
  have : (NA : Int) * (NB : Int) * (RW : Int) = ((NA * NB * RW : Nat) : Int) := by rw [Int.natCast_mul, Int.natCast_mul]
  rw [this]
  omega
end Go.Proofs.Ytdfojhkpfbnmgaa
namespace Go.Proofs.Ytdfojhkpfbnmgaa
open Go.ChangeShapes Go.WideShapes Go.ChangeAt Go.RowKit
attribute [local go_sem ↓] Go.wp_at_zero Go.wp_at_succ
theorem small23 (w : World) : Calls Try.prog 26 #[] w fun e' w' => e' = .returned (.agg #[.int .i64 8, .int .i64 4, .int .i64 32, .int .i64 0, .int .i64 2]) ∧ Below w.heap.size w w' := by
  go_enter Try.func26, Try.ntmps26
  go_wp2
  refine bodyPost_ret (v := .agg #[.int .i64 8, .int .i64 4, .int .i64 32, .int .i64 0, .int .i64 2]) (by simp [results, Try.results26, go_sem]) rfl ⟨rfl, ?_⟩
  exact (Below.refl _ _).alloc (Nat.le_refl _) _
theorem newA (w : World) : Calls Try.prog 6 #[.agg #[.int .i64 8, .int .i64 4, .int .i64 32, .int .i64 0, .int .i64 2], .slice none 0 0] w fun e' w' => (∃ m gx gb AF cf, e' = .returned (.pointer (some ⟨m, 0, none⟩)) ∧ ChipW w' m gx gb AF 0 cf 8 4 32 0 2 [] (ChS.new 1536 8) ∧ w.heap.size ≤ m ∧ w.heap.size ≤ gx ∧ w.heap.size ≤ gb) ∧ Below w.heap.size w w' :=
  newF_yes 8 4 32 0 2 [] none 0 1536 8 w (Or.inl rfl) (Nat.le_refl _) (Nat.zero_le _) (by simp) (Lib.hid (by decide)) (by decide) rfl (by omega) (by omega) (by omega)
theorem gA : gsL [] 8 (ChS.new 1536 8) 8 = List.replicate 8 true := by rfl
theorem sA9 : spreadI (wsL (ChS.new 1536 8) 8) (gsL [] 8 (ChS.new 1536 8) 8) = 0 := by rfl
theorem walkA9 : ∃ acc S1, walkF 8 4 32 4 [] (8 * 4) 0 (ChS.new 1536 8) [] = (0, acc, S1) ∧ fdsOf acc = [] ∧ Kept (ChS.new 1536 8) S1 :=
  emp_walk (RW := 48) (Emp.new 1536 8) rfl rfl rfl (by omega) (by omega) (by omega) (by show (List.replicate 1536 255).length = _; rw [List.length_replicate])
theorem awake23 (w : World) : Calls Try.prog 5 #[] w fun e' w' => e' = .returned (.bool true) ∧ Below w.heap.size w w' := by
  obtain ⟨acc, S1, hw1, hfd, hk⟩ := walkA9
  have hW := Lib.hid hw1
  have hF0 : Hid ((fdsOf acc).length = 0) := Lib.hid (by rw [hfd]; rfl)
  have hok : ∀ x ∈ fdsOf acc, i64in x.s := fun x hx => by rw [hfd] at hx; cases hx
  have hdp : Hid (dupB (seqs (fdsOf acc)) = false) := Lib.hid (by rw [hfd]; rfl)
  have hS0 : Hid (spreadI (wsL S1 8) (gsL [] 8 S1 8) = 0) := Lib.hid (by rw [ws_kept hk, gs_kept hk]; exact sA9)
  have hL18 : Hid ((2 : Int) + 2 * 8 + S1.cuts = 18) := Lib.hid (by rw [hk.c]; rfl)
  clear hw1 hfd hk
  go_enter Try.func5, Try.ntmps5
  go_wp2_with (first | (go_at_call 26; go_loud (((with_reducible refine (small23 _).mono ?_); rintro e' wN ⟨rfl, hB⟩; skip))) | (go_at_call 6; go_loud (((with_reducible refine (newA _).mono ?_); rintro e' wN ⟨⟨m, gx, gb, AF, cf, rfl, hC, hm, hgx, hgb⟩, hb⟩; have hB0 := btr hB hB.size hb; have hlow : ∀ g, chB m gx gb g → w.heap.size ≤ g := fun g hg => (by have := hB.size; rcases hg with rfl | rfl | rfl <;> omega)))) | (go_at_call 10; go_loud (((with_reducible refine (wears_any m gx gb AF 0 cf 8 4 32 0 2 [] 8 _ (ChS.new 1536 8) hC rfl).mono ?_); rintro e' wN ⟨v1, v2, rfl, hE⟩; obtain ⟨A1, c1, hv1, -, -, -, hs1⟩ := own_sliceV hE.r1; obtain ⟨A2, c2, hv2, -, -, -, hs2⟩ := own_sliceV hE.r2; subst hv1 hv2; obtain ⟨g2, o2, rfl, hl2, z7⟩ := gs_at (k := 7) (x := true) hs2 (by rw [gA]; rfl); have hlC := hC.lt; have hg2 : ¬ chB m gx gb g2 := (fun q => by have := (hE.r2.lt g2 rfl).1; rcases q with rfl | rfl | rfl <;> omega); have hC2 := hC.below hE.b; have HBE := hB0.trans (hE.b.mono hB0.size)))) | (go_at_call 21; go_loud (((with_reducible refine (why_low m gx gb AF 0 cf 8 4 32 0 2 [] 8 4 20 acc _ (ChS.new 1536 8) S1 hC2 (good_new 1536 8) (by omega) (Liv.new 1536 8).b8 (Lib.hid rfl) (Lib.hid rfl) (Lib.hid rfl) hW 0 hF0 (by omega) hok hdp 0 18 hS0 hL18 (by omega)).mono ?_); rintro e' wN ⟨rfl, hC3, hT3, hg3⟩; have z7 := (World.cell?_of_block (a := ⟨g2, o2 + 7, none⟩) (hT3.far g2 hl2 hg2)).trans z7; have HBW := HBE.trans (hT3.below HBE.size hlow); have hl2 := Nat.lt_of_lt_of_le hl2 hT3.size))) | (go_at_call 21; go_loud (((with_reducible refine (why_nil _).mono ?_); rintro e' wN ⟨rfl, hbN⟩; have hC4 := hC3.below hbN; have HBW2 := btr HBW HBW.size hbN; have z7 := (hbN.cell (p := ⟨g2, o2 + 7, none⟩) hl2).trans z7; have hl2 := Nat.lt_of_lt_of_le hl2 hbN.size))) | (go_at_call 14; go_loud (((with_reducible refine (aspread_any m gx gb AF 0 cf 8 4 32 0 2 [] 8 (20 + 1000) _ S1 hC4 rfl hg3.fine (by omega) 0 hS0).mono ?_); rintro e' wN ⟨rfl, hbS⟩; have hC5 := hC4.below hbS; have HBW3 := btr HBW2 HBW2.size hbS))) | (go_at_call 15; go_loud (((with_reducible refine (alimit_any m gx gb AF 0 cf 8 4 32 0 2 [] (20 + 1000) _ S1 hC5 hg3.fine (by omega) 18 hL18).mono ?_); rintro e' wN ⟨rfl, hbL⟩; have HBW4 := btr HBW3 HBW3.size hbL))))
  go_ret
  exact ⟨rfl, HBW4⟩
end Go.Proofs.Ytdfojhkpfbnmgaa
