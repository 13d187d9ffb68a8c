/- leaf.each with Scan's closure. -/
import Derived.Test.YtcpniplfkillbaaLc3
import Derived.Test.YtcpniplfkillbaaLc5
import Derived.Deep.RegionHeld3
import Derived.Deep.DrawnRows
import Derived.Deep.DeepCutAuto
import Derived.Lib.AppendZerosOnto
set_option linter.unusedSimpArgs false
set_option linter.unusedVariables false
set_option maxRecDepth 100000
set_option maxHeartbeats 16000000
namespace Go.Proofs.Ytcpniplfkillbaa
open Go.ChangeShapes Go.WideShapes Go.ChangeAt Go.RowKit
attribute [local go_sem ↓] Go.wp_at_zero Go.wp_at_succ
theorem readB_8 {s : ChS} (h : Bytes8 s.X) (a b c x y : Int) : Bytes8 (s.readB a b c x y) := by
  unfold ChS.readB
  split
  · intro v hv
    exact h v (List.mem_of_mem_drop (List.mem_of_mem_take hv))
  · intro v hv
    simp at hv
theorem readB_le (s : ChS) (a b c x y : Int) (hc : c ≤ 64) : (s.readB a b c x y).length ≤ 1000000 := by
  unfold ChS.readB
  split
  · unfold ChS.pageOf
    rw [List.length_take]
    omega
  · simp
theorem readS_X (s : ChS) (a b x y : Int) : (s.readS a b x y).X = s.X := by
  unfold ChS.readS
  split
  · unfold ChS.tick
    split <;> rfl
  · rfl
theorem ChN.below_ {w w' : World} {L : Nat} {m gx gb : Nat} {Af : Option Addr} {nf cf : Nat} {a b c d e : Int} {fs : List Flt} {s : ChS} (h : ChN w L m gx gb Af nf cf a b c d e fs s) (hb : Below w.heap.size w w') : ChN w' L m gx gb Af nf cf a b c d e fs s := ⟨h.chip.below hb, h.low, h.lowF⟩
theorem ChN.geo {w : World} {L : Nat} {m gx gb : Nat} {Af : Option Addr} {nf cf : Nat} {a b c d e : Int} {fs : List Flt} {s : ChS} (h : ChN w L m gx gb Af nf cf a b c d e fs s) : mayB a b c d e = true ∧ 4 ≤ b ∧ b ≤ 8 ∧ 8 ≤ a ∧ a ≤ 20 ∧ c ≤ 64 := by
  obtain ⟨hm, -, -⟩ := planMay_bd h.chip.may
  obtain ⟨g1, g2, g3, g4, g5, g6, -⟩ := may_bd hm
  exact ⟨hm, g3, g4, g1, g2, g6⟩
structure Evscan (w0 : World) (n0 : Int) (m gx gb : Nat) (Af : Option Addr) (nf cf : Nat) (a b c d e : Int) (fs : List Flt) (L NA NB gs : Nat) (R : Int × List Vis × ChS) (wr : World) (i : Nat) (S : ChS) (acc : List Vis) (x y : Int) : Prop where
  chip : ChN wr L m gx gb Af nf cf a b c d e fs S
  pl : Blk wr w0.heap.size 27 #[.int .i64 x, .int .i64 y]
  pg : ∃ v0 v1 v2 v3 v4 v5, Blk wr (w0.heap.size + 1) 83 #[v0, v1, v2, v3, v4, v5]
  cap : (Cap wr gs (w0.heap.size + 2) (fdsOf acc))
  alen : acc.length ≤ i
  tch : Tch (fun g => chB m gx gb g ∨ g = gs ∨ w0.heap.size ≤ g) w0 wr
  good : Good S (n0 + 3 * (i : Int))
  by8 : Bytes8 S.X
  lt : i < NA * NB
  px : x = ((i / NB : Nat) : Int)
  py : y = ((i % NB : Nat) : Int)
def scanJ1 (w0 : World) (n0 : Int) (m gx gb : Nat) (Af : Option Addr) (nf cf : Nat) (a b c d e : Int) (fs : List Flt) (L NA NB gs : Nat) (R : Int × List Vis × ChS) (n : Nat) (a' : Act) (wr : World) : Prop := ∃ (i : Nat) (S : ChS) (acc : List Vis) (x y : Int) (u : Nat → Value),
  a' = { tmps := #[.pointer (some ⟨m, 0, none⟩), .func (.func 38) #[] #[.pointer (some ⟨gs, 0, none⟩)], u 2, u 3, .int .i64 0, .pointer (some ⟨w0.heap.size, 0, none⟩), .pointer (some ⟨w0.heap.size + 1, 0, none⟩), u 7, u 8, u 9, u 10, u 11, u 12, u 13, u 14, u 15, u 16, u 17, u 18, u 19, u 20, u 21, u 22, u 23, u 24, u 25, u 26, u 27, u 28, u 29, u 30, u 31, u 32, u 33, u 34, u 35], defers := [] } ∧ Evscan w0 n0 m gx gb Af nf cf a b c d e fs L NA NB gs R wr i S acc x y ∧ Hid (walkF a b c NB fs (NA * NB - i) i S acc = R) ∧ 2 * (NA * NB - i) + 1 ≤ n
structure Ewscan (w0 : World) (n0 : Int) (m gx gb : Nat) (Af : Option Addr) (nf cf : Nat) (a b c d e : Int) (fs : List Flt) (L NA NB gs : Nat) (R : Int × List Vis × ChS) (wr : World) (i : Nat) (S : ChS) (acc : List Vis) (x y : Int) : Prop where
  chip : ChN wr L m gx gb Af nf cf a b c d e fs S
  pl : Blk wr w0.heap.size 27 #[.int .i64 x, .int .i64 y]
  pg : ∃ v0 v1 v2 v3 v4 v5, Blk wr (w0.heap.size + 1) 83 #[v0, v1, v2, v3, v4, v5]
  cap : (Cap wr gs (w0.heap.size + 2) (fdsOf acc))
  alen : acc.length ≤ i + 1
  tch : Tch (fun g => chB m gx gb g ∨ g = gs ∨ w0.heap.size ≤ g) w0 wr
  good : Good S (n0 + 3 + 3 * (i : Int))
  by8 : Bytes8 S.X
  lt : i < NA * NB
  px : x = ((i / NB : Nat) : Int)
  py : y = ((i % NB : Nat) : Int)
def scanJ0 (w0 : World) (n0 : Int) (m gx gb : Nat) (Af : Option Addr) (nf cf : Nat) (a b c d e : Int) (fs : List Flt) (L NA NB gs : Nat) (R : Int × List Vis × ChS) (n : Nat) (a' : Act) (wr : World) : Prop := ∃ (i : Nat) (S : ChS) (acc : List Vis) (x y : Int) (u : Nat → Value),
  a' = { tmps := #[.pointer (some ⟨m, 0, none⟩), .func (.func 38) #[] #[.pointer (some ⟨gs, 0, none⟩)], u 2, u 3, .int .i64 0, .pointer (some ⟨w0.heap.size, 0, none⟩), .pointer (some ⟨w0.heap.size + 1, 0, none⟩), u 7, u 8, u 9, u 10, u 11, u 12, u 13, u 14, u 15, u 16, u 17, u 18, u 19, u 20, u 21, u 22, u 23, u 24, u 25, u 26, u 27, u 28, u 29, u 30, u 31, u 32, u 33, u 34, u 35], defers := [] } ∧ Ewscan w0 n0 m gx gb Af nf cf a b c d e fs L NA NB gs R wr i S acc x y ∧ Hid (walkF a b c NB fs (NA * NB - (i + 1)) (i + 1) S acc = R) ∧ 2 * (NA * NB - i) ≤ n
theorem scanJ1.mk {w0 : World} {n0 : Int} {m gx gb : Nat} {Af : Option Addr} {nf cf : Nat} {a b c d e : Int} {fs : List Flt} {L NA NB gs : Nat} {R : Int × List Vis × ChS} {n : Nat} {wr : World} {i : Nat} {S : ChS} {acc : List Vis} {x y : Int} {u2 u3 u7 u8 u9 u10 u11 u12 u13 u14 u15 u16 u17 u18 u19 u20 u21 u22 u23 u24 u25 u26 u27 u28 u29 u30 u31 u32 u33 u34 u35 : Value} (h : Evscan w0 n0 m gx gb Af nf cf a b c d e fs L NA NB gs R wr i S acc x y ∧ Hid (walkF a b c NB fs (NA * NB - i) i S acc = R) ∧ 2 * (NA * NB - i) + 1 ≤ n) : scanJ1 w0 n0 m gx gb Af nf cf a b c d e fs L NA NB gs R n { tmps := #[.pointer (some ⟨m, 0, none⟩), .func (.func 38) #[] #[.pointer (some ⟨gs, 0, none⟩)], u2, u3, .int .i64 0, .pointer (some ⟨w0.heap.size, 0, none⟩), .pointer (some ⟨w0.heap.size + 1, 0, none⟩), u7, u8, u9, u10, u11, u12, u13, u14, u15, u16, u17, u18, u19, u20, u21, u22, u23, u24, u25, u26, u27, u28, u29, u30, u31, u32, u33, u34, u35], defers := [] } wr :=
  ⟨i, S, acc, x, y, fun i => (#[undef, undef, u2, u3, undef, undef, undef, u7, u8, u9, u10, u11, u12, u13, u14, u15, u16, u17, u18, u19, u20, u21, u22, u23, u24, u25, u26, u27, u28, u29, u30, u31, u32, u33, u34, u35] : Array Value).getD i undef, rfl, h⟩
theorem scanJ0.mk {w0 : World} {n0 : Int} {m gx gb : Nat} {Af : Option Addr} {nf cf : Nat} {a b c d e : Int} {fs : List Flt} {L NA NB gs : Nat} {R : Int × List Vis × ChS} {n : Nat} {wr : World} {i : Nat} {S : ChS} {acc : List Vis} {x y : Int} {u2 u3 u7 u8 u9 u10 u11 u12 u13 u14 u15 u16 u17 u18 u19 u20 u21 u22 u23 u24 u25 u26 u27 u28 u29 u30 u31 u32 u33 u34 u35 : Value} (h : Ewscan w0 n0 m gx gb Af nf cf a b c d e fs L NA NB gs R wr i S acc x y ∧ Hid (walkF a b c NB fs (NA * NB - (i + 1)) (i + 1) S acc = R) ∧ 2 * (NA * NB - i) ≤ n) : scanJ0 w0 n0 m gx gb Af nf cf a b c d e fs L NA NB gs R n { tmps := #[.pointer (some ⟨m, 0, none⟩), .func (.func 38) #[] #[.pointer (some ⟨gs, 0, none⟩)], u2, u3, .int .i64 0, .pointer (some ⟨w0.heap.size, 0, none⟩), .pointer (some ⟨w0.heap.size + 1, 0, none⟩), u7, u8, u9, u10, u11, u12, u13, u14, u15, u16, u17, u18, u19, u20, u21, u22, u23, u24, u25, u26, u27, u28, u29, u30, u31, u32, u33, u34, u35], defers := [] } wr :=
  ⟨i, S, acc, x, y, fun i => (#[undef, undef, u2, u3, undef, undef, undef, u7, u8, u9, u10, u11, u12, u13, u14, u15, u16, u17, u18, u19, u20, u21, u22, u23, u24, u25, u26, u27, u28, u29, u30, u31, u32, u33, u34, u35] : Array Value).getD i undef, rfl, h⟩
def scanJ (w0 : World) (n0 : Int) (m gx gb : Nat) (Af : Option Addr) (nf cf : Nat) (a b c d e : Int) (fs : List Flt) (L NA NB gs : Nat) (R : Int × List Vis × ChS) (l n : Nat) (a' : Act) (wr : World) : Prop := (l = 1 ∧ scanJ1 w0 n0 m gx gb Af nf cf a b c d e fs L NA NB gs R n a' wr) ∨ (l = 0 ∧ scanJ0 w0 n0 m gx gb Af nf cf a b c d e fs L NA NB gs R n a' wr)
def scanE (w0 : World) (n0 : Int) (m gx gb : Nat) (Af : Option Addr) (nf cf : Nat) (a b c d e : Int) (fs : List Flt) (L NA NB gs : Nat) (R : Int × List Vis × ChS) (e' : Ending) (w' : World) : Prop := e' = .returned (.int .i64 R.1) ∧ ChipW w' m gx gb Af nf cf a b c d e fs R.2.2 ∧ (Cap w' gs (w0.heap.size + 2) (fdsOf R.2.1)) ∧ R.2.1.length ≤ 160 ∧ Tch (fun g => chB m gx gb g ∨ g = gs) w0 w' ∧ Good R.2.2 (n0 + 1000) ∧ Bytes8 R.2.2.X
theorem bad_v0 (m gx gb : Nat) (Af : Option Addr) (nf cf : Nat) (a b c d e : Int) (fs : List Flt) (B : Int) (W : Bool) (w : World) (s : ChS) (hC : ChipW w m gx gb Af nf cf a b c d e fs s) (hv : Hid (badB fs B = W)) : Calls Try.prog 22 #[.pointer (some ⟨m, 0, none⟩), .int .i64 B] w fun e' w' => e' = .returned (.bool W) ∧ Below w.heap.size w w' := by
  have := bad_any m gx gb Af nf cf a b c d e fs B w s hC
  rwa [hv.out] at this
theorem geometry_0 (m gx gb : Nat) (Af : Option Addr) (nf cf : Nat) (a b c d e : Int) (fs : List Flt) (w : World) (s : ChS) (hC : ChipW w m gx gb Af nf cf a b c d e fs s) : Calls Try.prog 67 #[.pointer (some ⟨m, 0, none⟩)] w fun e' w' => e' = .returned (.agg #[.int .i64 a, .int .i64 b, .int .i64 c, .int .i64 d, .int .i64 e]) ∧ Below w.heap.size w w' := by
  obtain ⟨cx, cb, NX, NB, hX, hN, hcx, hB⟩ := hC.blk
  have hB := hB.alloc_ (.cells #[.int .i64 0, .int .i64 0, .int .i64 0, .int .i64 0, .int .i64 0] 23)
  have HB0 : Below w.heap.size w (w.alloc (.cells #[.int .i64 0, .int .i64 0, .int .i64 0, .int .i64 0, .int .i64 0] 23)) := (Below.refl _ _).alloc (Nat.le_refl _) _
  have y0 := hB.cell_ 0; have y1 := hB.cell_ 1; have y2 := hB.cell_ 2; have y3 := hB.cell_ 3; have y4 := hB.cell_ 4
  simp at y0 y1 y2 y3 y4
  clear hC hB hX hN hcx
  go_enter Try.func67, Try.ntmps67
  go_wp2_with fail
  refine bodyPost_ret (v := .agg #[.int .i64 a, .int .i64 b, .int .i64 c, .int .i64 d, .int .i64 e]) (by simp [results, Try.results67, go_sem]) rfl ⟨rfl, ?_⟩
  exact (Below.refl _ _).alloc (Nat.le_refl _) _
theorem capK {S : Nat → Prop} {w w' : World} {gs base : Nat} {L : List Fd} (h : Cap w gs base L) (hT : Tch S w w') (h1 : ∀ g, (g = gs ∨ base ≤ g) → ¬ S g) : Cap w' gs base L := by
  obtain ⟨⟨v, hB, hR⟩, hlt⟩ := h
  refine ⟨⟨v, hT.blk hB (h1 gs (Or.inl rfl)), ?_⟩, hlt⟩
  obtain ⟨h2, h3⟩ := hR
  refine ⟨h2, ?_⟩
  rcases h3 with h3 | ⟨g', cap, cur, rfl, hb, hh, hr⟩
  · exact Or.inl h3
  · have hlt : g' < w.heap.size := by
      rcases Nat.lt_or_ge g' w.heap.size with hx | hx
      · exact hx
      · rw [Array.getElem?_eq_none hx] at hh
        cases hh
    exact Or.inr ⟨g', cap, cur, rfl, hb, (hT.far g' hlt (h1 g' (Or.inr hb))).trans hh, hr⟩
theorem Blk.ch {w w' : World} {g L m gx gb : Nat} {t : TypeId} {cs : Array Value} (h : Blk w g t cs) (hT : Tch (chB m gx gb) w w') (hlow : ∀ g, chB m gx gb g → g < L) (hg : L ≤ g) : Blk w' g t cs := hT.blk h (fun hc => by have := hlow _ hc; omega)
theorem each_scan (w0 : World) (n0 : Int) (m gx gb : Nat) (Af : Option Addr) (nf cf : Nat) (a b c d e : Int) (fs : List Flt) (L NA NB gs : Nat) (s : ChS) (R : Int × List Vis × ChS) (hC : ChN w0 L m gx gb Af nf cf a b c d e fs s) (hL : L ≤ w0.heap.size) (hgs : L ≤ gs ∧ gs < w0.heap.size) (hcap : (Cap w0 gs (w0.heap.size + 2) (fdsOf []))) (hg : Good s n0) (hn0 : n0 ≤ 800000000) (h8 : Bytes8 s.X) (hNA : (NA : Int) = a) (hNB : (NB : Int) = b) (hR : Hid (walkF a b c NB fs (NA * NB) 0 s [] = R)) :
    Calls Try.prog 37 #[.pointer (some ⟨m, 0, none⟩), .func (.func 38) #[] #[.pointer (some ⟨gs, 0, none⟩)]] w0 fun e' w' => scanE w0 n0 m gx gb Af nf cf a b c d e fs L NA NB gs R e' w' := by
  obtain ⟨hm, g3, g4, g1, g2, g6⟩ := hC.geo
  have hB0 : 0 < NB := by omega
  have hB8 : NB ≤ 8 := by omega
  have hA20 : NA ≤ 20 := by omega
  have hA0 : 0 < NA := by omega
  have hAB2 : NA * NB ≤ 160 := Nat.mul_le_mul hA20 hB8
  have hAB0 : 0 < NA * NB := Nat.mul_pos hA0 hB0
  have HM := Lib.hid hm
  have hlow := hC.low
  have HLAB := Lib.hid (And.intro hNA hNB)
  clear hm
  have HBW : Below w0.heap.size w0 ((w0.alloc (.cells #[.int .i64 0, .int .i64 0] 27)).alloc (.cells #[.slice none 0 0, .int .i64 0, .int .i64 0, .int .i64 0, .int .i64 0, .int .i64 0] 83)) := ((Below.refl _ _).alloc (Nat.le_refl _) _).alloc (by simp) _
  have HP3 : Blk ((w0.alloc (.cells #[.int .i64 0, .int .i64 0] 27)).alloc (.cells #[.slice none 0 0, .int .i64 0, .int .i64 0, .int .i64 0, .int .i64 0, .int .i64 0] 83)) w0.heap.size 27 #[.int .i64 0, .int .i64 0] := (Blk.new_ w0 _ _).alloc_ _
  have HP4 : Blk ((w0.alloc (.cells #[.int .i64 0, .int .i64 0] 27)).alloc (.cells #[.slice none 0 0, .int .i64 0, .int .i64 0, .int .i64 0, .int .i64 0, .int .i64 0] 83)) (w0.heap.size + 1) 83 #[.slice none 0 0, .int .i64 0, .int .i64 0, .int .i64 0, .int .i64 0, .int .i64 0] := blk_new (by simp)
  go_enter Try.func37, Try.ntmps37
  go_wp2
  refine wp_scope_many (scanJ w0 n0 m gx gb Af nf cf a b c d e fs L NA NB gs R) ?_ ?_
  · intro l N a' wr hJ hcut
    have HC := Lib.hid hcut
    clear hcut
    rcases hJ with ⟨rfl, hJ⟩ | ⟨rfl, hJ⟩
    · obtain ⟨i, S, acc, x, y, u, rfl, hE, hW, hN⟩ := hJ
      refine ⟨_, (by simp only [findLabel, Nat.reduceBEq, if_true, if_false, Bool.false_eq_true]; rfl), ?_⟩
      have hi := hE.lt
      have z0 := hE.pl.cell_ 0
      have z1 := hE.pl.cell_ 1
      simp at z0 z1
      obtain ⟨v0, v1, v2, v3, v4, v5, hpg⟩ := hE.pg
      have hstep : NA * NB - i = (NA * NB - (i + 1)) + 1 := by omega
      have HST := Lib.hid hstep
      clear hstep
      rcases (by cases hq : badB fs x <;> simp : badB fs x = true ∨ badB fs x = false) with hb | hb
      · have HBD := Lib.hid hb
        have HW0 : Hid (walkF a b c NB fs (NA * NB - (i + 1)) (i + 1) S acc = R) := Lib.hid (by have h := hW.out; rw [HST.out, walkF_bad (by rw [← hE.px]; exact hb)] at h; exact h)
        clear hb
        go_wp2_with (go_at_call 22; go_loud (((with_reducible refine (bad_v0 m gx gb Af nf cf a b c d e fs _ _ _ S hE.chip.chip HBD).mono ?_); rintro e' wB ⟨rfl, hbB⟩; have hplB := hE.pl.below hbB hE.pl.lt; have zb0 := hplB.cell_ 0; have zb1 := hplB.cell_ 1; simp at zb0 zb1)))
        go_step3
        exact (show ∃ m', m' < N ∧ scanJ w0 n0 m gx gb Af nf cf a b c d e fs L NA NB gs R 0 m' _ _ from ⟨2 * (NA * NB - i), by omega, Or.inr ⟨rfl, scanJ0.mk ⟨⟨hE.chip.below_ hbB, hE.pl.below hbB hE.pl.lt, ⟨_, _, _, _, _, _, hpg.below hbB hpg.lt⟩, capK hE.cap (Tch.of_below (S := fun _ => False) hbB) (fun g hg hS => hS), Nat.le_succ_of_le hE.alen, hE.tch.then hbB, hE.good.mono (by omega), hE.by8, hE.lt, hE.px, hE.py⟩, HW0, Nat.le_refl _⟩⟩⟩)
      have HBD := Lib.hid hb
      obtain ⟨Z, hz⟩ : ∃ Z, S.readZ a b x y = Z := ⟨_, rfl⟩
      obtain ⟨S1, hs1⟩ : ∃ S1, S.readS a b x y = S1 := ⟨_, rfl⟩
      have HG1 : Hid (Good S1 (n0 + 3 + 3 * (i : Int))) := Lib.hid (by rw [← hs1]; exact (hE.good.read a b x y).mono (by omega))
      have HB1 : Hid (Bytes8 S1.X) := Lib.hid (by rw [← hs1, readS_X]; exact hE.by8)
      have hsz : w0.heap.size ≤ wr.heap.size := hE.tch.size
      by_cases hne : Z = 0
      · subst hne
        obtain ⟨bs, hbs⟩ : ∃ bs, S.readB a b c x y = bs := ⟨_, rfl⟩
        have H8B : Bytes8 bs := by rw [← hbs]; exact readB_8 hE.by8 a b c x y
        have HLB : bs.length ≤ 1000000 := by rw [← hbs]; exact readB_le S a b c x y g6
        have HZ := Lib.hid (And.intro hz (And.intro hbs hs1))
        obtain ⟨Dq, nq, Kq, Pq, Sq, Eq, stq, hlk⟩ := Lk.ex bs
        have HLK := Lib.hid hlk
        have HW0 : Hid (walkF a b c NB fs (NA * NB - (i + 1)) (i + 1) S1 (acc ++ [(i / NB, i % NB, bs)]) = R) := Lib.hid (by have h := hW.out; rw [HST.out, walkF_ok (S1 := S1) (bs := bs) (by rw [← hE.px]; exact hb) (by rw [← hE.px, ← hE.py]; exact hz) (by rw [← hE.px, ← hE.py]; exact hs1) (by rw [← hE.px, ← hE.py]; exact hbs)] at h; exact h)
        have HLI : Hid ((fdsOf acc ++ if stq = 1 then [(⟨((i / NB : Nat) : Int), ((i % NB : Nat) : Int), (Kq : Int), (Pq : Int), (Sq : Int), (Eq : Int)⟩ : Fd)] else []) = (if (stq : Int) = 1 then fdsOf acc ++ [(⟨x, y, (Kq : Int), (Pq : Int), (Sq : Int), (Eq : Int)⟩ : Fd)] else fdsOf acc)) := Lib.hid (by
          rw [hE.px, hE.py]
          by_cases h1 : stq = 1
          · rw [if_pos h1, if_pos (by omega)]
          · rw [if_neg h1, if_neg (by omega), List.append_nil])
        clear hb hz hs1 hbs hlk
        go_upto_region 9 with (first | (go_at_call 22; go_loud (((with_reducible refine (bad_v0 m gx gb Af nf cf a b c d e fs _ _ _ S hE.chip.chip HBD).mono ?_); rintro e' wB ⟨rfl, hbB⟩; have hplB := hE.pl.below hbB hE.pl.lt; have zb0 := hplB.cell_ 0; have zb1 := hplB.cell_ 1; simp at zb0 zb1))) | (go_at_call 34; go_loud (((with_reducible refine (look_yes m gx gb Af nf cf a b c d e fs x y (n0 + 3 * (i : Int)) _ S (hE.chip.below_ hbB).chip hE.good.fine (by omega) Dq nq Kq Pq Sq Eq stq S1 bs H8B HLB HZ HLK).mono ?_); rintro e' wL ⟨⟨Aq, cq, rfl, hoq⟩, hCW, hTL⟩; have hCL := (hE.chip.below_ hbB).next hCW; have hG4 := (hpg.below hbB hpg.lt).ch hTL hlow (by omega); have hG3 := (hE.pl.below hbB hE.pl.lt).ch hTL hlow (by omega); have hCP := capK (capK hE.cap (Tch.of_below (S := fun _ => False) hbB) (fun g hg hS => hS)) hTL (fun g hg hS => by have := hlow g hS; rcases hg with rfl | hg <;> omega); have hTT := (hE.tch.then hbB).trans (hTL.mono (S' := (fun g => chB m gx gb g ∨ g = gs ∨ w0.heap.size ≤ g)) (fun g hg => Or.inl hg)); obtain ⟨y0, y1, y2, y3, y4, y5⟩ := cells6 hG4; have y9 := hG4.free))))
        obtain ⟨wz, hwz⟩ : ∃ V : World, V = st6 wL (w0.heap.size + 1) (.slice Aq nq cq) (.int .i64 (Kq : Nat)) (.int .i64 (Pq : Nat)) (.int .i64 (Sq : Nat)) (.int .i64 (Eq : Nat)) (.int .i64 (stq : Nat)) := ⟨_, rfl⟩
        have HZ4 := st6_blk hG4 (.slice Aq nq cq) (.int .i64 (Kq : Nat)) (.int .i64 (Pq : Nat)) (.int .i64 (Sq : Nat)) (.int .i64 (Eq : Nat)) (.int .i64 (stq : Nat))
        have TZ := st6_tch wL (w0.heap.size + 1) (.slice Aq nq cq) (.int .i64 (Kq : Nat)) (.int .i64 (Pq : Nat)) (.int .i64 (Sq : Nat)) (.int .i64 (Eq : Nat)) (.int .i64 (stq : Nat))
        rw [← hwz] at HZ4 TZ
        unfold st6 at hwz
        rw [← hwz]
        clear hwz y0 y1 y2 y3 y4 y5 y9
        have hCZ := hCL.far TZ (fun g hg => by subst hg; omega)
        have hG3Z := TZ.blk hG3 (by omega)
        have hCPZ := capK hCP TZ (fun g hg hS => by subst hS; rcases hg with hg | hg <;> omega)
        have hTZ := hTT.trans (TZ.mono (S' := (fun g => chB m gx gb g ∨ g = gs ∨ w0.heap.size ≤ g)) (fun g hg => by subst hg; exact Or.inr (Or.inr (Nat.le_succ _))))
        have x0 := hG3Z.cell_ 0
        have x1 := hG3Z.cell_ 1
        simp at x0 x1
        obtain ⟨y0, y1, y2, y3, y4, y5⟩ := cells6 HZ4
        go_wp2_with (go_at_call 38; go_loud (((with_reducible refine (scan1_any x y (Kq : Nat) (Pq : Nat) (Sq : Nat) (Eq : Nat) (stq : Nat) Aq nq cq gs (w0.heap.size + 2) (fdsOf acc) _ hCPZ (by have := HZ4.lt; omega) (by have := fdsOf_len acc; have := hE.alen; omega)).mono ?_); rintro e' wS ⟨rfl, hCS, hTS⟩; have hcn := hlow)))
        rename_i K hK
        go_step3
        show K _ _
        refine hK _ _ ?_
        exact HC.out 0 _ _ _ (show 2 * (NA * NB - i) < N by omega) (Or.inr ⟨rfl, scanJ0.mk ⟨⟨hCZ.far hTS (fun g hg => by rcases hg with hg | hg <;> omega), hTS.blk hG3Z (fun hg => by rcases hg with hg | hg <;> omega), ⟨_, _, _, _, _, _, hTS.blk HZ4 (fun hg => by rcases hg with hg | hg <;> omega)⟩, (by rw [fdsOf_snoc, fdOf_lk HLK.out]; have := hCS; rw [HLI.out]; exact this), by rw [List.length_append]; have := hE.alen; simp; omega, hTZ.trans (hTS.mono (S' := (fun g => chB m gx gb g ∨ g = gs ∨ w0.heap.size ≤ g)) (fun g hg => Or.inr (by rcases hg with hg | hg; exact Or.inl hg; exact Or.inr (by omega)))), HG1.out, HB1.out, hE.lt, hE.px, hE.py⟩, HW0, Nat.le_refl _⟩⟩) _ (by kernel_rfl)
      · have HZ := Lib.hid (And.intro (And.intro hz (And.intro trivial hs1)) hne)
        have HRE : Hid (R = (Z, acc, S1)) := Lib.hid (by have h := hW.out; rw [HST.out, walkF_err (S1 := S1) (Z := Z) (by rw [← hE.px]; exact hb) (by rw [← hE.px, ← hE.py]; exact hz) hne (by rw [← hE.px, ← hE.py]; exact hs1)] at h; exact h.symm)
        have hz1 : (Z == 0) = false := by simpa using hne
        have hz2 : (Z != 0) = true := by simpa using hne
        have hal := hE.alen
        clear hb hz hs1 hne
        go_upto_region 9 with (first | (go_at_call 22; go_loud (((with_reducible refine (bad_v0 m gx gb Af nf cf a b c d e fs _ _ _ S hE.chip.chip HBD).mono ?_); rintro e' wB ⟨rfl, hbB⟩; have hplB := hE.pl.below hbB hE.pl.lt; have zb0 := hplB.cell_ 0; have zb1 := hplB.cell_ 1; simp at zb0 zb1))) | (go_at_call 34; go_loud (((with_reducible refine (look_no m gx gb Af nf cf a b c d e fs x y (n0 + 3 * (i : Int)) _ S (hE.chip.below_ hbB).chip hE.good.fine (by omega) Z S1 (Lib.hid HZ.out.1) HZ.out.2).mono ?_); rintro e' wL ⟨rfl, hCW, hTL⟩; have hCL := (hE.chip.below_ hbB).next hCW; have hG4 := (hpg.below hbB hpg.lt).ch hTL hlow (by omega); have hG3 := (hE.pl.below hbB hE.pl.lt).ch hTL hlow (by omega); have hCP := capK (capK hE.cap (Tch.of_below (S := fun _ => False) hbB) (fun g hg hS => hS)) hTL (fun g hg hS => by have := hlow g hS; rcases hg with rfl | hg <;> omega); have hTT := (hE.tch.then hbB).trans (hTL.mono (S' := (fun g => chB m gx gb g ∨ g = gs ∨ w0.heap.size ≤ g)) (fun g hg => Or.inl hg)); obtain ⟨y0, y1, y2, y3, y4, y5⟩ := cells6 hG4; have y9 := hG4.free))))
        obtain ⟨wz, hwz⟩ : ∃ V : World, V = st6 wL (w0.heap.size + 1) (.slice none 0 0) (.int .i64 0) (.int .i64 0) (.int .i64 0) (.int .i64 0) (.int .i64 0) := ⟨_, rfl⟩
        have HZ4 := st6_blk hG4 (.slice none 0 0) (.int .i64 0) (.int .i64 0) (.int .i64 0) (.int .i64 0) (.int .i64 0)
        have TZ := st6_tch wL (w0.heap.size + 1) (.slice none 0 0) (.int .i64 0) (.int .i64 0) (.int .i64 0) (.int .i64 0) (.int .i64 0)
        rw [← hwz] at HZ4 TZ
        unfold st6 at hwz
        rw [← hwz]
        clear hwz y0 y1 y2 y3 y4 y5 y9
        have hCZ := hCL.far TZ (fun g hg => by subst hg; omega)
        have hG3Z := TZ.blk hG3 (by omega)
        have hCPZ := capK hCP TZ (fun g hg hS => by subst hS; rcases hg with hg | hg <;> omega)
        have hTZ := hTT.trans (TZ.mono (S' := (fun g => chB m gx gb g ∨ g = gs ∨ w0.heap.size ≤ g)) (fun g hg => by subst hg; exact Or.inr (Or.inr (Nat.le_succ _))))
        go_wp2_with fail
        refine jumpsQ_ret ?_
        go_ret
        unfold scanE
        rw [HRE.out]
        exact ⟨rfl, hCZ.chip, hCPZ, by show acc.length ≤ 160; omega, hTZ.monoL (fun g hg h => by rcases h with h | h | h; exact Or.inl h; exact Or.inr h; omega), HG1.out.mono (by omega), HB1.out⟩
    · obtain ⟨i, S, acc, x, y, u, rfl, hE, hW, hN⟩ := hJ
      refine ⟨_, (by simp only [findLabel, Nat.reduceBEq, if_true, if_false, Bool.false_eq_true]; rfl), ?_⟩
      have hi := hE.lt
      have z0 := hE.pl.cell_ 0
      have z1 := hE.pl.cell_ 1
      simp at z0 z1
      obtain ⟨v0, v1, v2, v3, v4, v5, hpg⟩ := hE.pg
      have hnx : ∀ (X Y : Int) (T : Bool), Hid (X = (if i + 1 < NA * NB then (((i + 1) / NB : Nat) : Int) else 0) ∧ Y = (if i + 1 < NA * NB then (((i + 1) % NB : Nat) : Int) else 0) ∧ T = decide (i + 1 < NA * NB)) → ∀ w : World, Calls Try.prog 66 #[.agg #[.int .i64 a, .int .i64 b, .int .i64 c, .int .i64 d, .int .i64 e], .agg #[.int .i64 x, .int .i64 y]] w fun e' w' => e' = .returned (.tuple #[.agg #[.int .i64 X, .int .i64 Y], .bool T]) ∧ Below w.heap.size w w' := fun X Y T hX w => by
        rw [hE.px, hE.py]
        exact next_at a b c d e NA NB i w HM.out HLAB.out.1 HLAB.out.2 hB0 hi X Y T hX
      by_cases hl : i + 1 < NA * NB
      · obtain ⟨X, hX⟩ : ∃ X : Int, X = (((i + 1) / NB : Nat) : Int) := ⟨_, rfl⟩
        obtain ⟨Y, hY⟩ : ∃ Y : Int, Y = (((i + 1) % NB : Nat) : Int) := ⟨_, rfl⟩
        have hcn := hnx X Y true (Lib.hid ⟨by rw [if_pos hl]; exact hX, by rw [if_pos hl]; exact hY, (decide_eq_true hl).symm⟩)
        have HXY := Lib.hid (And.intro hX hY)
        clear hnx hX hY
        have hCd : ChipW wr.drew m gx gb Af nf cf a b c d e fs S := hE.chip.chip.like
        go_upto_region 12 with fail
        refine wp_region_noPanic ?_
        refine wp_region_held_drew (S := (fun _ => True)) (by kernel_rfl) ?_ (fun hHeld => ?_)
        · exact trivial
        refine wpAnyH_take (i := 0) (oi := ⟨some 29, .move (.tmp 0), 29, "leaf.go:98", #[], none⟩) (v := ?_) rfl (by kernel_rfl) (by kernel_rfl) (by kernel_rfl) (fun _ _ _ h => h) (Or.inl ⟨by rfl, ?_⟩) (by assumption) ?_; rotate_left; (· (intro wS hSw; (try dsimp only at hSw); go_simp; (try with_reducible rfl))); try simp only [Act.put, pz1, pz2, pz3]
        refine wpAnyH_ready (rs := [1, 2]) (by kernel_rfl) (by simp) ?_
        refine (AllReadyH.cons (o := ⟨some 30, .call { callee := .value (.func 67), args := #[.tmp 29], argTypes := #[29] }, 23, "leaf.go:98", #[⟨0, .data⟩], none⟩) rfl (fun K hK => ?_) (AllReadyH.cons (o := ⟨some 31, .load 27 (.tmp 5), 27, "leaf.go:98", #[], none⟩) rfl (fun K hK => ?_) AllReadyH.nil))
        · go_simp
          (first | (go_at_call 67; go_loud (((with_reducible refine (geometry_0 m gx gb Af nf cf a b c d e fs _ S (by first | exact hE.chip.chip | exact hCd)).mono ?_); rintro e' wG ⟨rfl, hbG⟩; (try have hbG := undrew hbG); have hplG := hE.pl.below hbG hE.pl.lt; have k0 := hplG.cell_ 0; have k1 := hplG.cell_ 1; simp at k0 k1))) | (go_at_call 66; go_loud (((with_reducible refine (hcn _).mono ?_); rintro e' wX ⟨rfl, hbX⟩; have hplX := hplG.below hbX hplG.lt; have q0 := hplX.cell_ 0; have q1 := hplX.cell_ 1; simp at q0 q1; have q9 := hplX.free))))
          go_wp2_with fail
          refine hK.out _ _ ?_ (fun hNew => ?_)
          · exact trivial
          clear hK K hHeld
          have hHeld := hNew
          clear hNew
          try simp only [Act.put, pz1, pz2, pz3]
          refine wpAnyH_ready (rs := [2]) (by kernel_rfl) (by simp) ?_
          refine AllReadyH.cons (o := ⟨some 31, .load 27 (.tmp 5), 27, "leaf.go:98", #[], none⟩) rfl (fun K hK => ?_) AllReadyH.nil
          go_simp
          skip
          refine hK.out _ _ ?_ (fun hNew => ?_)
          · exact trivial
          clear hK K hHeld
          have hHeld := hNew
          clear hNew
          try simp only [Act.put, pz1, pz2, pz3]
          refine wpAnyH_ready (rs := [3]) (by kernel_rfl) (by simp) ?_
          refine AllReadyH.cons (o := ⟨some 32, .call { callee := .value (.func 66), args := #[.tmp 30, .tmp 31], argTypes := #[23, 27] }, 123, "leaf.go:98", #[⟨1, .data⟩, ⟨2, .data⟩, ⟨1, .chain⟩], none⟩) rfl (fun K hK => ?_) AllReadyH.nil
          go_simp
          (first | (go_at_call 67; go_loud (((with_reducible refine (geometry_0 m gx gb Af nf cf a b c d e fs _ S (by first | exact hE.chip.chip | exact hCd)).mono ?_); rintro e' wG ⟨rfl, hbG⟩; (try have hbG := undrew hbG); have hplG := hE.pl.below hbG hE.pl.lt; have k0 := hplG.cell_ 0; have k1 := hplG.cell_ 1; simp at k0 k1))) | (go_at_call 66; go_loud (((with_reducible refine (hcn _).mono ?_); rintro e' wX ⟨rfl, hbX⟩; have hplX := hplG.below hbX hplG.lt; have q0 := hplX.cell_ 0; have q1 := hplX.cell_ 1; simp at q0 q1; have q9 := hplX.free))))
          go_wp2_with fail
          refine hK.out _ _ ?_ (fun hNew => ?_)
          · exact trivial
          clear hK K hHeld
          have hHeld := hNew
          clear hNew
          try simp only [Act.put, pz1, pz2, pz3]
          refine wpAnyH_take (i := 4) (oi := ⟨some 28, .move (.tmp 32), 123, "leaf.go:98", #[⟨3, .data⟩], none⟩) (v := ?_) rfl (by kernel_rfl) (by kernel_rfl) (by kernel_rfl) (fun _ _ _ h => h) (Or.inl ⟨by rfl, ?_⟩) (by assumption) ?_; rotate_left; (· (intro wS hSw; (try dsimp only at hSw); go_simp; (try with_reducible rfl))); try simp only [Act.put, pz1, pz2, pz3]
          refine wpAnyH_take (i := 5) (oi := ⟨some 33, .extract (.tmp 28) 0, 27, "leaf.go:98", #[⟨4, .data⟩], none⟩) (v := ?_) rfl (by kernel_rfl) (by kernel_rfl) (by kernel_rfl) (fun _ _ _ h => h) (Or.inl ⟨by rfl, ?_⟩) (by assumption) ?_; rotate_left; (· (intro wS hSw; (try dsimp only at hSw); go_simp; (try with_reducible rfl))); try simp only [Act.put, pz1, pz2, pz3]
          refine wpAnyH_take (i := 6) (oi := ⟨some 34, .extract (.tmp 28) 1, 4, "leaf.go:98", #[⟨4, .data⟩, { on := 7, ground := Ground.gcOnly Departure.lateStores }], none⟩) (v := ?_) rfl (by kernel_rfl) (by kernel_rfl) (by kernel_rfl) (fun _ _ _ h => h) (Or.inl ⟨by rfl, ?_⟩) (by assumption) ?_; rotate_left; (· (intro wS hSw; (try dsimp only at hSw); go_simp; (try with_reducible rfl))); try simp only [Act.put, pz1, pz2, pz3]
          refine wpAnyH_ready (rs := [7]) (by kernel_rfl) (by simp) ?_
          refine AllReadyH.cons (o := ⟨none, .store 27 (.tmp 5) (.tmp 33), 0, "leaf.go:98", #[⟨5, .data⟩, ⟨3, .chain⟩, ⟨0, .phase⟩, ⟨1, .phase⟩, ⟨2, .phase⟩, ⟨3, .phase⟩, ⟨4, .phase⟩, ⟨5, .phase⟩, { on := 6, ground := Ground.textOnly Departure.lateStores }], none⟩) rfl (fun K hK => ?_) AllReadyH.nil
          go_simp
          skip
          refine hK.out _ _ ?_ (fun hNew => ?_)
          · exact trivial
          clear hK K hHeld
          have hHeld := hNew
          clear hNew
          try simp only [Act.put, pz1, pz2, pz3]
          refine wpAnyH_take (i := 8) (oi := ⟨some 8, .assign (.tmp 34), 4, "leaf.go:98", #[⟨6, .data⟩, ⟨7, .chain⟩, ⟨0, .phase⟩, ⟨1, .phase⟩, ⟨2, .phase⟩, ⟨3, .phase⟩, ⟨4, .phase⟩, ⟨5, .phase⟩, ⟨6, .phase⟩, ⟨7, .phase⟩], none⟩) (v := ?_) rfl (by kernel_rfl) (by kernel_rfl) (by kernel_rfl) (fun _ _ _ h => h) (Or.inl ⟨by rfl, ?_⟩) (by assumption) ?_; rotate_left; (· (intro wS hSw; (try dsimp only at hSw); go_simp; (try with_reducible rfl))); try simp only [Act.put, pz1, pz2, pz3]
          refine wpAnyH_done (by kernel_rfl) ?_ _
          refine NoPanic.normal ?_
          clear hHeld
          go_wp2_with fail
          obtain ⟨wz, hwz⟩ : ∃ V : World, V = (wX.setCell ⟨w0.heap.size, 0, none⟩ (.int .i64 X)).setCell ⟨w0.heap.size, 1, none⟩ (.int .i64 Y) := ⟨_, rfl⟩
          have HZ3 : Blk ((wX.setCell ⟨w0.heap.size, 0, none⟩ (.int .i64 X)).setCell ⟨w0.heap.size, 1, none⟩ (.int .i64 Y)) w0.heap.size 27 #[.int .i64 X, .int .i64 Y] := (hplX.set_ 0 (.int .i64 X)).set_ 1 (.int .i64 Y)
          have TZ := (Tch.setm wX w0.heap.size 0 (.int .i64 X)).trans (Tch.setm _ w0.heap.size 1 (.int .i64 Y))
          rw [← hwz] at HZ3 TZ
          rw [← hwz]
          clear hwz
          have hCX := ((hE.chip.below_ hbG).below_ hbX).far TZ (fun g hg => by subst hg; omega)
          have hG4X := TZ.blk ((hpg.below hbG hpg.lt).below hbX (hpg.below hbG hpg.lt).lt) (by omega)
          have hCPX := capK (capK (capK hE.cap (Tch.of_below (S := fun _ => False) hbG) (fun g hg hS => hS)) (Tch.of_below (S := fun _ => False) hbX) (fun g hg hS => hS)) TZ (fun g hg hS => by subst hS; rcases hg with hg | hg <;> omega)
          have hTX := ((hE.tch.then hbG).then hbX).trans (TZ.mono (S' := (fun g => chB m gx gb g ∨ g = gs ∨ w0.heap.size ≤ g)) (fun g hg => by subst hg; exact Or.inr (Or.inr (Nat.le_refl _))))
          go_step3
          exact (show ∃ m', m' < N ∧ scanJ w0 n0 m gx gb Af nf cf a b c d e fs L NA NB gs R 1 m' _ _ from ⟨2 * (NA * NB - (i + 1)) + 1, by omega, Or.inl ⟨rfl, scanJ1.mk ⟨⟨hCX, HZ3, ⟨_, _, _, _, _, _, hG4X⟩, hCPX, hE.alen, hTX, hE.good.mono (by omega), hE.by8, hl, HXY.out.1, HXY.out.2⟩, hW, Nat.le_refl _⟩⟩⟩)
        · go_simp
          skip
          refine hK.out _ _ ?_ (fun hNew => ?_)
          · exact trivial
          clear hK K hHeld
          have hHeld := hNew
          clear hNew
          try simp only [Act.put, pz1, pz2, pz3]
          refine wpAnyH_ready (rs := [1]) (by kernel_rfl) (by simp) ?_
          refine AllReadyH.cons (o := ⟨some 30, .call { callee := .value (.func 67), args := #[.tmp 29], argTypes := #[29] }, 23, "leaf.go:98", #[⟨0, .data⟩], none⟩) rfl (fun K hK => ?_) AllReadyH.nil
          go_simp
          (first | (go_at_call 67; go_loud (((with_reducible refine (geometry_0 m gx gb Af nf cf a b c d e fs _ S (by first | exact hE.chip.chip | exact hCd)).mono ?_); rintro e' wG ⟨rfl, hbG⟩; (try have hbG := undrew hbG); have hplG := hE.pl.below hbG hE.pl.lt; have k0 := hplG.cell_ 0; have k1 := hplG.cell_ 1; simp at k0 k1))) | (go_at_call 66; go_loud (((with_reducible refine (hcn _).mono ?_); rintro e' wX ⟨rfl, hbX⟩; have hplX := hplG.below hbX hplG.lt; have q0 := hplX.cell_ 0; have q1 := hplX.cell_ 1; simp at q0 q1; have q9 := hplX.free))))
          go_wp2_with fail
          refine hK.out _ _ ?_ (fun hNew => ?_)
          · exact trivial
          clear hK K hHeld
          have hHeld := hNew
          clear hNew
          try simp only [Act.put, pz1, pz2, pz3]
          refine wpAnyH_ready (rs := [3]) (by kernel_rfl) (by simp) ?_
          refine AllReadyH.cons (o := ⟨some 32, .call { callee := .value (.func 66), args := #[.tmp 30, .tmp 31], argTypes := #[23, 27] }, 123, "leaf.go:98", #[⟨1, .data⟩, ⟨2, .data⟩, ⟨1, .chain⟩], none⟩) rfl (fun K hK => ?_) AllReadyH.nil
          go_simp
          (first | (go_at_call 67; go_loud (((with_reducible refine (geometry_0 m gx gb Af nf cf a b c d e fs _ S (by first | exact hE.chip.chip | exact hCd)).mono ?_); rintro e' wG ⟨rfl, hbG⟩; (try have hbG := undrew hbG); have hplG := hE.pl.below hbG hE.pl.lt; have k0 := hplG.cell_ 0; have k1 := hplG.cell_ 1; simp at k0 k1))) | (go_at_call 66; go_loud (((with_reducible refine (hcn _).mono ?_); rintro e' wX ⟨rfl, hbX⟩; have hplX := hplG.below hbX hplG.lt; have q0 := hplX.cell_ 0; have q1 := hplX.cell_ 1; simp at q0 q1; have q9 := hplX.free))))
          go_wp2_with fail
          refine hK.out _ _ ?_ (fun hNew => ?_)
          · exact trivial
          clear hK K hHeld
          have hHeld := hNew
          clear hNew
          try simp only [Act.put, pz1, pz2, pz3]
          refine wpAnyH_take (i := 4) (oi := ⟨some 28, .move (.tmp 32), 123, "leaf.go:98", #[⟨3, .data⟩], none⟩) (v := ?_) rfl (by kernel_rfl) (by kernel_rfl) (by kernel_rfl) (fun _ _ _ h => h) (Or.inl ⟨by rfl, ?_⟩) (by assumption) ?_; rotate_left; (· (intro wS hSw; (try dsimp only at hSw); go_simp; (try with_reducible rfl))); try simp only [Act.put, pz1, pz2, pz3]
          refine wpAnyH_take (i := 5) (oi := ⟨some 33, .extract (.tmp 28) 0, 27, "leaf.go:98", #[⟨4, .data⟩], none⟩) (v := ?_) rfl (by kernel_rfl) (by kernel_rfl) (by kernel_rfl) (fun _ _ _ h => h) (Or.inl ⟨by rfl, ?_⟩) (by assumption) ?_; rotate_left; (· (intro wS hSw; (try dsimp only at hSw); go_simp; (try with_reducible rfl))); try simp only [Act.put, pz1, pz2, pz3]
          refine wpAnyH_take (i := 6) (oi := ⟨some 34, .extract (.tmp 28) 1, 4, "leaf.go:98", #[⟨4, .data⟩, { on := 7, ground := Ground.gcOnly Departure.lateStores }], none⟩) (v := ?_) rfl (by kernel_rfl) (by kernel_rfl) (by kernel_rfl) (fun _ _ _ h => h) (Or.inl ⟨by rfl, ?_⟩) (by assumption) ?_; rotate_left; (· (intro wS hSw; (try dsimp only at hSw); go_simp; (try with_reducible rfl))); try simp only [Act.put, pz1, pz2, pz3]
          refine wpAnyH_ready (rs := [7]) (by kernel_rfl) (by simp) ?_
          refine AllReadyH.cons (o := ⟨none, .store 27 (.tmp 5) (.tmp 33), 0, "leaf.go:98", #[⟨5, .data⟩, ⟨3, .chain⟩, ⟨0, .phase⟩, ⟨1, .phase⟩, ⟨2, .phase⟩, ⟨3, .phase⟩, ⟨4, .phase⟩, ⟨5, .phase⟩, { on := 6, ground := Ground.textOnly Departure.lateStores }], none⟩) rfl (fun K hK => ?_) AllReadyH.nil
          go_simp
          skip
          refine hK.out _ _ ?_ (fun hNew => ?_)
          · exact trivial
          clear hK K hHeld
          have hHeld := hNew
          clear hNew
          try simp only [Act.put, pz1, pz2, pz3]
          refine wpAnyH_take (i := 8) (oi := ⟨some 8, .assign (.tmp 34), 4, "leaf.go:98", #[⟨6, .data⟩, ⟨7, .chain⟩, ⟨0, .phase⟩, ⟨1, .phase⟩, ⟨2, .phase⟩, ⟨3, .phase⟩, ⟨4, .phase⟩, ⟨5, .phase⟩, ⟨6, .phase⟩, ⟨7, .phase⟩], none⟩) (v := ?_) rfl (by kernel_rfl) (by kernel_rfl) (by kernel_rfl) (fun _ _ _ h => h) (Or.inl ⟨by rfl, ?_⟩) (by assumption) ?_; rotate_left; (· (intro wS hSw; (try dsimp only at hSw); go_simp; (try with_reducible rfl))); try simp only [Act.put, pz1, pz2, pz3]
          refine wpAnyH_done (by kernel_rfl) ?_ _
          refine NoPanic.normal ?_
          clear hHeld
          go_wp2_with fail
          obtain ⟨wz, hwz⟩ : ∃ V : World, V = (wX.setCell ⟨w0.heap.size, 0, none⟩ (.int .i64 X)).setCell ⟨w0.heap.size, 1, none⟩ (.int .i64 Y) := ⟨_, rfl⟩
          have HZ3 : Blk ((wX.setCell ⟨w0.heap.size, 0, none⟩ (.int .i64 X)).setCell ⟨w0.heap.size, 1, none⟩ (.int .i64 Y)) w0.heap.size 27 #[.int .i64 X, .int .i64 Y] := (hplX.set_ 0 (.int .i64 X)).set_ 1 (.int .i64 Y)
          have TZ := (Tch.setm wX w0.heap.size 0 (.int .i64 X)).trans (Tch.setm _ w0.heap.size 1 (.int .i64 Y))
          rw [← hwz] at HZ3 TZ
          rw [← hwz]
          clear hwz
          have hCX := ((hE.chip.below_ hbG).below_ hbX).far TZ (fun g hg => by subst hg; omega)
          have hG4X := TZ.blk ((hpg.below hbG hpg.lt).below hbX (hpg.below hbG hpg.lt).lt) (by omega)
          have hCPX := capK (capK (capK hE.cap (Tch.of_below (S := fun _ => False) hbG) (fun g hg hS => hS)) (Tch.of_below (S := fun _ => False) hbX) (fun g hg hS => hS)) TZ (fun g hg hS => by subst hS; rcases hg with hg | hg <;> omega)
          have hTX := ((hE.tch.then hbG).then hbX).trans (TZ.mono (S' := (fun g => chB m gx gb g ∨ g = gs ∨ w0.heap.size ≤ g)) (fun g hg => by subst hg; exact Or.inr (Or.inr (Nat.le_refl _))))
          go_step3
          exact (show ∃ m', m' < N ∧ scanJ w0 n0 m gx gb Af nf cf a b c d e fs L NA NB gs R 1 m' _ _ from ⟨2 * (NA * NB - (i + 1)) + 1, by omega, Or.inl ⟨rfl, scanJ1.mk ⟨⟨hCX, HZ3, ⟨_, _, _, _, _, _, hG4X⟩, hCPX, hE.alen, hTX, hE.good.mono (by omega), hE.by8, hl, HXY.out.1, HXY.out.2⟩, hW, Nat.le_refl _⟩⟩⟩)
      · have hcn := hnx 0 0 false (Lib.hid ⟨by rw [if_neg hl], by rw [if_neg hl], (decide_eq_false hl).symm⟩)
        have HRE : Hid (R = (0, acc, S)) := Lib.hid (by have h := hW.out; rw [show NA * NB - (i + 1) = 0 by omega] at h; exact h.symm)
        have hal := hE.alen
        have hCd : ChipW wr.drew m gx gb Af nf cf a b c d e fs S := hE.chip.chip.like
        clear hnx
        go_upto_region 12 with fail
        refine wp_region_noPanic ?_
        refine wp_region_held_drew (S := (fun _ => True)) (by kernel_rfl) ?_ (fun hHeld => ?_)
        · exact trivial
        refine wpAnyH_take (i := 0) (oi := ⟨some 29, .move (.tmp 0), 29, "leaf.go:98", #[], none⟩) (v := ?_) rfl (by kernel_rfl) (by kernel_rfl) (by kernel_rfl) (fun _ _ _ h => h) (Or.inl ⟨by rfl, ?_⟩) (by assumption) ?_; rotate_left; (· (intro wS hSw; (try dsimp only at hSw); go_simp; (try with_reducible rfl))); try simp only [Act.put, pz1, pz2, pz3]
        refine wpAnyH_ready (rs := [1, 2]) (by kernel_rfl) (by simp) ?_
        refine (AllReadyH.cons (o := ⟨some 30, .call { callee := .value (.func 67), args := #[.tmp 29], argTypes := #[29] }, 23, "leaf.go:98", #[⟨0, .data⟩], none⟩) rfl (fun K hK => ?_) (AllReadyH.cons (o := ⟨some 31, .load 27 (.tmp 5), 27, "leaf.go:98", #[], none⟩) rfl (fun K hK => ?_) AllReadyH.nil))
        · go_simp
          (first | (go_at_call 67; go_loud (((with_reducible refine (geometry_0 m gx gb Af nf cf a b c d e fs _ S (by first | exact hE.chip.chip | exact hCd)).mono ?_); rintro e' wG ⟨rfl, hbG⟩; (try have hbG := undrew hbG); have hplG := hE.pl.below hbG hE.pl.lt; have k0 := hplG.cell_ 0; have k1 := hplG.cell_ 1; simp at k0 k1))) | (go_at_call 66; go_loud (((with_reducible refine (hcn _).mono ?_); rintro e' wX ⟨rfl, hbX⟩; have hplX := hplG.below hbX hplG.lt; have q0 := hplX.cell_ 0; have q1 := hplX.cell_ 1; simp at q0 q1; have q9 := hplX.free))))
          go_wp2_with fail
          refine hK.out _ _ ?_ (fun hNew => ?_)
          · exact trivial
          clear hK K hHeld
          have hHeld := hNew
          clear hNew
          try simp only [Act.put, pz1, pz2, pz3]
          refine wpAnyH_ready (rs := [2]) (by kernel_rfl) (by simp) ?_
          refine AllReadyH.cons (o := ⟨some 31, .load 27 (.tmp 5), 27, "leaf.go:98", #[], none⟩) rfl (fun K hK => ?_) AllReadyH.nil
          go_simp
          skip
          refine hK.out _ _ ?_ (fun hNew => ?_)
          · exact trivial
          clear hK K hHeld
          have hHeld := hNew
          clear hNew
          try simp only [Act.put, pz1, pz2, pz3]
          refine wpAnyH_ready (rs := [3]) (by kernel_rfl) (by simp) ?_
          refine AllReadyH.cons (o := ⟨some 32, .call { callee := .value (.func 66), args := #[.tmp 30, .tmp 31], argTypes := #[23, 27] }, 123, "leaf.go:98", #[⟨1, .data⟩, ⟨2, .data⟩, ⟨1, .chain⟩], none⟩) rfl (fun K hK => ?_) AllReadyH.nil
          go_simp
          (first | (go_at_call 67; go_loud (((with_reducible refine (geometry_0 m gx gb Af nf cf a b c d e fs _ S (by first | exact hE.chip.chip | exact hCd)).mono ?_); rintro e' wG ⟨rfl, hbG⟩; (try have hbG := undrew hbG); have hplG := hE.pl.below hbG hE.pl.lt; have k0 := hplG.cell_ 0; have k1 := hplG.cell_ 1; simp at k0 k1))) | (go_at_call 66; go_loud (((with_reducible refine (hcn _).mono ?_); rintro e' wX ⟨rfl, hbX⟩; have hplX := hplG.below hbX hplG.lt; have q0 := hplX.cell_ 0; have q1 := hplX.cell_ 1; simp at q0 q1; have q9 := hplX.free))))
          go_wp2_with fail
          refine hK.out _ _ ?_ (fun hNew => ?_)
          · exact trivial
          clear hK K hHeld
          have hHeld := hNew
          clear hNew
          try simp only [Act.put, pz1, pz2, pz3]
          refine wpAnyH_take (i := 4) (oi := ⟨some 28, .move (.tmp 32), 123, "leaf.go:98", #[⟨3, .data⟩], none⟩) (v := ?_) rfl (by kernel_rfl) (by kernel_rfl) (by kernel_rfl) (fun _ _ _ h => h) (Or.inl ⟨by rfl, ?_⟩) (by assumption) ?_; rotate_left; (· (intro wS hSw; (try dsimp only at hSw); go_simp; (try with_reducible rfl))); try simp only [Act.put, pz1, pz2, pz3]
          refine wpAnyH_take (i := 5) (oi := ⟨some 33, .extract (.tmp 28) 0, 27, "leaf.go:98", #[⟨4, .data⟩], none⟩) (v := ?_) rfl (by kernel_rfl) (by kernel_rfl) (by kernel_rfl) (fun _ _ _ h => h) (Or.inl ⟨by rfl, ?_⟩) (by assumption) ?_; rotate_left; (· (intro wS hSw; (try dsimp only at hSw); go_simp; (try with_reducible rfl))); try simp only [Act.put, pz1, pz2, pz3]
          refine wpAnyH_take (i := 6) (oi := ⟨some 34, .extract (.tmp 28) 1, 4, "leaf.go:98", #[⟨4, .data⟩, { on := 7, ground := Ground.gcOnly Departure.lateStores }], none⟩) (v := ?_) rfl (by kernel_rfl) (by kernel_rfl) (by kernel_rfl) (fun _ _ _ h => h) (Or.inl ⟨by rfl, ?_⟩) (by assumption) ?_; rotate_left; (· (intro wS hSw; (try dsimp only at hSw); go_simp; (try with_reducible rfl))); try simp only [Act.put, pz1, pz2, pz3]
          refine wpAnyH_ready (rs := [7]) (by kernel_rfl) (by simp) ?_
          refine AllReadyH.cons (o := ⟨none, .store 27 (.tmp 5) (.tmp 33), 0, "leaf.go:98", #[⟨5, .data⟩, ⟨3, .chain⟩, ⟨0, .phase⟩, ⟨1, .phase⟩, ⟨2, .phase⟩, ⟨3, .phase⟩, ⟨4, .phase⟩, ⟨5, .phase⟩, { on := 6, ground := Ground.textOnly Departure.lateStores }], none⟩) rfl (fun K hK => ?_) AllReadyH.nil
          go_simp
          skip
          refine hK.out _ _ ?_ (fun hNew => ?_)
          · exact trivial
          clear hK K hHeld
          have hHeld := hNew
          clear hNew
          try simp only [Act.put, pz1, pz2, pz3]
          refine wpAnyH_take (i := 8) (oi := ⟨some 8, .assign (.tmp 34), 4, "leaf.go:98", #[⟨6, .data⟩, ⟨7, .chain⟩, ⟨0, .phase⟩, ⟨1, .phase⟩, ⟨2, .phase⟩, ⟨3, .phase⟩, ⟨4, .phase⟩, ⟨5, .phase⟩, ⟨6, .phase⟩, ⟨7, .phase⟩], none⟩) (v := ?_) rfl (by kernel_rfl) (by kernel_rfl) (by kernel_rfl) (fun _ _ _ h => h) (Or.inl ⟨by rfl, ?_⟩) (by assumption) ?_; rotate_left; (· (intro wS hSw; (try dsimp only at hSw); go_simp; (try with_reducible rfl))); try simp only [Act.put, pz1, pz2, pz3]
          refine wpAnyH_done (by kernel_rfl) ?_ _
          refine NoPanic.normal ?_
          clear hHeld
          go_wp2_with fail
          obtain ⟨wz, hwz⟩ : ∃ V : World, V = (wX.setCell ⟨w0.heap.size, 0, none⟩ (.int .i64 0)).setCell ⟨w0.heap.size, 1, none⟩ (.int .i64 0) := ⟨_, rfl⟩
          have HZ3 : Blk ((wX.setCell ⟨w0.heap.size, 0, none⟩ (.int .i64 0)).setCell ⟨w0.heap.size, 1, none⟩ (.int .i64 0)) w0.heap.size 27 #[.int .i64 0, .int .i64 0] := (hplX.set_ 0 (.int .i64 0)).set_ 1 (.int .i64 0)
          have TZ := (Tch.setm wX w0.heap.size 0 (.int .i64 0)).trans (Tch.setm _ w0.heap.size 1 (.int .i64 0))
          rw [← hwz] at HZ3 TZ
          rw [← hwz]
          clear hwz
          have hCX := ((hE.chip.below_ hbG).below_ hbX).far TZ (fun g hg => by subst hg; omega)
          have hG4X := TZ.blk ((hpg.below hbG hpg.lt).below hbX (hpg.below hbG hpg.lt).lt) (by omega)
          have hCPX := capK (capK (capK hE.cap (Tch.of_below (S := fun _ => False) hbG) (fun g hg hS => hS)) (Tch.of_below (S := fun _ => False) hbX) (fun g hg hS => hS)) TZ (fun g hg hS => by subst hS; rcases hg with hg | hg <;> omega)
          have hTX := ((hE.tch.then hbG).then hbX).trans (TZ.mono (S' := (fun g => chB m gx gb g ∨ g = gs ∨ w0.heap.size ≤ g)) (fun g hg => by subst hg; exact Or.inr (Or.inr (Nat.le_refl _))))
          refine jumpsQ_ret ?_
          go_ret
          unfold scanE
          rw [HRE.out]
          exact ⟨rfl, hCX.chip, hCPX, by show acc.length ≤ 160; omega, hTX.monoL (fun g hg h => by rcases h with h | h | h; exact Or.inl h; exact Or.inr h; omega), hE.good.mono (by omega), hE.by8⟩
        · go_simp
          skip
          refine hK.out _ _ ?_ (fun hNew => ?_)
          · exact trivial
          clear hK K hHeld
          have hHeld := hNew
          clear hNew
          try simp only [Act.put, pz1, pz2, pz3]
          refine wpAnyH_ready (rs := [1]) (by kernel_rfl) (by simp) ?_
          refine AllReadyH.cons (o := ⟨some 30, .call { callee := .value (.func 67), args := #[.tmp 29], argTypes := #[29] }, 23, "leaf.go:98", #[⟨0, .data⟩], none⟩) rfl (fun K hK => ?_) AllReadyH.nil
          go_simp
          (first | (go_at_call 67; go_loud (((with_reducible refine (geometry_0 m gx gb Af nf cf a b c d e fs _ S (by first | exact hE.chip.chip | exact hCd)).mono ?_); rintro e' wG ⟨rfl, hbG⟩; (try have hbG := undrew hbG); have hplG := hE.pl.below hbG hE.pl.lt; have k0 := hplG.cell_ 0; have k1 := hplG.cell_ 1; simp at k0 k1))) | (go_at_call 66; go_loud (((with_reducible refine (hcn _).mono ?_); rintro e' wX ⟨rfl, hbX⟩; have hplX := hplG.below hbX hplG.lt; have q0 := hplX.cell_ 0; have q1 := hplX.cell_ 1; simp at q0 q1; have q9 := hplX.free))))
          go_wp2_with fail
          refine hK.out _ _ ?_ (fun hNew => ?_)
          · exact trivial
          clear hK K hHeld
          have hHeld := hNew
          clear hNew
          try simp only [Act.put, pz1, pz2, pz3]
          refine wpAnyH_ready (rs := [3]) (by kernel_rfl) (by simp) ?_
          refine AllReadyH.cons (o := ⟨some 32, .call { callee := .value (.func 66), args := #[.tmp 30, .tmp 31], argTypes := #[23, 27] }, 123, "leaf.go:98", #[⟨1, .data⟩, ⟨2, .data⟩, ⟨1, .chain⟩], none⟩) rfl (fun K hK => ?_) AllReadyH.nil
          go_simp
          (first | (go_at_call 67; go_loud (((with_reducible refine (geometry_0 m gx gb Af nf cf a b c d e fs _ S (by first | exact hE.chip.chip | exact hCd)).mono ?_); rintro e' wG ⟨rfl, hbG⟩; (try have hbG := undrew hbG); have hplG := hE.pl.below hbG hE.pl.lt; have k0 := hplG.cell_ 0; have k1 := hplG.cell_ 1; simp at k0 k1))) | (go_at_call 66; go_loud (((with_reducible refine (hcn _).mono ?_); rintro e' wX ⟨rfl, hbX⟩; have hplX := hplG.below hbX hplG.lt; have q0 := hplX.cell_ 0; have q1 := hplX.cell_ 1; simp at q0 q1; have q9 := hplX.free))))
          go_wp2_with fail
          refine hK.out _ _ ?_ (fun hNew => ?_)
          · exact trivial
          clear hK K hHeld
          have hHeld := hNew
          clear hNew
          try simp only [Act.put, pz1, pz2, pz3]
          refine wpAnyH_take (i := 4) (oi := ⟨some 28, .move (.tmp 32), 123, "leaf.go:98", #[⟨3, .data⟩], none⟩) (v := ?_) rfl (by kernel_rfl) (by kernel_rfl) (by kernel_rfl) (fun _ _ _ h => h) (Or.inl ⟨by rfl, ?_⟩) (by assumption) ?_; rotate_left; (· (intro wS hSw; (try dsimp only at hSw); go_simp; (try with_reducible rfl))); try simp only [Act.put, pz1, pz2, pz3]
          refine wpAnyH_take (i := 5) (oi := ⟨some 33, .extract (.tmp 28) 0, 27, "leaf.go:98", #[⟨4, .data⟩], none⟩) (v := ?_) rfl (by kernel_rfl) (by kernel_rfl) (by kernel_rfl) (fun _ _ _ h => h) (Or.inl ⟨by rfl, ?_⟩) (by assumption) ?_; rotate_left; (· (intro wS hSw; (try dsimp only at hSw); go_simp; (try with_reducible rfl))); try simp only [Act.put, pz1, pz2, pz3]
          refine wpAnyH_take (i := 6) (oi := ⟨some 34, .extract (.tmp 28) 1, 4, "leaf.go:98", #[⟨4, .data⟩, { on := 7, ground := Ground.gcOnly Departure.lateStores }], none⟩) (v := ?_) rfl (by kernel_rfl) (by kernel_rfl) (by kernel_rfl) (fun _ _ _ h => h) (Or.inl ⟨by rfl, ?_⟩) (by assumption) ?_; rotate_left; (· (intro wS hSw; (try dsimp only at hSw); go_simp; (try with_reducible rfl))); try simp only [Act.put, pz1, pz2, pz3]
          refine wpAnyH_ready (rs := [7]) (by kernel_rfl) (by simp) ?_
          refine AllReadyH.cons (o := ⟨none, .store 27 (.tmp 5) (.tmp 33), 0, "leaf.go:98", #[⟨5, .data⟩, ⟨3, .chain⟩, ⟨0, .phase⟩, ⟨1, .phase⟩, ⟨2, .phase⟩, ⟨3, .phase⟩, ⟨4, .phase⟩, ⟨5, .phase⟩, { on := 6, ground := Ground.textOnly Departure.lateStores }], none⟩) rfl (fun K hK => ?_) AllReadyH.nil
          go_simp
          skip
          refine hK.out _ _ ?_ (fun hNew => ?_)
          · exact trivial
          clear hK K hHeld
          have hHeld := hNew
          clear hNew
          try simp only [Act.put, pz1, pz2, pz3]
          refine wpAnyH_take (i := 8) (oi := ⟨some 8, .assign (.tmp 34), 4, "leaf.go:98", #[⟨6, .data⟩, ⟨7, .chain⟩, ⟨0, .phase⟩, ⟨1, .phase⟩, ⟨2, .phase⟩, ⟨3, .phase⟩, ⟨4, .phase⟩, ⟨5, .phase⟩, ⟨6, .phase⟩, ⟨7, .phase⟩], none⟩) (v := ?_) rfl (by kernel_rfl) (by kernel_rfl) (by kernel_rfl) (fun _ _ _ h => h) (Or.inl ⟨by rfl, ?_⟩) (by assumption) ?_; rotate_left; (· (intro wS hSw; (try dsimp only at hSw); go_simp; (try with_reducible rfl))); try simp only [Act.put, pz1, pz2, pz3]
          refine wpAnyH_done (by kernel_rfl) ?_ _
          refine NoPanic.normal ?_
          clear hHeld
          go_wp2_with fail
          obtain ⟨wz, hwz⟩ : ∃ V : World, V = (wX.setCell ⟨w0.heap.size, 0, none⟩ (.int .i64 0)).setCell ⟨w0.heap.size, 1, none⟩ (.int .i64 0) := ⟨_, rfl⟩
          have HZ3 : Blk ((wX.setCell ⟨w0.heap.size, 0, none⟩ (.int .i64 0)).setCell ⟨w0.heap.size, 1, none⟩ (.int .i64 0)) w0.heap.size 27 #[.int .i64 0, .int .i64 0] := (hplX.set_ 0 (.int .i64 0)).set_ 1 (.int .i64 0)
          have TZ := (Tch.setm wX w0.heap.size 0 (.int .i64 0)).trans (Tch.setm _ w0.heap.size 1 (.int .i64 0))
          rw [← hwz] at HZ3 TZ
          rw [← hwz]
          clear hwz
          have hCX := ((hE.chip.below_ hbG).below_ hbX).far TZ (fun g hg => by subst hg; omega)
          have hG4X := TZ.blk ((hpg.below hbG hpg.lt).below hbX (hpg.below hbG hpg.lt).lt) (by omega)
          have hCPX := capK (capK (capK hE.cap (Tch.of_below (S := fun _ => False) hbG) (fun g hg hS => hS)) (Tch.of_below (S := fun _ => False) hbX) (fun g hg hS => hS)) TZ (fun g hg hS => by subst hS; rcases hg with hg | hg <;> omega)
          have hTX := ((hE.tch.then hbG).then hbX).trans (TZ.mono (S' := (fun g => chB m gx gb g ∨ g = gs ∨ w0.heap.size ≤ g)) (fun g hg => by subst hg; exact Or.inr (Or.inr (Nat.le_refl _))))
          refine jumpsQ_ret ?_
          go_ret
          unfold scanE
          rw [HRE.out]
          exact ⟨rfl, hCX.chip, hCPX, by show acc.length ≤ 160; omega, hTX.monoL (fun g hg h => by rcases h with h | h | h; exact Or.inl h; exact Or.inr h; omega), hE.good.mono (by omega), hE.by8⟩
  · intro hcut
    have HC := Lib.hid hcut
    clear hcut
    go_wp2
    rename_i K hK
    go_step3
    show K _ _
    refine hK _ _ ?_
    exact HC.out 1 _ _ _ (Or.inl ⟨rfl, scanJ1.mk ⟨⟨hC.below_ HBW, HP3, ⟨_, _, _, _, _, _, HP4⟩, capK hcap (Tch.of_below (S := fun _ => False) HBW) (fun g hg hS => hS), Nat.zero_le _, Tch.of_below HBW, hg.mono (by omega), h8, hAB0, by rw [Nat.zero_div]; rfl, by rw [Nat.zero_mod]; rfl⟩, hR, Nat.le_refl _⟩⟩) _ (by kernel_rfl)
end Go.Proofs.Ytcpniplfkillbaa
namespace Go.Proofs.Ytcpniplfkillbaa
open Go.ChangeShapes Go.WideShapes Go.ChangeAt Go.RowKit
attribute [local go_sem ↓] Go.wp_at_zero Go.wp_at_succ
structure Evcount (w0 : World) (n0 : Int) (m gx gb : Nat) (Af : Option Addr) (nf cf : Nat) (a b c d e : Int) (fs : List Flt) (L NA NB ga gb2 gc : Nat) (R : Int × List Vis × ChS) (wr : World) (i : Nat) (S : ChS) (acc : List Vis) (x y : Int) : Prop where
  chip : ChN wr L m gx gb Af nf cf a b c d e fs S
  pl : Blk wr w0.heap.size 27 #[.int .i64 x, .int .i64 y]
  pg : ∃ v0 v1 v2 v3 v4 v5, Blk wr (w0.heap.size + 1) 83 #[v0, v1, v2, v3, v4, v5]
  cap : (Cnt wr ga gb2 gc (cnt (fun s => s == 0) acc) (cnt (fun s => s == 1) acc) (cnt (fun s => !(s == 0 || s == 1)) acc))
  alen : acc.length ≤ i
  tch : Tch (fun g => chB m gx gb g ∨ cB ga gb2 gc g ∨ w0.heap.size ≤ g) w0 wr
  good : Good S (n0 + 3 * (i : Int))
  by8 : Bytes8 S.X
  lt : i < NA * NB
  px : x = ((i / NB : Nat) : Int)
  py : y = ((i % NB : Nat) : Int)
def countJ1 (w0 : World) (n0 : Int) (m gx gb : Nat) (Af : Option Addr) (nf cf : Nat) (a b c d e : Int) (fs : List Flt) (L NA NB ga gb2 gc : Nat) (R : Int × List Vis × ChS) (n : Nat) (a' : Act) (wr : World) : Prop := ∃ (i : Nat) (S : ChS) (acc : List Vis) (x y : Int) (u : Nat → Value),
  a' = { tmps := #[.pointer (some ⟨m, 0, none⟩), .func (.func 40) #[] #[.pointer (some ⟨ga, 0, none⟩), .pointer (some ⟨gb2, 0, none⟩), .pointer (some ⟨gc, 0, none⟩)], u 2, u 3, .int .i64 0, .pointer (some ⟨w0.heap.size, 0, none⟩), .pointer (some ⟨w0.heap.size + 1, 0, none⟩), u 7, u 8, u 9, u 10, u 11, u 12, u 13, u 14, u 15, u 16, u 17, u 18, u 19, u 20, u 21, u 22, u 23, u 24, u 25, u 26, u 27, u 28, u 29, u 30, u 31, u 32, u 33, u 34, u 35], defers := [] } ∧ Evcount w0 n0 m gx gb Af nf cf a b c d e fs L NA NB ga gb2 gc R wr i S acc x y ∧ Hid (walkF a b c NB fs (NA * NB - i) i S acc = R) ∧ 2 * (NA * NB - i) + 1 ≤ n
structure Ewcount (w0 : World) (n0 : Int) (m gx gb : Nat) (Af : Option Addr) (nf cf : Nat) (a b c d e : Int) (fs : List Flt) (L NA NB ga gb2 gc : Nat) (R : Int × List Vis × ChS) (wr : World) (i : Nat) (S : ChS) (acc : List Vis) (x y : Int) : Prop where
  chip : ChN wr L m gx gb Af nf cf a b c d e fs S
  pl : Blk wr w0.heap.size 27 #[.int .i64 x, .int .i64 y]
  pg : ∃ v0 v1 v2 v3 v4 v5, Blk wr (w0.heap.size + 1) 83 #[v0, v1, v2, v3, v4, v5]
  cap : (Cnt wr ga gb2 gc (cnt (fun s => s == 0) acc) (cnt (fun s => s == 1) acc) (cnt (fun s => !(s == 0 || s == 1)) acc))
  alen : acc.length ≤ i + 1
  tch : Tch (fun g => chB m gx gb g ∨ cB ga gb2 gc g ∨ w0.heap.size ≤ g) w0 wr
  good : Good S (n0 + 3 + 3 * (i : Int))
  by8 : Bytes8 S.X
  lt : i < NA * NB
  px : x = ((i / NB : Nat) : Int)
  py : y = ((i % NB : Nat) : Int)
def countJ0 (w0 : World) (n0 : Int) (m gx gb : Nat) (Af : Option Addr) (nf cf : Nat) (a b c d e : Int) (fs : List Flt) (L NA NB ga gb2 gc : Nat) (R : Int × List Vis × ChS) (n : Nat) (a' : Act) (wr : World) : Prop := ∃ (i : Nat) (S : ChS) (acc : List Vis) (x y : Int) (u : Nat → Value),
  a' = { tmps := #[.pointer (some ⟨m, 0, none⟩), .func (.func 40) #[] #[.pointer (some ⟨ga, 0, none⟩), .pointer (some ⟨gb2, 0, none⟩), .pointer (some ⟨gc, 0, none⟩)], u 2, u 3, .int .i64 0, .pointer (some ⟨w0.heap.size, 0, none⟩), .pointer (some ⟨w0.heap.size + 1, 0, none⟩), u 7, u 8, u 9, u 10, u 11, u 12, u 13, u 14, u 15, u 16, u 17, u 18, u 19, u 20, u 21, u 22, u 23, u 24, u 25, u 26, u 27, u 28, u 29, u 30, u 31, u 32, u 33, u 34, u 35], defers := [] } ∧ Ewcount w0 n0 m gx gb Af nf cf a b c d e fs L NA NB ga gb2 gc R wr i S acc x y ∧ Hid (walkF a b c NB fs (NA * NB - (i + 1)) (i + 1) S acc = R) ∧ 2 * (NA * NB - i) ≤ n
theorem countJ1.mk {w0 : World} {n0 : Int} {m gx gb : Nat} {Af : Option Addr} {nf cf : Nat} {a b c d e : Int} {fs : List Flt} {L NA NB ga gb2 gc : Nat} {R : Int × List Vis × ChS} {n : Nat} {wr : World} {i : Nat} {S : ChS} {acc : List Vis} {x y : Int} {u2 u3 u7 u8 u9 u10 u11 u12 u13 u14 u15 u16 u17 u18 u19 u20 u21 u22 u23 u24 u25 u26 u27 u28 u29 u30 u31 u32 u33 u34 u35 : Value} (h : Evcount w0 n0 m gx gb Af nf cf a b c d e fs L NA NB ga gb2 gc R wr i S acc x y ∧ Hid (walkF a b c NB fs (NA * NB - i) i S acc = R) ∧ 2 * (NA * NB - i) + 1 ≤ n) : countJ1 w0 n0 m gx gb Af nf cf a b c d e fs L NA NB ga gb2 gc R n { tmps := #[.pointer (some ⟨m, 0, none⟩), .func (.func 40) #[] #[.pointer (some ⟨ga, 0, none⟩), .pointer (some ⟨gb2, 0, none⟩), .pointer (some ⟨gc, 0, none⟩)], u2, u3, .int .i64 0, .pointer (some ⟨w0.heap.size, 0, none⟩), .pointer (some ⟨w0.heap.size + 1, 0, none⟩), u7, u8, u9, u10, u11, u12, u13, u14, u15, u16, u17, u18, u19, u20, u21, u22, u23, u24, u25, u26, u27, u28, u29, u30, u31, u32, u33, u34, u35], defers := [] } wr :=
  ⟨i, S, acc, x, y, fun i => (#[undef, undef, u2, u3, undef, undef, undef, u7, u8, u9, u10, u11, u12, u13, u14, u15, u16, u17, u18, u19, u20, u21, u22, u23, u24, u25, u26, u27, u28, u29, u30, u31, u32, u33, u34, u35] : Array Value).getD i undef, rfl, h⟩
theorem countJ0.mk {w0 : World} {n0 : Int} {m gx gb : Nat} {Af : Option Addr} {nf cf : Nat} {a b c d e : Int} {fs : List Flt} {L NA NB ga gb2 gc : Nat} {R : Int × List Vis × ChS} {n : Nat} {wr : World} {i : Nat} {S : ChS} {acc : List Vis} {x y : Int} {u2 u3 u7 u8 u9 u10 u11 u12 u13 u14 u15 u16 u17 u18 u19 u20 u21 u22 u23 u24 u25 u26 u27 u28 u29 u30 u31 u32 u33 u34 u35 : Value} (h : Ewcount w0 n0 m gx gb Af nf cf a b c d e fs L NA NB ga gb2 gc R wr i S acc x y ∧ Hid (walkF a b c NB fs (NA * NB - (i + 1)) (i + 1) S acc = R) ∧ 2 * (NA * NB - i) ≤ n) : countJ0 w0 n0 m gx gb Af nf cf a b c d e fs L NA NB ga gb2 gc R n { tmps := #[.pointer (some ⟨m, 0, none⟩), .func (.func 40) #[] #[.pointer (some ⟨ga, 0, none⟩), .pointer (some ⟨gb2, 0, none⟩), .pointer (some ⟨gc, 0, none⟩)], u2, u3, .int .i64 0, .pointer (some ⟨w0.heap.size, 0, none⟩), .pointer (some ⟨w0.heap.size + 1, 0, none⟩), u7, u8, u9, u10, u11, u12, u13, u14, u15, u16, u17, u18, u19, u20, u21, u22, u23, u24, u25, u26, u27, u28, u29, u30, u31, u32, u33, u34, u35], defers := [] } wr :=
  ⟨i, S, acc, x, y, fun i => (#[undef, undef, u2, u3, undef, undef, undef, u7, u8, u9, u10, u11, u12, u13, u14, u15, u16, u17, u18, u19, u20, u21, u22, u23, u24, u25, u26, u27, u28, u29, u30, u31, u32, u33, u34, u35] : Array Value).getD i undef, rfl, h⟩
def countJ (w0 : World) (n0 : Int) (m gx gb : Nat) (Af : Option Addr) (nf cf : Nat) (a b c d e : Int) (fs : List Flt) (L NA NB ga gb2 gc : Nat) (R : Int × List Vis × ChS) (l n : Nat) (a' : Act) (wr : World) : Prop := (l = 1 ∧ countJ1 w0 n0 m gx gb Af nf cf a b c d e fs L NA NB ga gb2 gc R n a' wr) ∨ (l = 0 ∧ countJ0 w0 n0 m gx gb Af nf cf a b c d e fs L NA NB ga gb2 gc R n a' wr)
def countE (w0 : World) (n0 : Int) (m gx gb : Nat) (Af : Option Addr) (nf cf : Nat) (a b c d e : Int) (fs : List Flt) (L NA NB ga gb2 gc : Nat) (R : Int × List Vis × ChS) (e' : Ending) (w' : World) : Prop := e' = .returned (.int .i64 R.1) ∧ ChipW w' m gx gb Af nf cf a b c d e fs R.2.2 ∧ (Cnt w' ga gb2 gc (cnt (fun s => s == 0) R.2.1) (cnt (fun s => s == 1) R.2.1) (cnt (fun s => !(s == 0 || s == 1)) R.2.1)) ∧ R.2.1.length ≤ 160 ∧ Tch (fun g => chB m gx gb g ∨ cB ga gb2 gc g) w0 w' ∧ Good R.2.2 (n0 + 1000) ∧ Bytes8 R.2.2.X
theorem each_count (w0 : World) (n0 : Int) (m gx gb : Nat) (Af : Option Addr) (nf cf : Nat) (a b c d e : Int) (fs : List Flt) (L NA NB ga gb2 gc : Nat) (s : ChS) (R : Int × List Vis × ChS) (hC : ChN w0 L m gx gb Af nf cf a b c d e fs s) (hL : L ≤ w0.heap.size) (hgs : L ≤ ga ∧ ga < w0.heap.size ∧ L ≤ gb2 ∧ gb2 < w0.heap.size ∧ L ≤ gc ∧ gc < w0.heap.size) (hcap : (Cnt w0 ga gb2 gc (cnt (fun s => s == 0) []) (cnt (fun s => s == 1) []) (cnt (fun s => !(s == 0 || s == 1)) []))) (hg : Good s n0) (hn0 : n0 ≤ 800000000) (h8 : Bytes8 s.X) (hNA : (NA : Int) = a) (hNB : (NB : Int) = b) (hR : Hid (walkF a b c NB fs (NA * NB) 0 s [] = R)) :
    Calls Try.prog 37 #[.pointer (some ⟨m, 0, none⟩), .func (.func 40) #[] #[.pointer (some ⟨ga, 0, none⟩), .pointer (some ⟨gb2, 0, none⟩), .pointer (some ⟨gc, 0, none⟩)]] w0 fun e' w' => countE w0 n0 m gx gb Af nf cf a b c d e fs L NA NB ga gb2 gc R e' w' := by
  obtain ⟨hm, g3, g4, g1, g2, g6⟩ := hC.geo
  have hB0 : 0 < NB := by omega
  have hB8 : NB ≤ 8 := by omega
  have hA20 : NA ≤ 20 := by omega
  have hA0 : 0 < NA := by omega
  have hAB2 : NA * NB ≤ 160 := Nat.mul_le_mul hA20 hB8
  have hAB0 : 0 < NA * NB := Nat.mul_pos hA0 hB0
  have HM := Lib.hid hm
  have hlow := hC.low
  have HLAB := Lib.hid (And.intro hNA hNB)
  clear hm
  have HBW : Below w0.heap.size w0 ((w0.alloc (.cells #[.int .i64 0, .int .i64 0] 27)).alloc (.cells #[.slice none 0 0, .int .i64 0, .int .i64 0, .int .i64 0, .int .i64 0, .int .i64 0] 83)) := ((Below.refl _ _).alloc (Nat.le_refl _) _).alloc (by simp) _
  have HP3 : Blk ((w0.alloc (.cells #[.int .i64 0, .int .i64 0] 27)).alloc (.cells #[.slice none 0 0, .int .i64 0, .int .i64 0, .int .i64 0, .int .i64 0, .int .i64 0] 83)) w0.heap.size 27 #[.int .i64 0, .int .i64 0] := (Blk.new_ w0 _ _).alloc_ _
  have HP4 : Blk ((w0.alloc (.cells #[.int .i64 0, .int .i64 0] 27)).alloc (.cells #[.slice none 0 0, .int .i64 0, .int .i64 0, .int .i64 0, .int .i64 0, .int .i64 0] 83)) (w0.heap.size + 1) 83 #[.slice none 0 0, .int .i64 0, .int .i64 0, .int .i64 0, .int .i64 0, .int .i64 0] := blk_new (by simp)
  go_enter Try.func37, Try.ntmps37
  go_wp2
  refine wp_scope_many (countJ w0 n0 m gx gb Af nf cf a b c d e fs L NA NB ga gb2 gc R) ?_ ?_
  · intro l N a' wr hJ hcut
    have HC := Lib.hid hcut
    clear hcut
    rcases hJ with ⟨rfl, hJ⟩ | ⟨rfl, hJ⟩
    · obtain ⟨i, S, acc, x, y, u, rfl, hE, hW, hN⟩ := hJ
      refine ⟨_, (by simp only [findLabel, Nat.reduceBEq, if_true, if_false, Bool.false_eq_true]; rfl), ?_⟩
      have hi := hE.lt
      have z0 := hE.pl.cell_ 0
      have z1 := hE.pl.cell_ 1
      simp at z0 z1
      obtain ⟨v0, v1, v2, v3, v4, v5, hpg⟩ := hE.pg
      have hstep : NA * NB - i = (NA * NB - (i + 1)) + 1 := by omega
      have HST := Lib.hid hstep
      clear hstep
      rcases (by cases hq : badB fs x <;> simp : badB fs x = true ∨ badB fs x = false) with hb | hb
      · have HBD := Lib.hid hb
        have HW0 : Hid (walkF a b c NB fs (NA * NB - (i + 1)) (i + 1) S acc = R) := Lib.hid (by have h := hW.out; rw [HST.out, walkF_bad (by rw [← hE.px]; exact hb)] at h; exact h)
        clear hb
        go_wp2_with (go_at_call 22; go_loud (((with_reducible refine (bad_v0 m gx gb Af nf cf a b c d e fs _ _ _ S hE.chip.chip HBD).mono ?_); rintro e' wB ⟨rfl, hbB⟩; have hplB := hE.pl.below hbB hE.pl.lt; have zb0 := hplB.cell_ 0; have zb1 := hplB.cell_ 1; simp at zb0 zb1)))
        go_step3
        exact (show ∃ m', m' < N ∧ countJ w0 n0 m gx gb Af nf cf a b c d e fs L NA NB ga gb2 gc R 0 m' _ _ from ⟨2 * (NA * NB - i), by omega, Or.inr ⟨rfl, countJ0.mk ⟨⟨hE.chip.below_ hbB, hE.pl.below hbB hE.pl.lt, ⟨_, _, _, _, _, _, hpg.below hbB hpg.lt⟩, Cnt.tch hE.cap (Tch.of_below (S := fun _ => False) hbB) (fun g hg hS => hS), Nat.le_succ_of_le hE.alen, hE.tch.then hbB, hE.good.mono (by omega), hE.by8, hE.lt, hE.px, hE.py⟩, HW0, Nat.le_refl _⟩⟩⟩)
      have HBD := Lib.hid hb
      obtain ⟨Z, hz⟩ : ∃ Z, S.readZ a b x y = Z := ⟨_, rfl⟩
      obtain ⟨S1, hs1⟩ : ∃ S1, S.readS a b x y = S1 := ⟨_, rfl⟩
      have HG1 : Hid (Good S1 (n0 + 3 + 3 * (i : Int))) := Lib.hid (by rw [← hs1]; exact (hE.good.read a b x y).mono (by omega))
      have HB1 : Hid (Bytes8 S1.X) := Lib.hid (by rw [← hs1, readS_X]; exact hE.by8)
      have hsz : w0.heap.size ≤ wr.heap.size := hE.tch.size
      by_cases hne : Z = 0
      · subst hne
        obtain ⟨bs, hbs⟩ : ∃ bs, S.readB a b c x y = bs := ⟨_, rfl⟩
        have H8B : Bytes8 bs := by rw [← hbs]; exact readB_8 hE.by8 a b c x y
        have HLB : bs.length ≤ 1000000 := by rw [← hbs]; exact readB_le S a b c x y g6
        have HZ := Lib.hid (And.intro hz (And.intro hbs hs1))
        obtain ⟨Dq, nq, Kq, Pq, Sq, Eq, stq, hlk⟩ := Lk.ex bs
        have HLK := Lib.hid hlk
        have HW0 : Hid (walkF a b c NB fs (NA * NB - (i + 1)) (i + 1) S1 (acc ++ [(i / NB, i % NB, bs)]) = R) := Lib.hid (by have h := hW.out; rw [HST.out, walkF_ok (S1 := S1) (bs := bs) (by rw [← hE.px]; exact hb) (by rw [← hE.px, ← hE.py]; exact hz) (by rw [← hE.px, ← hE.py]; exact hs1) (by rw [← hE.px, ← hE.py]; exact hbs)] at h; exact h)
        have HLI : Hid (cnt (fun s => s == 0) (acc ++ [(i / NB, i % NB, bs)]) = (if stq = 0 then cnt (fun s => s == 0) acc + 1 else cnt (fun s => s == 0) acc) ∧ cnt (fun s => s == 1) (acc ++ [(i / NB, i % NB, bs)]) = (if stq = 1 then cnt (fun s => s == 1) acc + 1 else cnt (fun s => s == 1) acc) ∧ cnt (fun s => !(s == 0 || s == 1)) (acc ++ [(i / NB, i % NB, bs)]) = (if stq = 0 ∨ stq = 1 then cnt (fun s => !(s == 0 || s == 1)) acc else cnt (fun s => !(s == 0 || s == 1)) acc + 1)) := Lib.hid (by
          rw [cnt_snoc, cnt_snoc, cnt_snoc]
          dsimp only
          rw [HLK.out.st]
          refine ⟨by simp, by simp, ?_⟩
          by_cases h0 : stq = 0
          · simp [h0]
          · by_cases h1 : stq = 1
            · simp [h1]
            · simp [h0, h1])
        clear hb hz hs1 hbs hlk
        go_upto_region 9 with (first | (go_at_call 22; go_loud (((with_reducible refine (bad_v0 m gx gb Af nf cf a b c d e fs _ _ _ S hE.chip.chip HBD).mono ?_); rintro e' wB ⟨rfl, hbB⟩; have hplB := hE.pl.below hbB hE.pl.lt; have zb0 := hplB.cell_ 0; have zb1 := hplB.cell_ 1; simp at zb0 zb1))) | (go_at_call 34; go_loud (((with_reducible refine (look_yes m gx gb Af nf cf a b c d e fs x y (n0 + 3 * (i : Int)) _ S (hE.chip.below_ hbB).chip hE.good.fine (by omega) Dq nq Kq Pq Sq Eq stq S1 bs H8B HLB HZ HLK).mono ?_); rintro e' wL ⟨⟨Aq, cq, rfl, hoq⟩, hCW, hTL⟩; have hCL := (hE.chip.below_ hbB).next hCW; have hG4 := (hpg.below hbB hpg.lt).ch hTL hlow (by omega); have hG3 := (hE.pl.below hbB hE.pl.lt).ch hTL hlow (by omega); have hCP := Cnt.tch (Cnt.tch hE.cap (Tch.of_below (S := fun _ => False) hbB) (fun g hg hS => hS)) hTL (fun g hg hS => by have := hlow g hS; rcases hg with rfl | rfl | rfl <;> omega); have hTT := (hE.tch.then hbB).trans (hTL.mono (S' := (fun g => chB m gx gb g ∨ cB ga gb2 gc g ∨ w0.heap.size ≤ g)) (fun g hg => Or.inl hg)); obtain ⟨y0, y1, y2, y3, y4, y5⟩ := cells6 hG4; have y9 := hG4.free))))
        obtain ⟨wz, hwz⟩ : ∃ V : World, V = st6 wL (w0.heap.size + 1) (.slice Aq nq cq) (.int .i64 (Kq : Nat)) (.int .i64 (Pq : Nat)) (.int .i64 (Sq : Nat)) (.int .i64 (Eq : Nat)) (.int .i64 (stq : Nat)) := ⟨_, rfl⟩
        have HZ4 := st6_blk hG4 (.slice Aq nq cq) (.int .i64 (Kq : Nat)) (.int .i64 (Pq : Nat)) (.int .i64 (Sq : Nat)) (.int .i64 (Eq : Nat)) (.int .i64 (stq : Nat))
        have TZ := st6_tch wL (w0.heap.size + 1) (.slice Aq nq cq) (.int .i64 (Kq : Nat)) (.int .i64 (Pq : Nat)) (.int .i64 (Sq : Nat)) (.int .i64 (Eq : Nat)) (.int .i64 (stq : Nat))
        rw [← hwz] at HZ4 TZ
        unfold st6 at hwz
        rw [← hwz]
        clear hwz y0 y1 y2 y3 y4 y5 y9
        have hCZ := hCL.far TZ (fun g hg => by subst hg; omega)
        have hG3Z := TZ.blk hG3 (by omega)
        have hCPZ := Cnt.tch hCP TZ (fun g hg hS => by subst hS; rcases hg with hg | hg | hg <;> omega)
        have hTZ := hTT.trans (TZ.mono (S' := (fun g => chB m gx gb g ∨ cB ga gb2 gc g ∨ w0.heap.size ≤ g)) (fun g hg => by subst hg; exact Or.inr (Or.inr (Nat.le_succ _))))
        have x0 := hG3Z.cell_ 0
        have x1 := hG3Z.cell_ 1
        simp at x0 x1
        obtain ⟨y0, y1, y2, y3, y4, y5⟩ := cells6 HZ4
        go_wp2_with (go_at_call 40; go_loud (((with_reducible refine (count1_any x y (Kq : Nat) (Pq : Nat) (Sq : Nat) (Eq : Nat) stq Aq nq cq ga gb2 gc _ _ _ _ hCPZ (by have := cnt_len (fun s => s == 0) acc; have := hE.alen; omega) (by have := cnt_len (fun s => s == 1) acc; have := hE.alen; omega) (by have := cnt_len (fun s => !(s == 0 || s == 1)) acc; have := hE.alen; omega)).mono ?_); rintro e' wS ⟨rfl, hCS, hTS⟩; have hcn := hlow)))
        rename_i K hK
        go_step3
        show K _ _
        refine hK _ _ ?_
        exact HC.out 0 _ _ _ (show 2 * (NA * NB - i) < N by omega) (Or.inr ⟨rfl, countJ0.mk ⟨⟨hCZ.far hTS (fun g hg => by rcases hg with hg | hg | hg <;> omega), hTS.blk hG3Z (fun hg => by rcases hg with hg | hg | hg <;> omega), ⟨_, _, _, _, _, _, hTS.blk HZ4 (fun hg => by rcases hg with hg | hg | hg <;> omega)⟩, (by rw [HLI.out.1, HLI.out.2.1, HLI.out.2.2]; exact hCS), by rw [List.length_append]; have := hE.alen; simp; omega, hTZ.trans (hTS.mono (S' := (fun g => chB m gx gb g ∨ cB ga gb2 gc g ∨ w0.heap.size ≤ g)) (fun g hg => Or.inr (Or.inl hg))), HG1.out, HB1.out, hE.lt, hE.px, hE.py⟩, HW0, Nat.le_refl _⟩⟩) _ (by kernel_rfl)
      · have HZ := Lib.hid (And.intro (And.intro hz (And.intro trivial hs1)) hne)
        have HRE : Hid (R = (Z, acc, S1)) := Lib.hid (by have h := hW.out; rw [HST.out, walkF_err (S1 := S1) (Z := Z) (by rw [← hE.px]; exact hb) (by rw [← hE.px, ← hE.py]; exact hz) hne (by rw [← hE.px, ← hE.py]; exact hs1)] at h; exact h.symm)
        have hz1 : (Z == 0) = false := by simpa using hne
        have hz2 : (Z != 0) = true := by simpa using hne
        have hal := hE.alen
        clear hb hz hs1 hne
        go_upto_region 9 with (first | (go_at_call 22; go_loud (((with_reducible refine (bad_v0 m gx gb Af nf cf a b c d e fs _ _ _ S hE.chip.chip HBD).mono ?_); rintro e' wB ⟨rfl, hbB⟩; have hplB := hE.pl.below hbB hE.pl.lt; have zb0 := hplB.cell_ 0; have zb1 := hplB.cell_ 1; simp at zb0 zb1))) | (go_at_call 34; go_loud (((with_reducible refine (look_no m gx gb Af nf cf a b c d e fs x y (n0 + 3 * (i : Int)) _ S (hE.chip.below_ hbB).chip hE.good.fine (by omega) Z S1 (Lib.hid HZ.out.1) HZ.out.2).mono ?_); rintro e' wL ⟨rfl, hCW, hTL⟩; have hCL := (hE.chip.below_ hbB).next hCW; have hG4 := (hpg.below hbB hpg.lt).ch hTL hlow (by omega); have hG3 := (hE.pl.below hbB hE.pl.lt).ch hTL hlow (by omega); have hCP := Cnt.tch (Cnt.tch hE.cap (Tch.of_below (S := fun _ => False) hbB) (fun g hg hS => hS)) hTL (fun g hg hS => by have := hlow g hS; rcases hg with rfl | rfl | rfl <;> omega); have hTT := (hE.tch.then hbB).trans (hTL.mono (S' := (fun g => chB m gx gb g ∨ cB ga gb2 gc g ∨ w0.heap.size ≤ g)) (fun g hg => Or.inl hg)); obtain ⟨y0, y1, y2, y3, y4, y5⟩ := cells6 hG4; have y9 := hG4.free))))
        obtain ⟨wz, hwz⟩ : ∃ V : World, V = st6 wL (w0.heap.size + 1) (.slice none 0 0) (.int .i64 0) (.int .i64 0) (.int .i64 0) (.int .i64 0) (.int .i64 0) := ⟨_, rfl⟩
        have HZ4 := st6_blk hG4 (.slice none 0 0) (.int .i64 0) (.int .i64 0) (.int .i64 0) (.int .i64 0) (.int .i64 0)
        have TZ := st6_tch wL (w0.heap.size + 1) (.slice none 0 0) (.int .i64 0) (.int .i64 0) (.int .i64 0) (.int .i64 0) (.int .i64 0)
        rw [← hwz] at HZ4 TZ
        unfold st6 at hwz
        rw [← hwz]
        clear hwz y0 y1 y2 y3 y4 y5 y9
        have hCZ := hCL.far TZ (fun g hg => by subst hg; omega)
        have hG3Z := TZ.blk hG3 (by omega)
        have hCPZ := Cnt.tch hCP TZ (fun g hg hS => by subst hS; rcases hg with hg | hg | hg <;> omega)
        have hTZ := hTT.trans (TZ.mono (S' := (fun g => chB m gx gb g ∨ cB ga gb2 gc g ∨ w0.heap.size ≤ g)) (fun g hg => by subst hg; exact Or.inr (Or.inr (Nat.le_succ _))))
        go_wp2_with fail
        refine jumpsQ_ret ?_
        go_ret
        unfold countE
        rw [HRE.out]
        exact ⟨rfl, hCZ.chip, hCPZ, by show acc.length ≤ 160; omega, hTZ.monoL (fun g hg h => by rcases h with h | h | h; exact Or.inl h; exact Or.inr h; omega), HG1.out.mono (by omega), HB1.out⟩
    · obtain ⟨i, S, acc, x, y, u, rfl, hE, hW, hN⟩ := hJ
      refine ⟨_, (by simp only [findLabel, Nat.reduceBEq, if_true, if_false, Bool.false_eq_true]; rfl), ?_⟩
      have hi := hE.lt
      have z0 := hE.pl.cell_ 0
      have z1 := hE.pl.cell_ 1
      simp at z0 z1
      obtain ⟨v0, v1, v2, v3, v4, v5, hpg⟩ := hE.pg
      have hnx : ∀ (X Y : Int) (T : Bool), Hid (X = (if i + 1 < NA * NB then (((i + 1) / NB : Nat) : Int) else 0) ∧ Y = (if i + 1 < NA * NB then (((i + 1) % NB : Nat) : Int) else 0) ∧ T = decide (i + 1 < NA * NB)) → ∀ w : World, Calls Try.prog 66 #[.agg #[.int .i64 a, .int .i64 b, .int .i64 c, .int .i64 d, .int .i64 e], .agg #[.int .i64 x, .int .i64 y]] w fun e' w' => e' = .returned (.tuple #[.agg #[.int .i64 X, .int .i64 Y], .bool T]) ∧ Below w.heap.size w w' := fun X Y T hX w => by
        rw [hE.px, hE.py]
        exact next_at a b c d e NA NB i w HM.out HLAB.out.1 HLAB.out.2 hB0 hi X Y T hX
      by_cases hl : i + 1 < NA * NB
      · obtain ⟨X, hX⟩ : ∃ X : Int, X = (((i + 1) / NB : Nat) : Int) := ⟨_, rfl⟩
        obtain ⟨Y, hY⟩ : ∃ Y : Int, Y = (((i + 1) % NB : Nat) : Int) := ⟨_, rfl⟩
        have hcn := hnx X Y true (Lib.hid ⟨by rw [if_pos hl]; exact hX, by rw [if_pos hl]; exact hY, (decide_eq_true hl).symm⟩)
        have HXY := Lib.hid (And.intro hX hY)
        clear hnx hX hY
        have hCd : ChipW wr.drew m gx gb Af nf cf a b c d e fs S := hE.chip.chip.like
        go_upto_region 12 with fail
        refine wp_region_noPanic ?_
        refine wp_region_held_drew (S := (fun _ => True)) (by kernel_rfl) ?_ (fun hHeld => ?_)
        · exact trivial
        refine wpAnyH_take (i := 0) (oi := ⟨some 29, .move (.tmp 0), 29, "leaf.go:98", #[], none⟩) (v := ?_) rfl (by kernel_rfl) (by kernel_rfl) (by kernel_rfl) (fun _ _ _ h => h) (Or.inl ⟨by rfl, ?_⟩) (by assumption) ?_; rotate_left; (· (intro wS hSw; (try dsimp only at hSw); go_simp; (try with_reducible rfl))); try simp only [Act.put, pz1, pz2, pz3]
        refine wpAnyH_ready (rs := [1, 2]) (by kernel_rfl) (by simp) ?_
        refine (AllReadyH.cons (o := ⟨some 30, .call { callee := .value (.func 67), args := #[.tmp 29], argTypes := #[29] }, 23, "leaf.go:98", #[⟨0, .data⟩], none⟩) rfl (fun K hK => ?_) (AllReadyH.cons (o := ⟨some 31, .load 27 (.tmp 5), 27, "leaf.go:98", #[], none⟩) rfl (fun K hK => ?_) AllReadyH.nil))
        · go_simp
          (first | (go_at_call 67; go_loud (((with_reducible refine (geometry_0 m gx gb Af nf cf a b c d e fs _ S (by first | exact hE.chip.chip | exact hCd)).mono ?_); rintro e' wG ⟨rfl, hbG⟩; (try have hbG := undrew hbG); have hplG := hE.pl.below hbG hE.pl.lt; have k0 := hplG.cell_ 0; have k1 := hplG.cell_ 1; simp at k0 k1))) | (go_at_call 66; go_loud (((with_reducible refine (hcn _).mono ?_); rintro e' wX ⟨rfl, hbX⟩; have hplX := hplG.below hbX hplG.lt; have q0 := hplX.cell_ 0; have q1 := hplX.cell_ 1; simp at q0 q1; have q9 := hplX.free))))
          go_wp2_with fail
          refine hK.out _ _ ?_ (fun hNew => ?_)
          · exact trivial
          clear hK K hHeld
          have hHeld := hNew
          clear hNew
          try simp only [Act.put, pz1, pz2, pz3]
          refine wpAnyH_ready (rs := [2]) (by kernel_rfl) (by simp) ?_
          refine AllReadyH.cons (o := ⟨some 31, .load 27 (.tmp 5), 27, "leaf.go:98", #[], none⟩) rfl (fun K hK => ?_) AllReadyH.nil
          go_simp
          skip
          refine hK.out _ _ ?_ (fun hNew => ?_)
          · exact trivial
          clear hK K hHeld
          have hHeld := hNew
          clear hNew
          try simp only [Act.put, pz1, pz2, pz3]
          refine wpAnyH_ready (rs := [3]) (by kernel_rfl) (by simp) ?_
          refine AllReadyH.cons (o := ⟨some 32, .call { callee := .value (.func 66), args := #[.tmp 30, .tmp 31], argTypes := #[23, 27] }, 123, "leaf.go:98", #[⟨1, .data⟩, ⟨2, .data⟩, ⟨1, .chain⟩], none⟩) rfl (fun K hK => ?_) AllReadyH.nil
          go_simp
          (first | (go_at_call 67; go_loud (((with_reducible refine (geometry_0 m gx gb Af nf cf a b c d e fs _ S (by first | exact hE.chip.chip | exact hCd)).mono ?_); rintro e' wG ⟨rfl, hbG⟩; (try have hbG := undrew hbG); have hplG := hE.pl.below hbG hE.pl.lt; have k0 := hplG.cell_ 0; have k1 := hplG.cell_ 1; simp at k0 k1))) | (go_at_call 66; go_loud (((with_reducible refine (hcn _).mono ?_); rintro e' wX ⟨rfl, hbX⟩; have hplX := hplG.below hbX hplG.lt; have q0 := hplX.cell_ 0; have q1 := hplX.cell_ 1; simp at q0 q1; have q9 := hplX.free))))
          go_wp2_with fail
          refine hK.out _ _ ?_ (fun hNew => ?_)
          · exact trivial
          clear hK K hHeld
          have hHeld := hNew
          clear hNew
          try simp only [Act.put, pz1, pz2, pz3]
          refine wpAnyH_take (i := 4) (oi := ⟨some 28, .move (.tmp 32), 123, "leaf.go:98", #[⟨3, .data⟩], none⟩) (v := ?_) rfl (by kernel_rfl) (by kernel_rfl) (by kernel_rfl) (fun _ _ _ h => h) (Or.inl ⟨by rfl, ?_⟩) (by assumption) ?_; rotate_left; (· (intro wS hSw; (try dsimp only at hSw); go_simp; (try with_reducible rfl))); try simp only [Act.put, pz1, pz2, pz3]
          refine wpAnyH_take (i := 5) (oi := ⟨some 33, .extract (.tmp 28) 0, 27, "leaf.go:98", #[⟨4, .data⟩], none⟩) (v := ?_) rfl (by kernel_rfl) (by kernel_rfl) (by kernel_rfl) (fun _ _ _ h => h) (Or.inl ⟨by rfl, ?_⟩) (by assumption) ?_; rotate_left; (· (intro wS hSw; (try dsimp only at hSw); go_simp; (try with_reducible rfl))); try simp only [Act.put, pz1, pz2, pz3]
          refine wpAnyH_take (i := 6) (oi := ⟨some 34, .extract (.tmp 28) 1, 4, "leaf.go:98", #[⟨4, .data⟩, { on := 7, ground := Ground.gcOnly Departure.lateStores }], none⟩) (v := ?_) rfl (by kernel_rfl) (by kernel_rfl) (by kernel_rfl) (fun _ _ _ h => h) (Or.inl ⟨by rfl, ?_⟩) (by assumption) ?_; rotate_left; (· (intro wS hSw; (try dsimp only at hSw); go_simp; (try with_reducible rfl))); try simp only [Act.put, pz1, pz2, pz3]
          refine wpAnyH_ready (rs := [7]) (by kernel_rfl) (by simp) ?_
          refine AllReadyH.cons (o := ⟨none, .store 27 (.tmp 5) (.tmp 33), 0, "leaf.go:98", #[⟨5, .data⟩, ⟨3, .chain⟩, ⟨0, .phase⟩, ⟨1, .phase⟩, ⟨2, .phase⟩, ⟨3, .phase⟩, ⟨4, .phase⟩, ⟨5, .phase⟩, { on := 6, ground := Ground.textOnly Departure.lateStores }], none⟩) rfl (fun K hK => ?_) AllReadyH.nil
          go_simp
          skip
          refine hK.out _ _ ?_ (fun hNew => ?_)
          · exact trivial
          clear hK K hHeld
          have hHeld := hNew
          clear hNew
          try simp only [Act.put, pz1, pz2, pz3]
          refine wpAnyH_take (i := 8) (oi := ⟨some 8, .assign (.tmp 34), 4, "leaf.go:98", #[⟨6, .data⟩, ⟨7, .chain⟩, ⟨0, .phase⟩, ⟨1, .phase⟩, ⟨2, .phase⟩, ⟨3, .phase⟩, ⟨4, .phase⟩, ⟨5, .phase⟩, ⟨6, .phase⟩, ⟨7, .phase⟩], none⟩) (v := ?_) rfl (by kernel_rfl) (by kernel_rfl) (by kernel_rfl) (fun _ _ _ h => h) (Or.inl ⟨by rfl, ?_⟩) (by assumption) ?_; rotate_left; (· (intro wS hSw; (try dsimp only at hSw); go_simp; (try with_reducible rfl))); try simp only [Act.put, pz1, pz2, pz3]
          refine wpAnyH_done (by kernel_rfl) ?_ _
          refine NoPanic.normal ?_
          clear hHeld
          go_wp2_with fail
          obtain ⟨wz, hwz⟩ : ∃ V : World, V = (wX.setCell ⟨w0.heap.size, 0, none⟩ (.int .i64 X)).setCell ⟨w0.heap.size, 1, none⟩ (.int .i64 Y) := ⟨_, rfl⟩
          have HZ3 : Blk ((wX.setCell ⟨w0.heap.size, 0, none⟩ (.int .i64 X)).setCell ⟨w0.heap.size, 1, none⟩ (.int .i64 Y)) w0.heap.size 27 #[.int .i64 X, .int .i64 Y] := (hplX.set_ 0 (.int .i64 X)).set_ 1 (.int .i64 Y)
          have TZ := (Tch.setm wX w0.heap.size 0 (.int .i64 X)).trans (Tch.setm _ w0.heap.size 1 (.int .i64 Y))
          rw [← hwz] at HZ3 TZ
          rw [← hwz]
          clear hwz
          have hCX := ((hE.chip.below_ hbG).below_ hbX).far TZ (fun g hg => by subst hg; omega)
          have hG4X := TZ.blk ((hpg.below hbG hpg.lt).below hbX (hpg.below hbG hpg.lt).lt) (by omega)
          have hCPX := Cnt.tch (Cnt.tch (Cnt.tch hE.cap (Tch.of_below (S := fun _ => False) hbG) (fun g hg hS => hS)) (Tch.of_below (S := fun _ => False) hbX) (fun g hg hS => hS)) TZ (fun g hg hS => by subst hS; rcases hg with hg | hg | hg <;> omega)
          have hTX := ((hE.tch.then hbG).then hbX).trans (TZ.mono (S' := (fun g => chB m gx gb g ∨ cB ga gb2 gc g ∨ w0.heap.size ≤ g)) (fun g hg => by subst hg; exact Or.inr (Or.inr (Nat.le_refl _))))
          go_step3
          exact (show ∃ m', m' < N ∧ countJ w0 n0 m gx gb Af nf cf a b c d e fs L NA NB ga gb2 gc R 1 m' _ _ from ⟨2 * (NA * NB - (i + 1)) + 1, by omega, Or.inl ⟨rfl, countJ1.mk ⟨⟨hCX, HZ3, ⟨_, _, _, _, _, _, hG4X⟩, hCPX, hE.alen, hTX, hE.good.mono (by omega), hE.by8, hl, HXY.out.1, HXY.out.2⟩, hW, Nat.le_refl _⟩⟩⟩)
        · go_simp
          skip
          refine hK.out _ _ ?_ (fun hNew => ?_)
          · exact trivial
          clear hK K hHeld
          have hHeld := hNew
          clear hNew
          try simp only [Act.put, pz1, pz2, pz3]
          refine wpAnyH_ready (rs := [1]) (by kernel_rfl) (by simp) ?_
          refine AllReadyH.cons (o := ⟨some 30, .call { callee := .value (.func 67), args := #[.tmp 29], argTypes := #[29] }, 23, "leaf.go:98", #[⟨0, .data⟩], none⟩) rfl (fun K hK => ?_) AllReadyH.nil
          go_simp
          (first | (go_at_call 67; go_loud (((with_reducible refine (geometry_0 m gx gb Af nf cf a b c d e fs _ S (by first | exact hE.chip.chip | exact hCd)).mono ?_); rintro e' wG ⟨rfl, hbG⟩; (try have hbG := undrew hbG); have hplG := hE.pl.below hbG hE.pl.lt; have k0 := hplG.cell_ 0; have k1 := hplG.cell_ 1; simp at k0 k1))) | (go_at_call 66; go_loud (((with_reducible refine (hcn _).mono ?_); rintro e' wX ⟨rfl, hbX⟩; have hplX := hplG.below hbX hplG.lt; have q0 := hplX.cell_ 0; have q1 := hplX.cell_ 1; simp at q0 q1; have q9 := hplX.free))))
          go_wp2_with fail
          refine hK.out _ _ ?_ (fun hNew => ?_)
          · exact trivial
          clear hK K hHeld
          have hHeld := hNew
          clear hNew
          try simp only [Act.put, pz1, pz2, pz3]
          refine wpAnyH_ready (rs := [3]) (by kernel_rfl) (by simp) ?_
          refine AllReadyH.cons (o := ⟨some 32, .call { callee := .value (.func 66), args := #[.tmp 30, .tmp 31], argTypes := #[23, 27] }, 123, "leaf.go:98", #[⟨1, .data⟩, ⟨2, .data⟩, ⟨1, .chain⟩], none⟩) rfl (fun K hK => ?_) AllReadyH.nil
          go_simp
          (first | (go_at_call 67; go_loud (((with_reducible refine (geometry_0 m gx gb Af nf cf a b c d e fs _ S (by first | exact hE.chip.chip | exact hCd)).mono ?_); rintro e' wG ⟨rfl, hbG⟩; (try have hbG := undrew hbG); have hplG := hE.pl.below hbG hE.pl.lt; have k0 := hplG.cell_ 0; have k1 := hplG.cell_ 1; simp at k0 k1))) | (go_at_call 66; go_loud (((with_reducible refine (hcn _).mono ?_); rintro e' wX ⟨rfl, hbX⟩; have hplX := hplG.below hbX hplG.lt; have q0 := hplX.cell_ 0; have q1 := hplX.cell_ 1; simp at q0 q1; have q9 := hplX.free))))
          go_wp2_with fail
          refine hK.out _ _ ?_ (fun hNew => ?_)
          · exact trivial
          clear hK K hHeld
          have hHeld := hNew
          clear hNew
          try simp only [Act.put, pz1, pz2, pz3]
          refine wpAnyH_take (i := 4) (oi := ⟨some 28, .move (.tmp 32), 123, "leaf.go:98", #[⟨3, .data⟩], none⟩) (v := ?_) rfl (by kernel_rfl) (by kernel_rfl) (by kernel_rfl) (fun _ _ _ h => h) (Or.inl ⟨by rfl, ?_⟩) (by assumption) ?_; rotate_left; (· (intro wS hSw; (try dsimp only at hSw); go_simp; (try with_reducible rfl))); try simp only [Act.put, pz1, pz2, pz3]
          refine wpAnyH_take (i := 5) (oi := ⟨some 33, .extract (.tmp 28) 0, 27, "leaf.go:98", #[⟨4, .data⟩], none⟩) (v := ?_) rfl (by kernel_rfl) (by kernel_rfl) (by kernel_rfl) (fun _ _ _ h => h) (Or.inl ⟨by rfl, ?_⟩) (by assumption) ?_; rotate_left; (· (intro wS hSw; (try dsimp only at hSw); go_simp; (try with_reducible rfl))); try simp only [Act.put, pz1, pz2, pz3]
          refine wpAnyH_take (i := 6) (oi := ⟨some 34, .extract (.tmp 28) 1, 4, "leaf.go:98", #[⟨4, .data⟩, { on := 7, ground := Ground.gcOnly Departure.lateStores }], none⟩) (v := ?_) rfl (by kernel_rfl) (by kernel_rfl) (by kernel_rfl) (fun _ _ _ h => h) (Or.inl ⟨by rfl, ?_⟩) (by assumption) ?_; rotate_left; (· (intro wS hSw; (try dsimp only at hSw); go_simp; (try with_reducible rfl))); try simp only [Act.put, pz1, pz2, pz3]
          refine wpAnyH_ready (rs := [7]) (by kernel_rfl) (by simp) ?_
          refine AllReadyH.cons (o := ⟨none, .store 27 (.tmp 5) (.tmp 33), 0, "leaf.go:98", #[⟨5, .data⟩, ⟨3, .chain⟩, ⟨0, .phase⟩, ⟨1, .phase⟩, ⟨2, .phase⟩, ⟨3, .phase⟩, ⟨4, .phase⟩, ⟨5, .phase⟩, { on := 6, ground := Ground.textOnly Departure.lateStores }], none⟩) rfl (fun K hK => ?_) AllReadyH.nil
          go_simp
          skip
          refine hK.out _ _ ?_ (fun hNew => ?_)
          · exact trivial
          clear hK K hHeld
          have hHeld := hNew
          clear hNew
          try simp only [Act.put, pz1, pz2, pz3]
          refine wpAnyH_take (i := 8) (oi := ⟨some 8, .assign (.tmp 34), 4, "leaf.go:98", #[⟨6, .data⟩, ⟨7, .chain⟩, ⟨0, .phase⟩, ⟨1, .phase⟩, ⟨2, .phase⟩, ⟨3, .phase⟩, ⟨4, .phase⟩, ⟨5, .phase⟩, ⟨6, .phase⟩, ⟨7, .phase⟩], none⟩) (v := ?_) rfl (by kernel_rfl) (by kernel_rfl) (by kernel_rfl) (fun _ _ _ h => h) (Or.inl ⟨by rfl, ?_⟩) (by assumption) ?_; rotate_left; (· (intro wS hSw; (try dsimp only at hSw); go_simp; (try with_reducible rfl))); try simp only [Act.put, pz1, pz2, pz3]
          refine wpAnyH_done (by kernel_rfl) ?_ _
          refine NoPanic.normal ?_
          clear hHeld
          go_wp2_with fail
          obtain ⟨wz, hwz⟩ : ∃ V : World, V = (wX.setCell ⟨w0.heap.size, 0, none⟩ (.int .i64 X)).setCell ⟨w0.heap.size, 1, none⟩ (.int .i64 Y) := ⟨_, rfl⟩
          have HZ3 : Blk ((wX.setCell ⟨w0.heap.size, 0, none⟩ (.int .i64 X)).setCell ⟨w0.heap.size, 1, none⟩ (.int .i64 Y)) w0.heap.size 27 #[.int .i64 X, .int .i64 Y] := (hplX.set_ 0 (.int .i64 X)).set_ 1 (.int .i64 Y)
          have TZ := (Tch.setm wX w0.heap.size 0 (.int .i64 X)).trans (Tch.setm _ w0.heap.size 1 (.int .i64 Y))
          rw [← hwz] at HZ3 TZ
          rw [← hwz]
          clear hwz
          have hCX := ((hE.chip.below_ hbG).below_ hbX).far TZ (fun g hg => by subst hg; omega)
          have hG4X := TZ.blk ((hpg.below hbG hpg.lt).below hbX (hpg.below hbG hpg.lt).lt) (by omega)
          have hCPX := Cnt.tch (Cnt.tch (Cnt.tch hE.cap (Tch.of_below (S := fun _ => False) hbG) (fun g hg hS => hS)) (Tch.of_below (S := fun _ => False) hbX) (fun g hg hS => hS)) TZ (fun g hg hS => by subst hS; rcases hg with hg | hg | hg <;> omega)
          have hTX := ((hE.tch.then hbG).then hbX).trans (TZ.mono (S' := (fun g => chB m gx gb g ∨ cB ga gb2 gc g ∨ w0.heap.size ≤ g)) (fun g hg => by subst hg; exact Or.inr (Or.inr (Nat.le_refl _))))
          go_step3
          exact (show ∃ m', m' < N ∧ countJ w0 n0 m gx gb Af nf cf a b c d e fs L NA NB ga gb2 gc R 1 m' _ _ from ⟨2 * (NA * NB - (i + 1)) + 1, by omega, Or.inl ⟨rfl, countJ1.mk ⟨⟨hCX, HZ3, ⟨_, _, _, _, _, _, hG4X⟩, hCPX, hE.alen, hTX, hE.good.mono (by omega), hE.by8, hl, HXY.out.1, HXY.out.2⟩, hW, Nat.le_refl _⟩⟩⟩)
      · have hcn := hnx 0 0 false (Lib.hid ⟨by rw [if_neg hl], by rw [if_neg hl], (decide_eq_false hl).symm⟩)
        have HRE : Hid (R = (0, acc, S)) := Lib.hid (by have h := hW.out; rw [show NA * NB - (i + 1) = 0 by omega] at h; exact h.symm)
        have hal := hE.alen
        have hCd : ChipW wr.drew m gx gb Af nf cf a b c d e fs S := hE.chip.chip.like
        clear hnx
        go_upto_region 12 with fail
        refine wp_region_noPanic ?_
        refine wp_region_held_drew (S := (fun _ => True)) (by kernel_rfl) ?_ (fun hHeld => ?_)
        · exact trivial
        refine wpAnyH_take (i := 0) (oi := ⟨some 29, .move (.tmp 0), 29, "leaf.go:98", #[], none⟩) (v := ?_) rfl (by kernel_rfl) (by kernel_rfl) (by kernel_rfl) (fun _ _ _ h => h) (Or.inl ⟨by rfl, ?_⟩) (by assumption) ?_; rotate_left; (· (intro wS hSw; (try dsimp only at hSw); go_simp; (try with_reducible rfl))); try simp only [Act.put, pz1, pz2, pz3]
        refine wpAnyH_ready (rs := [1, 2]) (by kernel_rfl) (by simp) ?_
        refine (AllReadyH.cons (o := ⟨some 30, .call { callee := .value (.func 67), args := #[.tmp 29], argTypes := #[29] }, 23, "leaf.go:98", #[⟨0, .data⟩], none⟩) rfl (fun K hK => ?_) (AllReadyH.cons (o := ⟨some 31, .load 27 (.tmp 5), 27, "leaf.go:98", #[], none⟩) rfl (fun K hK => ?_) AllReadyH.nil))
        · go_simp
          (first | (go_at_call 67; go_loud (((with_reducible refine (geometry_0 m gx gb Af nf cf a b c d e fs _ S (by first | exact hE.chip.chip | exact hCd)).mono ?_); rintro e' wG ⟨rfl, hbG⟩; (try have hbG := undrew hbG); have hplG := hE.pl.below hbG hE.pl.lt; have k0 := hplG.cell_ 0; have k1 := hplG.cell_ 1; simp at k0 k1))) | (go_at_call 66; go_loud (((with_reducible refine (hcn _).mono ?_); rintro e' wX ⟨rfl, hbX⟩; have hplX := hplG.below hbX hplG.lt; have q0 := hplX.cell_ 0; have q1 := hplX.cell_ 1; simp at q0 q1; have q9 := hplX.free))))
          go_wp2_with fail
          refine hK.out _ _ ?_ (fun hNew => ?_)
          · exact trivial
          clear hK K hHeld
          have hHeld := hNew
          clear hNew
          try simp only [Act.put, pz1, pz2, pz3]
          refine wpAnyH_ready (rs := [2]) (by kernel_rfl) (by simp) ?_
          refine AllReadyH.cons (o := ⟨some 31, .load 27 (.tmp 5), 27, "leaf.go:98", #[], none⟩) rfl (fun K hK => ?_) AllReadyH.nil
          go_simp
          skip
          refine hK.out _ _ ?_ (fun hNew => ?_)
          · exact trivial
          clear hK K hHeld
          have hHeld := hNew
          clear hNew
          try simp only [Act.put, pz1, pz2, pz3]
          refine wpAnyH_ready (rs := [3]) (by kernel_rfl) (by simp) ?_
          refine AllReadyH.cons (o := ⟨some 32, .call { callee := .value (.func 66), args := #[.tmp 30, .tmp 31], argTypes := #[23, 27] }, 123, "leaf.go:98", #[⟨1, .data⟩, ⟨2, .data⟩, ⟨1, .chain⟩], none⟩) rfl (fun K hK => ?_) AllReadyH.nil
          go_simp
          (first | (go_at_call 67; go_loud (((with_reducible refine (geometry_0 m gx gb Af nf cf a b c d e fs _ S (by first | exact hE.chip.chip | exact hCd)).mono ?_); rintro e' wG ⟨rfl, hbG⟩; (try have hbG := undrew hbG); have hplG := hE.pl.below hbG hE.pl.lt; have k0 := hplG.cell_ 0; have k1 := hplG.cell_ 1; simp at k0 k1))) | (go_at_call 66; go_loud (((with_reducible refine (hcn _).mono ?_); rintro e' wX ⟨rfl, hbX⟩; have hplX := hplG.below hbX hplG.lt; have q0 := hplX.cell_ 0; have q1 := hplX.cell_ 1; simp at q0 q1; have q9 := hplX.free))))
          go_wp2_with fail
          refine hK.out _ _ ?_ (fun hNew => ?_)
          · exact trivial
          clear hK K hHeld
          have hHeld := hNew
          clear hNew
          try simp only [Act.put, pz1, pz2, pz3]
          refine wpAnyH_take (i := 4) (oi := ⟨some 28, .move (.tmp 32), 123, "leaf.go:98", #[⟨3, .data⟩], none⟩) (v := ?_) rfl (by kernel_rfl) (by kernel_rfl) (by kernel_rfl) (fun _ _ _ h => h) (Or.inl ⟨by rfl, ?_⟩) (by assumption) ?_; rotate_left; (· (intro wS hSw; (try dsimp only at hSw); go_simp; (try with_reducible rfl))); try simp only [Act.put, pz1, pz2, pz3]
          refine wpAnyH_take (i := 5) (oi := ⟨some 33, .extract (.tmp 28) 0, 27, "leaf.go:98", #[⟨4, .data⟩], none⟩) (v := ?_) rfl (by kernel_rfl) (by kernel_rfl) (by kernel_rfl) (fun _ _ _ h => h) (Or.inl ⟨by rfl, ?_⟩) (by assumption) ?_; rotate_left; (· (intro wS hSw; (try dsimp only at hSw); go_simp; (try with_reducible rfl))); try simp only [Act.put, pz1, pz2, pz3]
          refine wpAnyH_take (i := 6) (oi := ⟨some 34, .extract (.tmp 28) 1, 4, "leaf.go:98", #[⟨4, .data⟩, { on := 7, ground := Ground.gcOnly Departure.lateStores }], none⟩) (v := ?_) rfl (by kernel_rfl) (by kernel_rfl) (by kernel_rfl) (fun _ _ _ h => h) (Or.inl ⟨by rfl, ?_⟩) (by assumption) ?_; rotate_left; (· (intro wS hSw; (try dsimp only at hSw); go_simp; (try with_reducible rfl))); try simp only [Act.put, pz1, pz2, pz3]
          refine wpAnyH_ready (rs := [7]) (by kernel_rfl) (by simp) ?_
          refine AllReadyH.cons (o := ⟨none, .store 27 (.tmp 5) (.tmp 33), 0, "leaf.go:98", #[⟨5, .data⟩, ⟨3, .chain⟩, ⟨0, .phase⟩, ⟨1, .phase⟩, ⟨2, .phase⟩, ⟨3, .phase⟩, ⟨4, .phase⟩, ⟨5, .phase⟩, { on := 6, ground := Ground.textOnly Departure.lateStores }], none⟩) rfl (fun K hK => ?_) AllReadyH.nil
          go_simp
          skip
          refine hK.out _ _ ?_ (fun hNew => ?_)
          · exact trivial
          clear hK K hHeld
          have hHeld := hNew
          clear hNew
          try simp only [Act.put, pz1, pz2, pz3]
          refine wpAnyH_take (i := 8) (oi := ⟨some 8, .assign (.tmp 34), 4, "leaf.go:98", #[⟨6, .data⟩, ⟨7, .chain⟩, ⟨0, .phase⟩, ⟨1, .phase⟩, ⟨2, .phase⟩, ⟨3, .phase⟩, ⟨4, .phase⟩, ⟨5, .phase⟩, ⟨6, .phase⟩, ⟨7, .phase⟩], none⟩) (v := ?_) rfl (by kernel_rfl) (by kernel_rfl) (by kernel_rfl) (fun _ _ _ h => h) (Or.inl ⟨by rfl, ?_⟩) (by assumption) ?_; rotate_left; (· (intro wS hSw; (try dsimp only at hSw); go_simp; (try with_reducible rfl))); try simp only [Act.put, pz1, pz2, pz3]
          refine wpAnyH_done (by kernel_rfl) ?_ _
          refine NoPanic.normal ?_
          clear hHeld
          go_wp2_with fail
          obtain ⟨wz, hwz⟩ : ∃ V : World, V = (wX.setCell ⟨w0.heap.size, 0, none⟩ (.int .i64 0)).setCell ⟨w0.heap.size, 1, none⟩ (.int .i64 0) := ⟨_, rfl⟩
          have HZ3 : Blk ((wX.setCell ⟨w0.heap.size, 0, none⟩ (.int .i64 0)).setCell ⟨w0.heap.size, 1, none⟩ (.int .i64 0)) w0.heap.size 27 #[.int .i64 0, .int .i64 0] := (hplX.set_ 0 (.int .i64 0)).set_ 1 (.int .i64 0)
          have TZ := (Tch.setm wX w0.heap.size 0 (.int .i64 0)).trans (Tch.setm _ w0.heap.size 1 (.int .i64 0))
          rw [← hwz] at HZ3 TZ
          rw [← hwz]
          clear hwz
          have hCX := ((hE.chip.below_ hbG).below_ hbX).far TZ (fun g hg => by subst hg; omega)
          have hG4X := TZ.blk ((hpg.below hbG hpg.lt).below hbX (hpg.below hbG hpg.lt).lt) (by omega)
          have hCPX := Cnt.tch (Cnt.tch (Cnt.tch hE.cap (Tch.of_below (S := fun _ => False) hbG) (fun g hg hS => hS)) (Tch.of_below (S := fun _ => False) hbX) (fun g hg hS => hS)) TZ (fun g hg hS => by subst hS; rcases hg with hg | hg | hg <;> omega)
          have hTX := ((hE.tch.then hbG).then hbX).trans (TZ.mono (S' := (fun g => chB m gx gb g ∨ cB ga gb2 gc g ∨ w0.heap.size ≤ g)) (fun g hg => by subst hg; exact Or.inr (Or.inr (Nat.le_refl _))))
          refine jumpsQ_ret ?_
          go_ret
          unfold countE
          rw [HRE.out]
          exact ⟨rfl, hCX.chip, hCPX, by show acc.length ≤ 160; omega, hTX.monoL (fun g hg h => by rcases h with h | h | h; exact Or.inl h; exact Or.inr h; omega), hE.good.mono (by omega), hE.by8⟩
        · go_simp
          skip
          refine hK.out _ _ ?_ (fun hNew => ?_)
          · exact trivial
          clear hK K hHeld
          have hHeld := hNew
          clear hNew
          try simp only [Act.put, pz1, pz2, pz3]
          refine wpAnyH_ready (rs := [1]) (by kernel_rfl) (by simp) ?_
          refine AllReadyH.cons (o := ⟨some 30, .call { callee := .value (.func 67), args := #[.tmp 29], argTypes := #[29] }, 23, "leaf.go:98", #[⟨0, .data⟩], none⟩) rfl (fun K hK => ?_) AllReadyH.nil
          go_simp
          (first | (go_at_call 67; go_loud (((with_reducible refine (geometry_0 m gx gb Af nf cf a b c d e fs _ S (by first | exact hE.chip.chip | exact hCd)).mono ?_); rintro e' wG ⟨rfl, hbG⟩; (try have hbG := undrew hbG); have hplG := hE.pl.below hbG hE.pl.lt; have k0 := hplG.cell_ 0; have k1 := hplG.cell_ 1; simp at k0 k1))) | (go_at_call 66; go_loud (((with_reducible refine (hcn _).mono ?_); rintro e' wX ⟨rfl, hbX⟩; have hplX := hplG.below hbX hplG.lt; have q0 := hplX.cell_ 0; have q1 := hplX.cell_ 1; simp at q0 q1; have q9 := hplX.free))))
          go_wp2_with fail
          refine hK.out _ _ ?_ (fun hNew => ?_)
          · exact trivial
          clear hK K hHeld
          have hHeld := hNew
          clear hNew
          try simp only [Act.put, pz1, pz2, pz3]
          refine wpAnyH_ready (rs := [3]) (by kernel_rfl) (by simp) ?_
          refine AllReadyH.cons (o := ⟨some 32, .call { callee := .value (.func 66), args := #[.tmp 30, .tmp 31], argTypes := #[23, 27] }, 123, "leaf.go:98", #[⟨1, .data⟩, ⟨2, .data⟩, ⟨1, .chain⟩], none⟩) rfl (fun K hK => ?_) AllReadyH.nil
          go_simp
          (first | (go_at_call 67; go_loud (((with_reducible refine (geometry_0 m gx gb Af nf cf a b c d e fs _ S (by first | exact hE.chip.chip | exact hCd)).mono ?_); rintro e' wG ⟨rfl, hbG⟩; (try have hbG := undrew hbG); have hplG := hE.pl.below hbG hE.pl.lt; have k0 := hplG.cell_ 0; have k1 := hplG.cell_ 1; simp at k0 k1))) | (go_at_call 66; go_loud (((with_reducible refine (hcn _).mono ?_); rintro e' wX ⟨rfl, hbX⟩; have hplX := hplG.below hbX hplG.lt; have q0 := hplX.cell_ 0; have q1 := hplX.cell_ 1; simp at q0 q1; have q9 := hplX.free))))
          go_wp2_with fail
          refine hK.out _ _ ?_ (fun hNew => ?_)
          · exact trivial
          clear hK K hHeld
          have hHeld := hNew
          clear hNew
          try simp only [Act.put, pz1, pz2, pz3]
          refine wpAnyH_take (i := 4) (oi := ⟨some 28, .move (.tmp 32), 123, "leaf.go:98", #[⟨3, .data⟩], none⟩) (v := ?_) rfl (by kernel_rfl) (by kernel_rfl) (by kernel_rfl) (fun _ _ _ h => h) (Or.inl ⟨by rfl, ?_⟩) (by assumption) ?_; rotate_left; (· (intro wS hSw; (try dsimp only at hSw); go_simp; (try with_reducible rfl))); try simp only [Act.put, pz1, pz2, pz3]
          refine wpAnyH_take (i := 5) (oi := ⟨some 33, .extract (.tmp 28) 0, 27, "leaf.go:98", #[⟨4, .data⟩], none⟩) (v := ?_) rfl (by kernel_rfl) (by kernel_rfl) (by kernel_rfl) (fun _ _ _ h => h) (Or.inl ⟨by rfl, ?_⟩) (by assumption) ?_; rotate_left; (· (intro wS hSw; (try dsimp only at hSw); go_simp; (try with_reducible rfl))); try simp only [Act.put, pz1, pz2, pz3]
          refine wpAnyH_take (i := 6) (oi := ⟨some 34, .extract (.tmp 28) 1, 4, "leaf.go:98", #[⟨4, .data⟩, { on := 7, ground := Ground.gcOnly Departure.lateStores }], none⟩) (v := ?_) rfl (by kernel_rfl) (by kernel_rfl) (by kernel_rfl) (fun _ _ _ h => h) (Or.inl ⟨by rfl, ?_⟩) (by assumption) ?_; rotate_left; (· (intro wS hSw; (try dsimp only at hSw); go_simp; (try with_reducible rfl))); try simp only [Act.put, pz1, pz2, pz3]
          refine wpAnyH_ready (rs := [7]) (by kernel_rfl) (by simp) ?_
          refine AllReadyH.cons (o := ⟨none, .store 27 (.tmp 5) (.tmp 33), 0, "leaf.go:98", #[⟨5, .data⟩, ⟨3, .chain⟩, ⟨0, .phase⟩, ⟨1, .phase⟩, ⟨2, .phase⟩, ⟨3, .phase⟩, ⟨4, .phase⟩, ⟨5, .phase⟩, { on := 6, ground := Ground.textOnly Departure.lateStores }], none⟩) rfl (fun K hK => ?_) AllReadyH.nil
          go_simp
          skip
          refine hK.out _ _ ?_ (fun hNew => ?_)
          · exact trivial
          clear hK K hHeld
          have hHeld := hNew
          clear hNew
          try simp only [Act.put, pz1, pz2, pz3]
          refine wpAnyH_take (i := 8) (oi := ⟨some 8, .assign (.tmp 34), 4, "leaf.go:98", #[⟨6, .data⟩, ⟨7, .chain⟩, ⟨0, .phase⟩, ⟨1, .phase⟩, ⟨2, .phase⟩, ⟨3, .phase⟩, ⟨4, .phase⟩, ⟨5, .phase⟩, ⟨6, .phase⟩, ⟨7, .phase⟩], none⟩) (v := ?_) rfl (by kernel_rfl) (by kernel_rfl) (by kernel_rfl) (fun _ _ _ h => h) (Or.inl ⟨by rfl, ?_⟩) (by assumption) ?_; rotate_left; (· (intro wS hSw; (try dsimp only at hSw); go_simp; (try with_reducible rfl))); try simp only [Act.put, pz1, pz2, pz3]
          refine wpAnyH_done (by kernel_rfl) ?_ _
          refine NoPanic.normal ?_
          clear hHeld
          go_wp2_with fail
          obtain ⟨wz, hwz⟩ : ∃ V : World, V = (wX.setCell ⟨w0.heap.size, 0, none⟩ (.int .i64 0)).setCell ⟨w0.heap.size, 1, none⟩ (.int .i64 0) := ⟨_, rfl⟩
          have HZ3 : Blk ((wX.setCell ⟨w0.heap.size, 0, none⟩ (.int .i64 0)).setCell ⟨w0.heap.size, 1, none⟩ (.int .i64 0)) w0.heap.size 27 #[.int .i64 0, .int .i64 0] := (hplX.set_ 0 (.int .i64 0)).set_ 1 (.int .i64 0)
          have TZ := (Tch.setm wX w0.heap.size 0 (.int .i64 0)).trans (Tch.setm _ w0.heap.size 1 (.int .i64 0))
          rw [← hwz] at HZ3 TZ
          rw [← hwz]
          clear hwz
          have hCX := ((hE.chip.below_ hbG).below_ hbX).far TZ (fun g hg => by subst hg; omega)
          have hG4X := TZ.blk ((hpg.below hbG hpg.lt).below hbX (hpg.below hbG hpg.lt).lt) (by omega)
          have hCPX := Cnt.tch (Cnt.tch (Cnt.tch hE.cap (Tch.of_below (S := fun _ => False) hbG) (fun g hg hS => hS)) (Tch.of_below (S := fun _ => False) hbX) (fun g hg hS => hS)) TZ (fun g hg hS => by subst hS; rcases hg with hg | hg | hg <;> omega)
          have hTX := ((hE.tch.then hbG).then hbX).trans (TZ.mono (S' := (fun g => chB m gx gb g ∨ cB ga gb2 gc g ∨ w0.heap.size ≤ g)) (fun g hg => by subst hg; exact Or.inr (Or.inr (Nat.le_refl _))))
          refine jumpsQ_ret ?_
          go_ret
          unfold countE
          rw [HRE.out]
          exact ⟨rfl, hCX.chip, hCPX, by show acc.length ≤ 160; omega, hTX.monoL (fun g hg h => by rcases h with h | h | h; exact Or.inl h; exact Or.inr h; omega), hE.good.mono (by omega), hE.by8⟩
  · intro hcut
    have HC := Lib.hid hcut
    clear hcut
    go_wp2
    rename_i K hK
    go_step3
    show K _ _
    refine hK _ _ ?_
    exact HC.out 1 _ _ _ (Or.inl ⟨rfl, countJ1.mk ⟨⟨hC.below_ HBW, HP3, ⟨_, _, _, _, _, _, HP4⟩, Cnt.tch hcap (Tch.of_below (S := fun _ => False) HBW) (fun g hg hS => hS), Nat.zero_le _, Tch.of_below HBW, hg.mono (by omega), h8, hAB0, by rw [Nat.zero_div]; rfl, by rw [Nat.zero_mod]; rfl⟩, hR, Nat.le_refl _⟩⟩) _ (by kernel_rfl)
end Go.Proofs.Ytcpniplfkillbaa
namespace Go.Proofs.Ytcpniplfkillbaa
open Go.ChangeShapes Go.WideShapes Go.ChangeAt Go.RowKit
attribute [local go_sem ↓] Go.wp_at_zero Go.wp_at_succ
theorem scan_ok (m gx gb : Nat) (Af : Option Addr) (nf cf : Nat) (a b c d e : Int) (fs : List Flt) (NA NB : Nat) (n0 : Int) (acc : List Vis) (s S1 : ChS) (w : World) (hC : ChipW w m gx gb Af nf cf a b c d e fs s) (hg : Good s n0) (hn0 : n0 ≤ 800000000) (h8 : Bytes8 s.X) (hNA : (NA : Int) = a) (hNB : (NB : Int) = b) (hR : Hid (walkF a b c NB fs (NA * NB) 0 s [] = (0, acc, S1))) (n : Nat) (hn : Hid ((fdsOf acc).length = n)) :
    Calls Try.prog 16 #[.pointer (some ⟨m, 0, none⟩)] w fun e' w' => (∃ A c', e' = .returned (.tuple #[.slice A n c', .int .i64 0]) ∧ RowFd w' w.heap.size (.slice A n c') (fdsOf acc)) ∧ ChipW w' m gx gb Af nf cf a b c d e fs S1 ∧ Tch (chB m gx gb) w w' ∧ Good S1 (n0 + 1000) ∧ Bytes8 S1.X := by
  have HN := hn
  have hCN := (ChN.start hC).below_ (show Below w.heap.size w (w.alloc (.cells #[.slice none 0 0] 51)) from (Below.refl _ _).alloc (Nat.le_refl _) _)
  have hsz1 : w.heap.size ≤ (w.alloc (.cells #[.slice none 0 0] 51)).heap.size := by simp
  have hB1 : Blk (w.alloc (.cells #[.slice none 0 0] 51)) w.heap.size 51 #[.slice none 0 0] := Blk.new_ _ _ _
  have hgs : w.heap.size ≤ w.heap.size ∧ w.heap.size < (w.alloc (.cells #[.slice none 0 0] 51)).heap.size := ⟨Nat.le_refl _, hB1.lt⟩
  have hcap : Cap (w.alloc (.cells #[.slice none 0 0] 51)) w.heap.size ((w.alloc (.cells #[.slice none 0 0] 51)).heap.size + 2) (fdsOf []) := ⟨⟨_, hB1, RowFd.nil_ _ _⟩, by have := hB1.lt; omega⟩
  have hBW : Below w.heap.size w (w.alloc (.cells #[.slice none 0 0] 51)) := (Below.refl _ _).alloc (Nat.le_refl _) _
  have HNA := Lib.hid (And.intro hNA hNB)
  have hmf : ∀ (fn : Fn) (first cap : Array Value) (w : World), (Instr.makeFunc fn first cap).run Try.prog w = .ok (.func fn first cap) w := fun _ _ _ _ => rfl
  go_enter Try.func16, Try.ntmps16
  go_wp2_with (go_at_call 37; go_loud (((with_reducible refine (each_scan (w.alloc (.cells #[.slice none 0 0] 51)) n0 m gx gb Af nf cf a b c d e fs w.heap.size NA NB w.heap.size s (0, acc, S1) hCN hsz1 hgs hcap hg hn0 h8 hNA hNB hR).mono ?_); rintro e' wE hX; obtain ⟨rfl, hCE, hKE, hlE, hTE, hGE, hBE⟩ := hX; obtain ⟨⟨v, hvB, hvR⟩, -⟩ := hKE; obtain ⟨A2, c2, hv, -, -, -⟩ := hvR.sl; rw [HN.out] at hv; subst hv; have z0 := hvB.cell_ 0; simp at z0)))
  go_ret2
  refine ⟨⟨_, _, rfl, hvR.base (by simp; omega)⟩, hCE, ?_, hGE, hBE⟩
  exact ((Tch.of_below (S := fun g => chB m gx gb g ∨ g = w.heap.size) hBW).trans hTE).monoL (fun g hg h => by rcases h with h | h; exact h; omega)
theorem count_ok (m gx gb : Nat) (Af : Option Addr) (nf cf : Nat) (a b c d e : Int) (fs : List Flt) (NA NB : Nat) (n0 : Int) (acc : List Vis) (s S1 : ChS) (w : World) (hC : ChipW w m gx gb Af nf cf a b c d e fs s) (hg : Good s n0) (hn0 : n0 ≤ 800000000) (h8 : Bytes8 s.X) (hNA : (NA : Int) = a) (hNB : (NB : Int) = b) (hR : Hid (walkF a b c NB fs (NA * NB) 0 s [] = (0, acc, S1))) (p q r : Nat) (hp : Hid (cnt (fun s => s == 0) acc = p ∧ cnt (fun s => s == 1) acc = q ∧ cnt (fun s => !(s == 0 || s == 1)) acc = r)) :
    Calls Try.prog 18 #[.pointer (some ⟨m, 0, none⟩)] w fun e' w' => e' = .returned (.tuple #[.int .i64 (p : Int), .int .i64 (q : Int), .int .i64 (r : Int), .int .i64 0]) ∧ ChipW w' m gx gb Af nf cf a b c d e fs S1 ∧ Tch (chB m gx gb) w w' ∧ Good S1 (n0 + 1000) ∧ Bytes8 S1.X := by
  have HP := hp
  have hBW : Below w.heap.size w (((w.alloc (.cells #[.int .i64 0] 3)).alloc (.cells #[.int .i64 0] 3)).alloc (.cells #[.int .i64 0] 3)) := (((Below.refl _ _).alloc (Nat.le_refl _) _).alloc (by simp) _).alloc (by simp; omega) _
  have hCN := (ChN.start hC).below_ hBW
  have hsz1 : w.heap.size ≤ (((w.alloc (.cells #[.int .i64 0] 3)).alloc (.cells #[.int .i64 0] 3)).alloc (.cells #[.int .i64 0] 3)).heap.size := by simp; omega
  have hB1 : Blk (((w.alloc (.cells #[.int .i64 0] 3)).alloc (.cells #[.int .i64 0] 3)).alloc (.cells #[.int .i64 0] 3)) w.heap.size 3 #[.int .i64 0] := ((Blk.new_ w _ _).alloc_ _).alloc_ _
  have hB2 : Blk (((w.alloc (.cells #[.int .i64 0] 3)).alloc (.cells #[.int .i64 0] 3)).alloc (.cells #[.int .i64 0] 3)) (w.heap.size + 1) 3 #[.int .i64 0] := (blk_new (by simp)).alloc_ _
  have hB3 : Blk (((w.alloc (.cells #[.int .i64 0] 3)).alloc (.cells #[.int .i64 0] 3)).alloc (.cells #[.int .i64 0] 3)) (w.heap.size + 2) 3 #[.int .i64 0] := blk_new (by simp)
  have hgs : w.heap.size ≤ w.heap.size ∧ w.heap.size < (((w.alloc (.cells #[.int .i64 0] 3)).alloc (.cells #[.int .i64 0] 3)).alloc (.cells #[.int .i64 0] 3)).heap.size ∧ w.heap.size ≤ w.heap.size + 1 ∧ w.heap.size + 1 < (((w.alloc (.cells #[.int .i64 0] 3)).alloc (.cells #[.int .i64 0] 3)).alloc (.cells #[.int .i64 0] 3)).heap.size ∧ w.heap.size ≤ w.heap.size + 2 ∧ w.heap.size + 2 < (((w.alloc (.cells #[.int .i64 0] 3)).alloc (.cells #[.int .i64 0] 3)).alloc (.cells #[.int .i64 0] 3)).heap.size := ⟨Nat.le_refl _, hB1.lt, by omega, hB2.lt, by omega, hB3.lt⟩
  have hcap : Cnt (((w.alloc (.cells #[.int .i64 0] 3)).alloc (.cells #[.int .i64 0] 3)).alloc (.cells #[.int .i64 0] 3)) w.heap.size (w.heap.size + 1) (w.heap.size + 2) (cnt (fun s => s == 0) []) (cnt (fun s => s == 1) []) (cnt (fun s => !(s == 0 || s == 1)) []) := ⟨hB1, hB2, hB3, by omega, by omega, by omega⟩
  have HNA := Lib.hid (And.intro hNA hNB)
  have hmf : ∀ (fn : Fn) (first cap : Array Value) (w : World), (Instr.makeFunc fn first cap).run Try.prog w = .ok (.func fn first cap) w := fun _ _ _ _ => rfl
  go_enter Try.func18, Try.ntmps18
  go_upto_region 5 with (go_at_call 37; go_loud (((with_reducible refine (each_count (((w.alloc (.cells #[.int .i64 0] 3)).alloc (.cells #[.int .i64 0] 3)).alloc (.cells #[.int .i64 0] 3)) n0 m gx gb Af nf cf a b c d e fs w.heap.size NA NB w.heap.size (w.heap.size + 1) (w.heap.size + 2) s (0, acc, S1) hCN hsz1 hgs hcap hg hn0 h8 hNA hNB hR).mono ?_); rintro e' wE hX; obtain ⟨rfl, hCE, hKE, hlE, hTE, hGE, hBE⟩ := hX; have hK2 : Cnt wE w.heap.size (w.heap.size + 1) (w.heap.size + 2) p q r := (by have h := hKE; dsimp only at h; rw [HP.out.1, HP.out.2.1, HP.out.2.2] at h; exact h); have z0 := hK2.a.cell_ 0; have z1 := hK2.b.cell_ 0; have z2 := hK2.c.cell_ 0; simp at z0 z1 z2; clear hKE)))
  refine wp_region_noPanic ?_
  refine wp_region_held_drew (S := (fun w' => w'.cell? ⟨w.heap.size, 0, none⟩ = some (.int .i64 (p : Int)) ∧ w'.cell? ⟨w.heap.size + 1, 0, none⟩ = some (.int .i64 (q : Int)) ∧ w'.cell? ⟨w.heap.size + 2, 0, none⟩ = some (.int .i64 (r : Int)))) (by kernel_rfl) ?_ (fun hHeld => ?_)
  · (first | exact ⟨z0, z1, z2⟩ | assumption)
  refine wpAnyH_take (i := 0) (oi := ⟨some 16, .load 3 (.tmp 6), 3, "leaf.go:72", #[], none⟩) (v := ?_) rfl (by kernel_rfl) (by kernel_rfl) (by kernel_rfl) (fun _ _ _ h => h) (Or.inl ⟨by rfl, ?_⟩) (by assumption) ?_; rotate_left; (· (intro wS hSw; (try dsimp only at hSw); go_simp; (try with_reducible rfl))); try simp only [Act.put, pz1, pz2, pz3]
  refine wpAnyH_take (i := 1) (oi := ⟨some 17, .load 3 (.tmp 7), 3, "leaf.go:72", #[{ on := 3, ground := Ground.gcOnly Departure.lateStores }], none⟩) (v := ?_) rfl (by kernel_rfl) (by kernel_rfl) (by kernel_rfl) (fun _ _ _ h => h) (Or.inl ⟨by rfl, ?_⟩) (by assumption) ?_; rotate_left; (· (intro wS hSw; (try dsimp only at hSw); go_simp; (try with_reducible rfl))); try simp only [Act.put, pz1, pz2, pz3]
  refine wpAnyH_take (i := 2) (oi := ⟨some 18, .load 3 (.tmp 8), 3, "leaf.go:72", #[{ on := 4, ground := Ground.gcOnly Departure.lateStores }], none⟩) (v := ?_) rfl (by kernel_rfl) (by kernel_rfl) (by kernel_rfl) (fun _ _ _ h => h) (Or.inl ⟨by rfl, ?_⟩) (by assumption) ?_; rotate_left; (· (intro wS hSw; (try dsimp only at hSw); go_simp; (try with_reducible rfl))); try simp only [Act.put, pz1, pz2, pz3]
  refine wpAnyH_take (i := 3) (oi := ⟨some 2, .assign (.tmp 16), 3, "leaf.go:72", #[⟨0, .data⟩, ⟨0, .phase⟩, { on := 1, ground := Ground.textOnly Departure.lateStores }, { on := 2, ground := Ground.textOnly Departure.lateStores }], none⟩) (v := ?_) rfl (by kernel_rfl) (by kernel_rfl) (by kernel_rfl) (fun _ _ _ h => h) (Or.inl ⟨by rfl, ?_⟩) (by assumption) ?_; rotate_left; (· (intro wS hSw; (try dsimp only at hSw); go_simp; (try with_reducible rfl))); try simp only [Act.put, pz1, pz2, pz3]
  refine wpAnyH_take (i := 4) (oi := ⟨some 3, .assign (.tmp 17), 3, "leaf.go:72", #[⟨1, .data⟩, ⟨3, .chain⟩, ⟨0, .phase⟩, ⟨1, .phase⟩, { on := 2, ground := Ground.textOnly Departure.lateStores }, ⟨3, .phase⟩], none⟩) (v := ?_) rfl (by kernel_rfl) (by kernel_rfl) (by kernel_rfl) (fun _ _ _ h => h) (Or.inl ⟨by rfl, ?_⟩) (by assumption) ?_; rotate_left; (· (intro wS hSw; (try dsimp only at hSw); go_simp; (try with_reducible rfl))); try simp only [Act.put, pz1, pz2, pz3]
  refine wpAnyH_take (i := 5) (oi := ⟨some 4, .assign (.tmp 18), 3, "leaf.go:72", #[⟨2, .data⟩, ⟨4, .chain⟩, ⟨0, .phase⟩, ⟨1, .phase⟩, ⟨2, .phase⟩, ⟨3, .phase⟩, ⟨4, .phase⟩], none⟩) (v := ?_) rfl (by kernel_rfl) (by kernel_rfl) (by kernel_rfl) (fun _ _ _ h => h) (Or.inl ⟨by rfl, ?_⟩) (by assumption) ?_; rotate_left; (· (intro wS hSw; (try dsimp only at hSw); go_simp; (try with_reducible rfl))); try simp only [Act.put, pz1, pz2, pz3]
  refine wpAnyH_take (i := 6) (oi := ⟨some 5, .assign (.const (.int .i64 0)), 33, "leaf.go:72", #[⟨5, .chain⟩, ⟨0, .phase⟩, ⟨1, .phase⟩, ⟨2, .phase⟩, ⟨3, .phase⟩, ⟨4, .phase⟩, ⟨5, .phase⟩], none⟩) (v := ?_) rfl (by kernel_rfl) (by kernel_rfl) (by kernel_rfl) (fun _ _ _ h => h) (Or.inl ⟨by rfl, ?_⟩) (by assumption) ?_; rotate_left; (· (intro wS hSw; (try dsimp only at hSw); go_simp; (try with_reducible rfl))); try simp only [Act.put, pz1, pz2, pz3]
  refine wpAnyH_done (by kernel_rfl) ?_ _
  refine NoPanic.normal ?_
  clear hHeld
  go_wp2_with fail
  refine bodyPost_ret (v := .tuple #[.int .i64 (p : Int), .int .i64 (q : Int), .int .i64 (r : Int), .int .i64 0]) (by simp [results, Try.results18, go_sem]) rfl ⟨rfl, (by first | exact hCE | exact hCE.like), ?_, hGE, hBE⟩
  have hTF := ((Tch.of_below (S := fun g => chB m gx gb g ∨ cB w.heap.size (w.heap.size + 1) (w.heap.size + 2) g) hBW).trans hTE).monoL (S' := chB m gx gb) (fun g hg h => by rcases h with h | h | h | h; exact h; omega; omega; omega)
  (first | exact hTF | exact hTF.like)
theorem state_yes (m gx gb : Nat) (Af : Option Addr) (nf cf : Nat) (a b c d e : Int) (fs : List Flt) (x y : Int) (n0 : Int) (w : World) (s : ChS) (hC : ChipW w m gx gb Af nf cf a b c d e fs s) (hs : Fine s n0) (hn0 : n0 ≤ 900000000) (D : List Nat) (n K P S E st : Nat) (S1 : ChS) (bs : List Nat) (h8 : Bytes8 bs) (hl : bs.length ≤ 1000000) (hZ : Hid (s.readZ a b x y = 0 ∧ s.readB a b c x y = bs ∧ s.readS a b x y = S1)) (hk : Hid (Lk bs D n K P S E st)) :
    Calls Try.prog 8 #[.pointer (some ⟨m, 0, none⟩), .agg #[.int .i64 x, .int .i64 y]] w fun e' w' => e' = .returned (.tuple #[.int .i64 (st : Nat), .int .i64 0]) ∧ ChipW w' m gx gb Af nf cf a b c d e fs S1 ∧ Tch (chB m gx gb) w w' := by
  have hB0 : Below w.heap.size w (w.alloc (.cells #[.int .i64 x, .int .i64 y] 27)) := (Below.refl _ _).alloc (Nat.le_refl _) _
  have hC1 := hC.below hB0
  go_enter Try.func8, Try.ntmps8
  go_wp2_with (go_at_call 34; go_loud (((with_reducible refine (look_yes m gx gb Af nf cf a b c d e fs x y n0 _ s hC1 hs hn0 D n K P S E st S1 bs h8 hl hZ hk).mono ?_); rintro e' wL ⟨⟨A2, c2, rfl, hoL⟩, hCL, hTL⟩; have hTL2 := (Tch.of_below (S := chB m gx gb) hB0).trans hTL)))
  go_ret2
  exact ⟨rfl, hCL.below ((Below.refl _ _).alloc (Nat.le_refl _) _), hTL2.then ((Below.refl _ _).alloc (Nat.le_refl _) _)⟩
theorem lookn_any (x y : Int) (w : World) : Calls Try.prog 34 #[.pointer none, .agg #[.int .i64 x, .int .i64 y]] w fun e' w' => e' = .returned (.tuple #[.agg #[.slice none 0 0, .int .i64 0, .int .i64 0, .int .i64 0, .int .i64 0, .int .i64 0], .int .i64 1]) ∧ Below w.heap.size w w' := by
  obtain ⟨W1, hW1⟩ : ∃ W : World, W = (w.alloc (.cells #[.int .i64 x, .int .i64 y] 27)).alloc (.cells #[.slice none 0 0, .int .i64 0, .int .i64 0, .int .i64 0, .int .i64 0, .int .i64 0] 83) := ⟨_, rfl⟩
  have HB1 : Below w.heap.size w W1 := by rw [hW1]; exact ((Below.refl _ _).alloc (Nat.le_refl _) _).alloc (by simp) _
  have G3 : Blk W1 w.heap.size 27 #[.int .i64 x, .int .i64 y] := by rw [hW1]; exact (Blk.new_ w _ _).alloc_ _
  have G4 : Blk W1 (w.heap.size + 1) 83 #[.slice none 0 0, .int .i64 0, .int .i64 0, .int .i64 0, .int .i64 0, .int .i64 0] := by rw [hW1]; exact blk_new (by simp)
  have z0 := G3.cell_ 0
  have z1 := G3.cell_ 1
  simp at z0 z1
  have HW1 := Lib.hid hW1
  clear hW1
  go_enter Try.func34, Try.ntmps34
  go_upto_region 1 with fail
  rw [← HW1.out]
  go_wp2_with (go_at_call 63; go_loud (((with_reducible refine (read_nil x y W1).mono ?_); rintro e' wR ⟨rfl, hbR⟩; have G4R := G4.below hbR G4.lt; obtain ⟨y0, y1, y2, y3, y4, y5⟩ := cells6 G4R; have y9 := G4R.free)))
  obtain ⟨wz, hwz⟩ : ∃ V : World, V = st6 wR (w.heap.size + 1) (.slice none 0 0) (.int .i64 0) (.int .i64 0) (.int .i64 0) (.int .i64 0) (.int .i64 0) := ⟨_, rfl⟩
  have HZ := st6_blk G4R (.slice none 0 0) (.int .i64 0) (.int .i64 0) (.int .i64 0) (.int .i64 0) (.int .i64 0)
  have TZ := st6_tch wR (w.heap.size + 1) (.slice none 0 0) (.int .i64 0) (.int .i64 0) (.int .i64 0) (.int .i64 0) (.int .i64 0)
  rw [← hwz] at HZ TZ
  unfold st6 at hwz
  rw [← hwz]
  obtain ⟨x0, x1, x2, x3, x4, x5⟩ := cells6 HZ
  have hBB := btr HB1 HB1.size hbR
  refine bodyPost_ret (v := .tuple #[.agg #[.slice none 0 0, .int .i64 0, .int .i64 0, .int .i64 0, .int .i64 0, .int .i64 0], .int .i64 1]) (by simp [results, Try.results34, go_sem, x0, x1, x2, x3, x4, x5]) rfl ⟨rfl, ?_⟩
  exact hBB.trans (TZ.below (by have := hBB.size; omega) (fun g hg => by subst hg; omega))
theorem state_nil (x y : Int) (w : World) : Calls Try.prog 8 #[.pointer none, .agg #[.int .i64 x, .int .i64 y]] w fun e' w' => e' = .returned (.tuple #[.int .i64 0, .int .i64 1]) ∧ Below w.heap.size w w' := by
  have hB0 : Below w.heap.size w (w.alloc (.cells #[.int .i64 x, .int .i64 y] 27)) := (Below.refl _ _).alloc (Nat.le_refl _) _
  go_enter Try.func8, Try.ntmps8
  go_wp2_with (go_at_call 34; go_loud (((with_reducible refine (lookn_any x y _).mono ?_); rintro e' wL ⟨rfl, hbL⟩)))
  go_ret2
  exact ⟨rfl, (btr hB0 hB0.size hbL).alloc (by have := (btr hB0 hB0.size hbL).size; omega) _⟩
end Go.Proofs.Ytcpniplfkillbaa
namespace Go.Proofs.Ytcpniplfkillbaa
open Go.ChangeShapes Go.WideShapes Go.ChangeAt Go.RowKit
attribute [local go_sem ↓] Go.wp_at_zero Go.wp_at_succ
def iV : Value → Int
  | .int _ q => q
  | _ => 0
theorem set_8 {ys : List Nat} (h : Bytes8 ys) {k n : Nat} (hn : n < 256) : Bytes8 (ys.set k n) := by
  intro x hx
  rcases List.mem_or_eq_of_mem_set hx with hx | rfl
  · exact h x hx
  · exact hn
theorem row_set {w : World} {g : Nat} {ys : List Nat} (h : RowT w g 5 (ys.map byteV)) {k n : Nat} (hk : k < ys.length) : RowT (w.setCell ⟨g, k, none⟩ (.int .u8 (n : Nat))) g 5 ((ys.set k n).map byteV) := by
  have := h.set_ (i := k) (by simpa using hk) (byteV n)
  rw [List.map_set]
  exact this
theorem row_sl {w : World} {g : Nat} {ys : List Nat} (h : RowT w g 5 (ys.map byteV)) : Sl w w.heap.size (some ⟨g, 0, none⟩) (ys.map byteV) := Or.inr ⟨g, 0, rfl, h.lt, fun j u hu => by rw [Nat.zero_add]; exact h.cell_ hu⟩
theorem own_cut {w : World} {base n : Nat} {v : Value} {xs : List Value} (h : w.ownsRow base 5 1 v n xs) (hn : 0 < n) : ∃ g c, v = .slice (some ⟨g, 0, none⟩) n c ∧ RowT w g 5 xs ∧ base ≤ g ∧ n ≤ c ∧ c ≤ maxLen := by
  have h0 := h
  rcases h.2 with ⟨_, h1⟩ | ⟨g, cap, cur, rfl, h1, h2, h3, h4, h5⟩
  · omega
  · exact ⟨g, cap, rfl, RowT.own h0, h1, h3, h4⟩
theorem run_zeros (w : World) (g C : Nat) (ys : List Nat) (hl : ys.length = C) (h : RowT w g 5 (ys.map byteV)) (h64 : C ≤ 64) :
    ∃ w' cA, (Builtin.append_ #[38, 3] 38 #[.slice (some ⟨g, 0, none⟩) C C, .int .i64 16]).run Try.prog w = .ok (.slice (some ⟨w.heap.size, 0, none⟩) (C + 16) cA) w' ∧ RowT w' w.heap.size 5 ((ys ++ List.replicate 16 0).map byteV) ∧ Below w.heap.size w w' ∧ C + 16 ≤ cA ∧ cA ≤ maxLen := by
  obtain ⟨ti0, hi, hz0, hz1, hz2⟩ := info_parts infoByte
  have hold : (Builtin.firstCells ti0.size C (.slice (some ⟨g, 0, none⟩) C C)).run Try.prog w.drew = .ok (ys.map byteV).toArray w.drew := by
    rw [hz1]
    refine run_firstCells_some w.drew 1 C ⟨g, 0, none⟩ C C (ys.map byteV) (by simp [hl]) (fun j v hj => ?_)
    have hc := h.cell_ hj
    have e : (⟨g, 0, none⟩ : Addr).add j = ⟨g, j, none⟩ := by unfold Addr.add; split <;> simp_all
    rw [e]
    exact hc
  have hrun := Lib.run_append_grow_zeros (P := Try.prog) w 38 3 38 5 ti0 (.int .u8 0) .i64 .i64 Try.underlying38 Try.underlying3 hi hz0 (some ⟨g, 0, none⟩) C C (ys.map byteV) hold 16 (by omega) (by rw [hz1]; omega) (by omega) (by omega) (by rw [hz2]; omega) (growslice_fits (by omega) (by rw [hz2]; omega))
  refine ⟨_, _, hrun, ?_, ((Below.refl _ _).drew).alloc (Nat.le_refl _) _, grownCap_ge _ _ _ _, grownCap_le_maxLen _ _ _ _ (by unfold maxLen; omega)⟩
  refine ⟨(Builtin.zeroCells (Value.int .u8 0).cells (grownCap w (C + 16) C 5 - (C + 16))).toList, ?_⟩
  have hb := Blk.new_ w.drew 5 ((ys.map byteV).toArray ++ Builtin.zeroCells (Value.int .u8 0).cells 16 ++ Builtin.zeroCells (Value.int .u8 0).cells (grownCap w (C + 16) C 5 - (C + 16)))
  have e : ((ys.map byteV).toArray ++ Builtin.zeroCells (Value.int .u8 0).cells 16 ++ Builtin.zeroCells (Value.int .u8 0).cells (grownCap w (C + 16) C 5 - (C + 16))) = ((ys ++ List.replicate 16 0).map byteV ++ (Builtin.zeroCells (Value.int .u8 0).cells (grownCap w (C + 16) C 5 - (C + 16))).toList).toArray := by
    have h16 : (Builtin.zeroCells (Value.int .u8 0).cells 16).toList = (List.replicate 16 0).map byteV := by first | kernel_rfl | (simp [Builtin.zeroCells, Value.cells, Nat.mod_one]; rfl)
    apply Array.toList_inj.1
    rw [Array.toList_append, Array.toList_append, h16, List.map_append]
  show Blk _ w.drew.heap.size _ _
  rw [← e]
  exact hb
theorem wpList_zeros {ops : Array Oper} {rest : List Oper} {o : Oper} {a : Act} {Q : Exit → Act → World → Prop} (w : World) (hgd : o.guard = none) (x : Operand) (ho : o.op = .call { callee := .builtin .append, args := #[x, .const (.int .i64 16)], argTypes := #[38, 3] }) (hty : o.type = 38)
    (g C : Nat) (ys : List Nat) (hx : a.eval x = .slice (some ⟨g, 0, none⟩) C C) (hl : ys.length = C) (h : RowT w g 5 (ys.map byteV)) (h64 : C ≤ 64)
    (hK : ∀ w' cA, RowT w' w.heap.size 5 ((ys ++ List.replicate 16 0).map byteV) → Below w.heap.size w w' → C + 16 ≤ cA → cA ≤ maxLen → wpList Try.prog ops Q rest (a.put o.dst (.slice (some ⟨w.heap.size, 0, none⟩) (C + 16) cA)) w') : wpList Try.prog ops Q (o :: rest) a w := by
  obtain ⟨w', cA, hrun, h1, h2, h3, h4⟩ := run_zeros w g C ys hl h h64
  refine wpList_plain hgd fun K hKK => ?_
  have he : a.eval (.const (.int .i64 16)) = .int .i64 16 := rfl
  unfold Oper.wp execOp
  simp only [ho, hty, resolve, invoke, builtin, Sem.run_bind, Sem.run_pure, Result.andThen_ok, List.map_toArray, List.map_cons, List.map_nil, hx, he, hrun]
  exact hKK _ _ (hK w' cA h1 h2 h3 h4)
theorem raw_any (a b c d e px py k p s f torn : Int) (nn C Q : Nat) (w : World) (hc : (C : Int) = c) (c1 : 24 ≤ C) (c2 : C ≤ 64) (hn : nn < 256) (hQ : C + 16 = Q) :
    Calls Try.prog 32 #[.agg #[.int .i64 a, .int .i64 b, .int .i64 c, .int .i64 d, .int .i64 e], .agg #[.int .i64 px, .int .i64 py, .int .u8 (nn : Nat), .int .i64 k, .int .i64 p, .int .i64 s, .int .i64 f, .int .i64 torn]] w fun e' w' => (∃ (bs : List Nat) (gA cA : Nat), e' = .returned (.slice (some ⟨gA, 0, none⟩) Q cA) ∧ bs.length = Q ∧ Bytes8 bs ∧ RowT w' gA 5 (bs.map byteV) ∧ w.heap.size ≤ gA ∧ Q ≤ cA ∧ cA ≤ maxLen) ∧ Below w.heap.size w w' := by
  subst hc
  have HBW : Below w.heap.size w ((w.alloc (.cells #[.int .i64 a, .int .i64 b, .int .i64 (C : Int), .int .i64 d, .int .i64 e] 23)).alloc (.cells #[.int .i64 px, .int .i64 py, .int .u8 (nn : Nat), .int .i64 k, .int .i64 p, .int .i64 s, .int .i64 f, .int .i64 torn] 80)) := ((Below.refl _ _).alloc (Nat.le_refl _) _).alloc (by simp) _
  have PA : Blk ((w.alloc (.cells #[.int .i64 a, .int .i64 b, .int .i64 (C : Int), .int .i64 d, .int .i64 e] 23)).alloc (.cells #[.int .i64 px, .int .i64 py, .int .u8 (nn : Nat), .int .i64 k, .int .i64 p, .int .i64 s, .int .i64 f, .int .i64 torn] 80)) w.heap.size 23 #[.int .i64 a, .int .i64 b, .int .i64 (C : Int), .int .i64 d, .int .i64 e] := (Blk.new_ w _ _).alloc_ _
  have PB : Blk ((w.alloc (.cells #[.int .i64 a, .int .i64 b, .int .i64 (C : Int), .int .i64 d, .int .i64 e] 23)).alloc (.cells #[.int .i64 px, .int .i64 py, .int .u8 (nn : Nat), .int .i64 k, .int .i64 p, .int .i64 s, .int .i64 f, .int .i64 torn] 80)) (w.heap.size + 1) 80 #[.int .i64 px, .int .i64 py, .int .u8 (nn : Nat), .int .i64 k, .int .i64 p, .int .i64 s, .int .i64 f, .int .i64 torn] := blk_new (by simp)
  have i0 : (0 : Int) ≤ (C : Int) := by omega
  have i1 : (C : Int) ≤ 64 := by omega
  go_enter Try.func32, Try.ntmps32
  go_wp2_with (at_make; go_loud (obtain ⟨ti0, hi, hz0, hz1, hz2⟩ := info_parts infoByte; refine wpList_make_full _ rfl _ _ 38 rfl w.heap.size 5 ti0 (.int .u8 0) 1 Try.underlying38 hi hz0 hz1 _ _ _ _ C rfl rfl rfl rfl (by rw [hz2]; omega) (by unfold maxLen; omega) (by simp; omega) ?_; intro w1 hown1 hgrow1; clear hi hz0 hz1 hz2))
  have hB1W : Below (((w.alloc (.cells #[.int .i64 a, .int .i64 b, .int .i64 (C : Int), .int .i64 d, .int .i64 e] 23)).alloc (.cells #[.int .i64 px, .int .i64 py, .int .u8 (nn : Nat), .int .i64 k, .int .i64 p, .int .i64 s, .int .i64 f, .int .i64 torn] 80))).heap.size (((w.alloc (.cells #[.int .i64 a, .int .i64 b, .int .i64 (C : Int), .int .i64 d, .int .i64 e] 23)).alloc (.cells #[.int .i64 px, .int .i64 py, .int .u8 (nn : Nat), .int .i64 k, .int .i64 p, .int .i64 s, .int .i64 f, .int .i64 torn] 80))) w1 := (Below.refl _ _).grown hgrow1 (Nat.le_refl _) (fun j hj => by cases hj)
  have PC1 := PA.below hB1W PA.lt
  have PC2 := PB.below hB1W PB.lt
  have hB1 := HBW.trans (hB1W.mono (by simp; omega))
  rw [show (madeCells (Value.int .u8 0).cells (C * 1)).toList = List.replicate (C * 1) (Value.int .u8 0) from toList_madeCells_one _ _, Nat.mul_one] at hown1
  have hR1 : RowT w1 (w.heap.size + 1 + 1) 5 ((List.replicate C 0).map byteV) := by
    have := RowT.own hown1
    simpa [byteV] using this
  clear hown1 hgrow1 hB1W HBW PA PB
  go_loopw [6] (fun s6 wr => ∃ (j : Nat) (ys : List Nat), j ≤ C ∧ s6 = .int .i64 (j : Int) ∧ Hid (ys.length = C) ∧ Bytes8 ys ∧ RowT wr (w.heap.size + 1 + 1) 5 (ys.map byteV) ∧ Blk wr w.heap.size 23 #[.int .i64 a, .int .i64 b, .int .i64 (C : Int), .int .i64 d, .int .i64 e] ∧ Blk wr (w.heap.size + 1) 80 #[.int .i64 px, .int .i64 py, .int .u8 (nn : Nat), .int .i64 k, .int .i64 p, .int .i64 s, .int .i64 f, .int .i64 torn] ∧ Below w.heap.size w wr) (fun s6 _ => C - (iV s6).toNat)
  case atStart => exact ⟨0, List.replicate C 0, Nat.zero_le _, rfl, Lib.hid (by simp), (fun x hx => by have := List.eq_of_mem_replicate hx; omega), hR1, PC1, PC2, hB1⟩
  case round =>
    clear hR1 PC1 PC2 hB1
    obtain ⟨j, ys, hj, rfl, HL, h8, hR, P1, P2, hB⟩ := hrel
    by_cases hlt : j < C
    · obtain ⟨yj, hyj⟩ : ∃ x, ys[j]? = some x := ⟨_, List.getElem?_eq_getElem (by rw [HL.out]; exact hlt)⟩
      have c0 : wr.cell? ⟨w.heap.size + 1 + 1, j, none⟩ = some (.int .u8 (yj : Nat)) := hR.cell_ (by rw [List.getElem?_map, hyj]; rfl)
      have f0 := hR.free j
      have q2 : wr.cell? ⟨w.heap.size + 1, 2, none⟩ = some (.int .u8 (nn : Nat)) := P2.cell_ 2
      have j0 : (0 : Int) ≤ (j : Int) := by omega
      have j1 : (j : Int) < (C : Int) := by omega
      clear hyj
      go_wp2_with fail
      go_roundw
      case rel => exact ⟨j + 1, ys.set j nn, by omega, by go_num, Lib.hid (by rw [List.length_set]; exact HL.out), set_8 h8 hn, row_set hR (by rw [HL.out]; exact hlt), P1.far (p := ⟨w.heap.size + 1 + 1, j, none⟩) (by show w.heap.size ≠ w.heap.size + 1 + 1; omega) _, P2.far (p := ⟨w.heap.size + 1 + 1, j, none⟩) (by show w.heap.size + 1 ≠ w.heap.size + 1 + 1; omega) _, hB.setCell (by show w.heap.size ≤ w.heap.size + 1 + 1; omega) _⟩
      case measure => simp [iV]; omega
    · have hjC : j = C := by omega
      subst hjC
      have q3 : wr.cell? ⟨w.heap.size + 1, 3, none⟩ = some (.int .i64 k) := P2.cell_ 3
      have q4 : wr.cell? ⟨w.heap.size + 1, 4, none⟩ = some (.int .i64 p) := P2.cell_ 4
      have q5 : wr.cell? ⟨w.heap.size + 1, 5, none⟩ = some (.int .i64 s) := P2.cell_ 5
      have q6 : wr.cell? ⟨w.heap.size + 1, 6, none⟩ = some (.int .i64 f) := P2.cell_ 6
      have hsl := row_sl hR
      rcases lay_cases ys h8 k p s f with hno | ⟨K, P, S, E, rfl, rfl, rfl, rfl, hok⟩
      · have hlay := rlay_no ys (some ⟨w.heap.size + 1 + 1, 0, none⟩) j k p s f wr hno (by rw [HL.out]; omega)
        rw [HL.out] at hlay
        have H8Z : Bytes8 (ys ++ List.replicate 16 0) := fun x hx => by
          rcases List.mem_append.1 hx with hx | hx
          · exact h8 x hx
          · have := List.eq_of_mem_replicate hx
            omega
        clear hno
        subst hQ
        by_cases ht : torn < 0
        · have t0 : ¬ (0 : Int) ≤ torn := by omega
          go_wp2_with (first | (go_at_call 28; go_loud (((with_reducible refine (hlay).mono ?_); rintro e' wL ⟨rfl, hbL⟩; have hLB0 := btr hB hB.size hbL; have hRL := hR.below hbL; have P2L := P2.below hbL P2.lt; have qL7 : wL.cell? ⟨w.heap.size + 1, 7, none⟩ = some (.int .i64 torn) := P2L.cell_ 7))) | (at_builtin; go_loud (refine wpList_zeros wL rfl (.tmp 34) rfl rfl (w.heap.size + 1 + 1) j ys rfl HL.out hRL c2 ?_; intro w9 cA hR9 hB9 hcA1 hcA2; have hLB := btr hLB0 hLB0.size hB9; have P2X := P2L.below hB9 P2L.lt; have q7 : w9.cell? ⟨w.heap.size + 1, 7, none⟩ = some (.int .i64 torn) := P2X.cell_ 7; have HL9 : Hid ((ys ++ List.replicate 16 0).length = j + 16) := Lib.hid (by rw [List.length_append, HL.out, List.length_replicate]); have hg9 : w.heap.size ≤ wL.heap.size := hLB0.size)))
          go_loopw [10] (fun s10 wy => ∃ (i : Nat) (zs : List Nat), i ≤ j + 16 ∧ s10 = .int .i64 (i : Int) ∧ Hid (zs.length = j + 16) ∧ Bytes8 zs ∧ RowT wy wL.heap.size 5 (zs.map byteV) ∧ Below w.heap.size w wy) (fun s10 _ => j + 16 - (iV s10).toNat)
          case atStart => exact ⟨j + 16, (ys ++ List.replicate 16 0), by omega, by go_num, HL9, H8Z, hR9, hLB⟩
          case round =>
            clear hR P1 P2 hB hlay hsl q3 q4 q5 q6 q7
            obtain ⟨i, zs, hi, rfl, HZ, h8z, hRz, hBz⟩ := hrel
            by_cases hli : i < j + 16
            · obtain ⟨zj, hzj⟩ : ∃ x, zs[i]? = some x := ⟨_, List.getElem?_eq_getElem (by rw [HZ.out]; exact hli)⟩
              have d0 : wr.cell? ⟨wL.heap.size, i, none⟩ = some (.int .u8 (zj : Nat)) := hRz.cell_ (by rw [List.getElem?_map, hzj]; rfl)
              have d1 := hRz.free i
              have d2 : (0 : Int) ≤ (i : Int) := by omega
              have d3 : (i : Int) < (j : Int) + 16 := by omega
              clear hzj
              go_wp2_with fail
              go_roundw
              case rel => exact ⟨i + 1, zs.set i 255, by omega, by go_num, Lib.hid (by rw [List.length_set]; exact HZ.out), set_8 h8z (by omega), row_set hRz (by rw [HZ.out]; exact hli), hBz.setCell hg9 _⟩
              case measure => simp [iV]; omega
            · have d3 : ¬ (i : Int) < (j : Int) + 16 := by omega
              go_wp2_with fail
              go_ret
              exact ⟨⟨zs, _, _, rfl, HZ.out, h8z, hRz, hg9, hcA1, hcA2⟩, hBz⟩
        · obtain ⟨T, rfl⟩ : ∃ T : Nat, torn = (T : Int) := ⟨torn.toNat, by omega⟩
          have t0 : (0 : Int) ≤ (T : Int) := by omega
          by_cases hT : T ≤ j + 16
          · have t1 : (T : Int) ≤ (j : Int) + 16 := by omega
            go_wp2_with (first | (go_at_call 28; go_loud (((with_reducible refine (hlay).mono ?_); rintro e' wL ⟨rfl, hbL⟩; have hLB0 := btr hB hB.size hbL; have hRL := hR.below hbL; have P2L := P2.below hbL P2.lt; have qL7 : wL.cell? ⟨w.heap.size + 1, 7, none⟩ = some (.int .i64 (T : Int)) := P2L.cell_ 7))) | (at_builtin; go_loud (refine wpList_zeros wL rfl (.tmp 34) rfl rfl (w.heap.size + 1 + 1) j ys rfl HL.out hRL c2 ?_; intro w9 cA hR9 hB9 hcA1 hcA2; have hLB := btr hLB0 hLB0.size hB9; have P2X := P2L.below hB9 P2L.lt; have q7 : w9.cell? ⟨w.heap.size + 1, 7, none⟩ = some (.int .i64 (T : Int)) := P2X.cell_ 7; have HL9 : Hid ((ys ++ List.replicate 16 0).length = j + 16) := Lib.hid (by rw [List.length_append, HL.out, List.length_replicate]); have hg9 : w.heap.size ≤ wL.heap.size := hLB0.size)))
            all_goals (try omega)
            go_loopw [10] (fun s10 wy => ∃ (i : Nat) (zs : List Nat), i ≤ j + 16 ∧ s10 = .int .i64 (i : Int) ∧ Hid (zs.length = j + 16) ∧ Bytes8 zs ∧ RowT wy wL.heap.size 5 (zs.map byteV) ∧ Below w.heap.size w wy) (fun s10 _ => j + 16 - (iV s10).toNat)
            case atStart => exact ⟨T, (ys ++ List.replicate 16 0), by omega, by go_num, HL9, H8Z, hR9, hLB⟩
            case round =>
              clear hR P1 P2 hB hlay hsl q3 q4 q5 q6 q7
              obtain ⟨i, zs, hi, rfl, HZ, h8z, hRz, hBz⟩ := hrel
              by_cases hli : i < j + 16
              · obtain ⟨zj, hzj⟩ : ∃ x, zs[i]? = some x := ⟨_, List.getElem?_eq_getElem (by rw [HZ.out]; exact hli)⟩
                have d0 : wr.cell? ⟨wL.heap.size, i, none⟩ = some (.int .u8 (zj : Nat)) := hRz.cell_ (by rw [List.getElem?_map, hzj]; rfl)
                have d1 := hRz.free i
                have d2 : (0 : Int) ≤ (i : Int) := by omega
                have d3 : (i : Int) < (j : Int) + 16 := by omega
                clear hzj
                go_wp2_with fail
                go_roundw
                case rel => exact ⟨i + 1, zs.set i 255, by omega, by go_num, Lib.hid (by rw [List.length_set]; exact HZ.out), set_8 h8z (by omega), row_set hRz (by rw [HZ.out]; exact hli), hBz.setCell hg9 _⟩
                case measure => simp [iV]; omega
              · have d3 : ¬ (i : Int) < (j : Int) + 16 := by omega
                go_wp2_with fail
                go_ret
                exact ⟨⟨zs, _, _, rfl, HZ.out, h8z, hRz, hg9, hcA1, hcA2⟩, hBz⟩
          · have t1 : (j : Int) + 16 < (T : Int) := by omega
            go_wp2_with (first | (go_at_call 28; go_loud (((with_reducible refine (hlay).mono ?_); rintro e' wL ⟨rfl, hbL⟩; have hLB0 := btr hB hB.size hbL; have hRL := hR.below hbL; have P2L := P2.below hbL P2.lt; have qL7 : wL.cell? ⟨w.heap.size + 1, 7, none⟩ = some (.int .i64 (T : Int)) := P2L.cell_ 7))) | (at_builtin; go_loud (refine wpList_zeros wL rfl (.tmp 34) rfl rfl (w.heap.size + 1 + 1) j ys rfl HL.out hRL c2 ?_; intro w9 cA hR9 hB9 hcA1 hcA2; have hLB := btr hLB0 hLB0.size hB9; have P2X := P2L.below hB9 P2L.lt; have q7 : w9.cell? ⟨w.heap.size + 1, 7, none⟩ = some (.int .i64 (T : Int)) := P2X.cell_ 7; have HL9 : Hid ((ys ++ List.replicate 16 0).length = j + 16) := Lib.hid (by rw [List.length_append, HL.out, List.length_replicate]); have hg9 : w.heap.size ≤ wL.heap.size := hLB0.size)))
            all_goals (try omega)
            go_loopw [10] (fun s10 wy => ∃ (i : Nat) (zs : List Nat), i ≤ j + 16 ∧ s10 = .int .i64 (i : Int) ∧ Hid (zs.length = j + 16) ∧ Bytes8 zs ∧ RowT wy wL.heap.size 5 (zs.map byteV) ∧ Below w.heap.size w wy) (fun s10 _ => j + 16 - (iV s10).toNat)
            case atStart => exact ⟨j + 16, (ys ++ List.replicate 16 0), by omega, by go_num, HL9, H8Z, hR9, hLB⟩
            case round =>
              clear hR P1 P2 hB hlay hsl q3 q4 q5 q6 q7
              obtain ⟨i, zs, hi, rfl, HZ, h8z, hRz, hBz⟩ := hrel
              by_cases hli : i < j + 16
              · obtain ⟨zj, hzj⟩ : ∃ x, zs[i]? = some x := ⟨_, List.getElem?_eq_getElem (by rw [HZ.out]; exact hli)⟩
                have d0 : wr.cell? ⟨wL.heap.size, i, none⟩ = some (.int .u8 (zj : Nat)) := hRz.cell_ (by rw [List.getElem?_map, hzj]; rfl)
                have d1 := hRz.free i
                have d2 : (0 : Int) ≤ (i : Int) := by omega
                have d3 : (i : Int) < (j : Int) + 16 := by omega
                clear hzj
                go_wp2_with fail
                go_roundw
                case rel => exact ⟨i + 1, zs.set i 255, by omega, by go_num, Lib.hid (by rw [List.length_set]; exact HZ.out), set_8 h8z (by omega), row_set hRz (by rw [HZ.out]; exact hli), hBz.setCell hg9 _⟩
                case measure => simp [iV]; omega
              · have d3 : ¬ (i : Int) < (j : Int) + 16 := by omega
                go_wp2_with fail
                go_ret
                exact ⟨⟨zs, _, _, rfl, HZ.out, h8z, hRz, hg9, hcA1, hcA2⟩, hBz⟩
      · have hlay := rlay_yes ys (some ⟨w.heap.size + 1 + 1, 0, none⟩) j K P S E wr hsl hok
        rw [HL.out] at hlay
        have H8Z : Bytes8 (rawB ys K P S E) := rawB_8 hok.2.2.2.2.2.2.2.2 (by have := hok.2.2.2.1; omega)
        clear hok
        subst hQ
        by_cases ht : torn < 0
        · have t0 : ¬ (0 : Int) ≤ torn := by omega
          go_wp2_with (first | (go_at_call 28; go_loud (((with_reducible refine (hlay).mono ?_); rintro e' wL ⟨sv, rfl, hoL, hbL⟩; have hLB := btr hB hB.size hbL; have P2X := P2.below hbL P2.lt; have q7 : wL.cell? ⟨w.heap.size + 1, 7, none⟩ = some (.int .i64 torn) := P2X.cell_ 7; obtain ⟨g9, c9, rfl, hR9, hge9, hcA1, hcA2⟩ := own_cut hoL (by omega); have HL9 : Hid ((rawB ys K P S E).length = j + 16) := Lib.hid (by rw [rawB_len, HL.out]); have hg9 : w.heap.size ≤ g9 := by have := hB.size; omega))))
          go_loopw [10] (fun s10 wy => ∃ (i : Nat) (zs : List Nat), i ≤ j + 16 ∧ s10 = .int .i64 (i : Int) ∧ Hid (zs.length = j + 16) ∧ Bytes8 zs ∧ RowT wy g9 5 (zs.map byteV) ∧ Below w.heap.size w wy) (fun s10 _ => j + 16 - (iV s10).toNat)
          case atStart => exact ⟨j + 16, (rawB ys K P S E), by omega, by go_num, HL9, H8Z, hR9, hLB⟩
          case round =>
            clear hR P1 P2 hB hlay hsl q3 q4 q5 q6 q7
            obtain ⟨i, zs, hi, rfl, HZ, h8z, hRz, hBz⟩ := hrel
            by_cases hli : i < j + 16
            · obtain ⟨zj, hzj⟩ : ∃ x, zs[i]? = some x := ⟨_, List.getElem?_eq_getElem (by rw [HZ.out]; exact hli)⟩
              have d0 : wr.cell? ⟨g9, i, none⟩ = some (.int .u8 (zj : Nat)) := hRz.cell_ (by rw [List.getElem?_map, hzj]; rfl)
              have d1 := hRz.free i
              have d2 : (0 : Int) ≤ (i : Int) := by omega
              have d3 : (i : Int) < (j : Int) + 16 := by omega
              clear hzj
              go_wp2_with fail
              go_roundw
              case rel => exact ⟨i + 1, zs.set i 255, by omega, by go_num, Lib.hid (by rw [List.length_set]; exact HZ.out), set_8 h8z (by omega), row_set hRz (by rw [HZ.out]; exact hli), hBz.setCell hg9 _⟩
              case measure => simp [iV]; omega
            · have d3 : ¬ (i : Int) < (j : Int) + 16 := by omega
              go_wp2_with fail
              go_ret
              exact ⟨⟨zs, _, _, rfl, HZ.out, h8z, hRz, hg9, hcA1, hcA2⟩, hBz⟩
        · obtain ⟨T, rfl⟩ : ∃ T : Nat, torn = (T : Int) := ⟨torn.toNat, by omega⟩
          have t0 : (0 : Int) ≤ (T : Int) := by omega
          by_cases hT : T ≤ j + 16
          · have t1 : (T : Int) ≤ (j : Int) + 16 := by omega
            go_wp2_with (first | (go_at_call 28; go_loud (((with_reducible refine (hlay).mono ?_); rintro e' wL ⟨sv, rfl, hoL, hbL⟩; have hLB := btr hB hB.size hbL; have P2X := P2.below hbL P2.lt; have q7 : wL.cell? ⟨w.heap.size + 1, 7, none⟩ = some (.int .i64 (T : Int)) := P2X.cell_ 7; obtain ⟨g9, c9, rfl, hR9, hge9, hcA1, hcA2⟩ := own_cut hoL (by omega); have HL9 : Hid ((rawB ys K P S E).length = j + 16) := Lib.hid (by rw [rawB_len, HL.out]); have hg9 : w.heap.size ≤ g9 := by have := hB.size; omega))))
            all_goals (try omega)
            go_loopw [10] (fun s10 wy => ∃ (i : Nat) (zs : List Nat), i ≤ j + 16 ∧ s10 = .int .i64 (i : Int) ∧ Hid (zs.length = j + 16) ∧ Bytes8 zs ∧ RowT wy g9 5 (zs.map byteV) ∧ Below w.heap.size w wy) (fun s10 _ => j + 16 - (iV s10).toNat)
            case atStart => exact ⟨T, (rawB ys K P S E), by omega, by go_num, HL9, H8Z, hR9, hLB⟩
            case round =>
              clear hR P1 P2 hB hlay hsl q3 q4 q5 q6 q7
              obtain ⟨i, zs, hi, rfl, HZ, h8z, hRz, hBz⟩ := hrel
              by_cases hli : i < j + 16
              · obtain ⟨zj, hzj⟩ : ∃ x, zs[i]? = some x := ⟨_, List.getElem?_eq_getElem (by rw [HZ.out]; exact hli)⟩
                have d0 : wr.cell? ⟨g9, i, none⟩ = some (.int .u8 (zj : Nat)) := hRz.cell_ (by rw [List.getElem?_map, hzj]; rfl)
                have d1 := hRz.free i
                have d2 : (0 : Int) ≤ (i : Int) := by omega
                have d3 : (i : Int) < (j : Int) + 16 := by omega
                clear hzj
                go_wp2_with fail
                go_roundw
                case rel => exact ⟨i + 1, zs.set i 255, by omega, by go_num, Lib.hid (by rw [List.length_set]; exact HZ.out), set_8 h8z (by omega), row_set hRz (by rw [HZ.out]; exact hli), hBz.setCell hg9 _⟩
                case measure => simp [iV]; omega
              · have d3 : ¬ (i : Int) < (j : Int) + 16 := by omega
                go_wp2_with fail
                go_ret
                exact ⟨⟨zs, _, _, rfl, HZ.out, h8z, hRz, hg9, hcA1, hcA2⟩, hBz⟩
          · have t1 : (j : Int) + 16 < (T : Int) := by omega
            go_wp2_with (first | (go_at_call 28; go_loud (((with_reducible refine (hlay).mono ?_); rintro e' wL ⟨sv, rfl, hoL, hbL⟩; have hLB := btr hB hB.size hbL; have P2X := P2.below hbL P2.lt; have q7 : wL.cell? ⟨w.heap.size + 1, 7, none⟩ = some (.int .i64 (T : Int)) := P2X.cell_ 7; obtain ⟨g9, c9, rfl, hR9, hge9, hcA1, hcA2⟩ := own_cut hoL (by omega); have HL9 : Hid ((rawB ys K P S E).length = j + 16) := Lib.hid (by rw [rawB_len, HL.out]); have hg9 : w.heap.size ≤ g9 := by have := hB.size; omega))))
            all_goals (try omega)
            go_loopw [10] (fun s10 wy => ∃ (i : Nat) (zs : List Nat), i ≤ j + 16 ∧ s10 = .int .i64 (i : Int) ∧ Hid (zs.length = j + 16) ∧ Bytes8 zs ∧ RowT wy g9 5 (zs.map byteV) ∧ Below w.heap.size w wy) (fun s10 _ => j + 16 - (iV s10).toNat)
            case atStart => exact ⟨j + 16, (rawB ys K P S E), by omega, by go_num, HL9, H8Z, hR9, hLB⟩
            case round =>
              clear hR P1 P2 hB hlay hsl q3 q4 q5 q6 q7
              obtain ⟨i, zs, hi, rfl, HZ, h8z, hRz, hBz⟩ := hrel
              by_cases hli : i < j + 16
              · obtain ⟨zj, hzj⟩ : ∃ x, zs[i]? = some x := ⟨_, List.getElem?_eq_getElem (by rw [HZ.out]; exact hli)⟩
                have d0 : wr.cell? ⟨g9, i, none⟩ = some (.int .u8 (zj : Nat)) := hRz.cell_ (by rw [List.getElem?_map, hzj]; rfl)
                have d1 := hRz.free i
                have d2 : (0 : Int) ≤ (i : Int) := by omega
                have d3 : (i : Int) < (j : Int) + 16 := by omega
                clear hzj
                go_wp2_with fail
                go_roundw
                case rel => exact ⟨i + 1, zs.set i 255, by omega, by go_num, Lib.hid (by rw [List.length_set]; exact HZ.out), set_8 h8z (by omega), row_set hRz (by rw [HZ.out]; exact hli), hBz.setCell hg9 _⟩
                case measure => simp [iV]; omega
              · have d3 : ¬ (i : Int) < (j : Int) + 16 := by omega
                go_wp2_with fail
                go_ret
                exact ⟨⟨zs, _, _, rfl, HZ.out, h8z, hRz, hg9, hcA1, hcA2⟩, hBz⟩
end Go.Proofs.Ytcpniplfkillbaa
namespace Go.Proofs.Ytcpniplfkillbaa
open Go.ChangeShapes Go.WideShapes Go.ChangeAt Go.RowKit
theorem rpmay_b (a b c d e : Int) (fs : List Flt) (A : Option Addr) (c0 : Nat) (T : Bool) (w : World) (hs : SlF w w.heap.size A fs) (h : Hid (planMay a b c d e fs = T)) : Calls Try.prog 58 #[.agg #[.int .i64 a, .int .i64 b, .int .i64 c, .int .i64 d, .int .i64 e], .slice A fs.length c0] w fun e' w' => e' = .returned (.bool T) ∧ Below w.heap.size w w' := by
  have := rpMay_any a b c d e fs A c0 w hs
  rwa [h.out] at this
theorem rnew_no (a b c d e : Int) (fs : List Flt) (A : Option Addr) (c0 : Nat) (w : World) (hs : SlF w w.heap.size A fs) (HP : Hid (planMay a b c d e fs = false)) : Calls Try.prog 31 #[.agg #[.int .i64 a, .int .i64 b, .int .i64 c, .int .i64 d, .int .i64 e], .slice A fs.length c0] w fun e' w' => e' = .returned (.pointer none) ∧ Below w.heap.size w w' := by
  have HB0 : Below w.heap.size w (w.alloc (.cells #[.int .i64 a, .int .i64 b, .int .i64 c, .int .i64 d, .int .i64 e] 23)) := (Below.refl _ _).alloc (Nat.le_refl _) _
  have G1 : Blk (w.alloc (.cells #[.int .i64 a, .int .i64 b, .int .i64 c, .int .i64 d, .int .i64 e] 23)) w.heap.size 23 #[.int .i64 a, .int .i64 b, .int .i64 c, .int .i64 d, .int .i64 e] := Blk.new_ _ _ _
  have HSF := hs.next HB0
  go_enter Try.func31, Try.ntmps31
  go_wp2_with (go_at_call 58; ((with_reducible refine (rpmay_b a b c d e fs _ _ _ _ HSF HP).mono ?_); rintro e' wN ⟨rfl, hb⟩; replace HSF := HSF.next hb; replace HB0 := btr HB0 HB0.size hb; replace G1 := G1.below hb G1.lt))
  go_ret
  exact ⟨rfl, HB0⟩
structure PgN (w : World) (RW m gN gW gD : Nat) (vB : Value) (p : Nat × Nat) : Prop where
  lt : p.1 < w.heap.size
  nm : p.1 ≠ m ∧ p.1 ≠ gN ∧ p.1 ≠ gW ∧ p.1 ≠ gD
  nb : some p.1 ≠ vB.ownBlock
  cap : RW ≤ p.2
  cap2 : p.2 ≤ maxLen
  cell : ∀ j, j < RW → w.cell? ⟨p.1, j, none⟩ = some (byteV 255)
theorem PgN.keep {w w' : World} {RW m gN gW gD : Nat} {vB vB' : Value} {p : Nat × Nat} (h : PgN w RW m gN gW gD vB p) (hz : w.heap.size ≤ w'.heap.size) (hk : w'.heap[p.1]? = w.heap[p.1]?) (hv : vB'.ownBlock = vB.ownBlock ∨ ∀ g, vB'.ownBlock = some g → w.heap.size ≤ g) : PgN w' RW m gN gW gD vB' p := by
  refine ⟨by have := h.lt; omega, h.nm, ?_, h.cap, h.cap2, fun j hj => (World.cell?_of_block (w := w) hk).trans (h.cell j hj)⟩
  rcases hv with hv | hv
  · rw [hv]; exact h.nb
  · intro e
    have := hv _ e.symm
    have := h.lt
    omega
theorem rd_flt {fs : List Flt} {A : Option Addr} {w : World} (hs : SlF w w.heap.size A fs) : Rd w A fs.length 3 (flatF fs) := by
  refine ⟨flatF_len fs, ?_⟩
  rcases hs with h | ⟨g', off, e, hlt, hc⟩
  · left
    rw [h]
    rfl
  · exact Or.inr ⟨g', off, e, fun j u hu => flatF_rd fs off hc j u hu⟩
theorem wp_appF0 {w : World} {o : Oper} {a : Act} {K : Act → World → Prop} {Q : Exit → Act → World → Prop} (x : Operand)
    (ho : o.op = .call { callee := .builtin .append, args := #[.const (.slice none 0 0), x], argTypes := #[24, 24] }) (hty : o.type = 24)
    (fs : List Flt) (A : Option Addr) (c : Nat) (hx : a.eval x = .slice A fs.length c) (hs : SlF w w.heap.size A fs) (hlen : fs.length ≤ 100000)
    (hK : ∀ w' A' c', FR w' A' fs → FGe A' fs w.heap.size → Below w.heap.size w w' → K (a.put o.dst (.slice A' fs.length c')) w') : Oper.wp Try.prog o a w K Q := by
  obtain ⟨ti0, hi, hz0, hz1, hz2⟩ := info_parts infoF
  refine wp_app w (.const (.slice none 0 0)) x 24 ho w.heap.size 107 ti0 _ 3 24 (by rw [show Try.prog.underlying 24 = _ from Try.underlying24]) hi hz0 hz1 hz2 rfl (by decide) (.slice none 0 0) 0 [] rfl (World.ownsRow_nil _ _ _ _) A fs.length c (flatF fs) hx (rd_flt hs) (flatF_one fs) (by unfold maxLen; omega) (by omega) (Nat.le_refl _) ?_
  intro v' w' ho' hg' hv'
  rw [Nat.zero_add, List.nil_append] at ho'
  obtain ⟨A', c', rfl, hR'⟩ := own_rowF ho'
  refine hK w' A' c' ?_ ?_ ((Below.refl _ _).grown hg' (Nat.le_refl _) (fun k h => by simp [Value.ownBlock] at h))
  · rcases hR' with h | ⟨g', e, h, _⟩
    · exact Or.inl (List.eq_nil_of_length_eq_zero h)
    · exact Or.inr ⟨g', e, h⟩
  · rcases hR' with h | ⟨g', e, _, h⟩
    · exact Or.inl (List.eq_nil_of_length_eq_zero h)
    · exact Or.inr ⟨g', e, h⟩
theorem infoIntR : (Try.prog.info? 3).map (fun i => (i.zero, i.size, i.bytes)) = some (some (.int .i64 0), 1, 8) := by kernel_rfl
theorem wp_makeI {w : World} {o : Oper} {a' : Act} {K : Act → World → Prop} {Q : Exit → Act → World → Prop} (l c : Operand) (hop : o.op = Op.makeSlice 92 l c)
    (a : Int) (NB : Nat) (hl : a'.eval l = .int .i64 a) (hc : a'.eval c = .int .i64 a) (hNB : (NB : Int) = a) (hb : NB ≤ 1000)
    (hK : ∀ w' g, RowT w' g 3 (List.replicate NB (Value.int .i64 0)) → w.heap.size ≤ g → Below w.heap.size w w' → K (a'.put o.dst (.slice (some ⟨g, 0, none⟩) NB NB)) w') : Oper.wp Try.prog o a' w K Q := by
  obtain ⟨ti0, hi, hz0, hz1, hz2⟩ := info_parts infoIntR
  refine wp_make w l c 92 hop w.heap.size 3 ti0 _ 1 Try.underlying92 hi hz0 hz1 .i64 .i64 a a NB hl hc hNB.symm hNB.symm (by rw [hz2]; omega) (by unfold maxLen; omega) (Nat.le_refl _) ?_
  intro w' hown hgrow
  rw [show (madeCells (Value.int .i64 0).cells (NB * 1)).toList = List.replicate (NB * 1) (Value.int .i64 0) from toList_madeCells_one _ _, Nat.mul_one] at hown
  exact hK w' _ (own_rowS hown) (Nat.le_refl _) ((Below.refl _ _).grown hgrow (Nat.le_refl _) (fun k h => by cases h))
theorem box_chipR (a b c d e : Int) (AF : Option Addr) (nf cf gN gW gD NB : Nat) (w : World) : (Instr.box 94 (.agg #[.int .i64 a, .int .i64 b, .int .i64 c, .int .i64 d, .int .i64 e, .slice AF nf cf, .slice none 0 0, .slice (some ⟨gN, 0, none⟩) NB NB, .slice (some ⟨gW, 0, none⟩) NB NB, .slice (some ⟨gD, 0, none⟩) NB NB, .int .i64 0, .int .i64 0, .bool false, .int .i64 0, .int .i64 0, .int .i64 0, .int .u8 0])).run Try.prog w = .ok (.pointer (some ⟨w.heap.size, 0, none⟩)) (w.alloc (.cells #[.int .i64 a, .int .i64 b, .int .i64 c, .int .i64 d, .int .i64 e, .slice AF nf cf, .slice none 0 0, .slice (some ⟨gN, 0, none⟩) NB NB, .slice (some ⟨gW, 0, none⟩) NB NB, .slice (some ⟨gD, 0, none⟩) NB NB, .int .i64 0, .int .i64 0, .bool false, .int .i64 0, .int .i64 0, .int .i64 0, .int .u8 0] 94)) := by kernel_rfl
theorem wp_boxR {w : World} {o : Oper} {a' : Act} {K : Act → World → Prop} {Q : Exit → Act → World → Prop} (x : Operand) (hop : o.op = Op.box 94 x)
    {a b c d e : Int} {AF : Option Addr} {nf cf gN gW gD NB : Nat} (hx : a'.eval x = .agg #[.int .i64 a, .int .i64 b, .int .i64 c, .int .i64 d, .int .i64 e, .slice AF nf cf, .slice none 0 0, .slice (some ⟨gN, 0, none⟩) NB NB, .slice (some ⟨gW, 0, none⟩) NB NB, .slice (some ⟨gD, 0, none⟩) NB NB, .int .i64 0, .int .i64 0, .bool false, .int .i64 0, .int .i64 0, .int .i64 0, .int .u8 0])
    (hK : ∀ w' m, Blk w' m 94 #[.int .i64 a, .int .i64 b, .int .i64 c, .int .i64 d, .int .i64 e, .slice AF nf cf, .slice none 0 0, .slice (some ⟨gN, 0, none⟩) NB NB, .slice (some ⟨gW, 0, none⟩) NB NB, .slice (some ⟨gD, 0, none⟩) NB NB, .int .i64 0, .int .i64 0, .bool false, .int .i64 0, .int .i64 0, .int .i64 0, .int .u8 0] → w.heap.size ≤ m → Below w.heap.size w w' → K (a'.put o.dst (.pointer (some ⟨m, 0, none⟩))) w') : Oper.wp Try.prog o a' w K Q := by
  have hrun := box_chipR a b c d e AF nf cf gN gW gD NB w
  unfold Oper.wp
  simp [execOp, hop, hx, hrun, Result.andThen]
  exact hK _ _ (Blk.new_ _ _ _) (Nat.le_refl _) ((Below.refl _ _).alloc (Nat.le_refl _) _)
end Go.Proofs.Ytcpniplfkillbaa
namespace Go.Proofs.Ytcpniplfkillbaa
open Go.ChangeShapes Go.WideShapes Go.ChangeAt Go.RowKit
structure NewL (wr w : World) (m gN gW gD : Nat) (AF : Option Addr) (cf : Nat) (a b c d e : Int) (fs : List Flt) (NB RW i : Nat) (vB : Value) (P : List (Nat × Nat)) : Prop where
  BM : Blk wr m 94 #[.int .i64 a, .int .i64 b, .int .i64 c, .int .i64 d, .int .i64 e, .slice AF fs.length cf, vB, .slice (some ⟨gN, 0, none⟩) NB NB, .slice (some ⟨gW, 0, none⟩) NB NB, .slice (some ⟨gD, 0, none⟩) NB NB, .int .i64 0, .int .i64 0, .bool false, .int .i64 0, .int .i64 0, .int .i64 0, .int .u8 0]
  own : wr.ownsRow (w.heap.size + 1) 38 1 vB i (P.map (pgV RW))
  nb : vB.ownBlock ≠ some m ∧ vB.ownBlock ≠ some gN ∧ vB.ownBlock ≠ some gW ∧ vB.ownBlock ≠ some gD
  nbf : fs = [] ∨ ∃ g, AF = some ⟨g, 0, none⟩ ∧ vB.ownBlock ≠ some g
  pg : ∀ (k : Nat) (p : Nat × Nat), P[k]? = some p → p.1 < wr.heap.size ∧ w.heap.size ≤ p.1 ∧ (p.1 ≠ m ∧ p.1 ≠ gN ∧ p.1 ≠ gW ∧ p.1 ≠ gD) ∧ vB.ownBlock ≠ some p.1 ∧ RW ≤ p.2 ∧ p.2 ≤ maxLen ∧ ∀ j, j < RW → wr.cell? ⟨p.1, j, none⟩ = some (byteV 255)
  RN : RowT wr gN 3 (List.replicate NB (Value.int .i64 0))
  RV : RowT wr gW 3 (List.replicate NB (Value.int .i64 0))
  RD : RowT wr gD 3 (List.replicate NB (Value.int .i64 0))
  RF : FR wr AF fs
  ne : m ≠ gN ∧ m ≠ gW ∧ m ≠ gD ∧ gN ≠ gW ∧ gN ≠ gD ∧ gW ≠ gD
  fne : FNe AF fs m ∧ FNe AF fs gN ∧ FNe AF fs gW ∧ FNe AF fs gD
  ge : w.heap.size ≤ m ∧ w.heap.size ≤ gN ∧ w.heap.size ≤ gW ∧ w.heap.size ≤ gD
  nw : w.heap.size ≠ m
  G1 : Blk wr w.heap.size 23 #[.int .i64 a, .int .i64 b, .int .i64 c, .int .i64 d, .int .i64 e]
  HB : Below w.heap.size w wr
  fge : FGe AF fs w.heap.size
theorem FGe.le {AF : Option Addr} {fs : List Flt} {k k' : Nat} (h : FGe AF fs k) (hk : k' ≤ k) : FGe AF fs k' := by
  rcases h with h | ⟨g, e, h⟩
  · exact Or.inl h
  · exact Or.inr ⟨g, e, by omega⟩
theorem blk_ne {w : World} {g h : Nat} {t t' : TypeId} {cs cs' : Array Value} (h1 : Blk w g t cs) (h2 : Blk w h t' cs') (hs : cs.size ≠ cs'.size) : g ≠ h := by
  intro e
  subst e
  unfold Blk at h1 h2
  rw [h1] at h2
  simp only [Option.some.injEq, Obj.cells.injEq] at h2
  exact hs (by rw [h2.1])
theorem own_far {w w' : World} {base e n : Nat} {v : Value} {xs : List Value} (h : w.ownsRow base e 1 v n xs) (hk : ∀ g, v.ownBlock = some g → w'.heap[g]? = w.heap[g]?) : w'.ownsRow base e 1 v n xs := by
  obtain ⟨hl, h⟩ := h
  refine ⟨hl, ?_⟩
  rcases h with h | ⟨g, cap, cur, rfl, hb, hh, r⟩
  · exact Or.inl h
  · exact Or.inr ⟨g, cap, cur, rfl, hb, (hk g rfl).trans hh, r⟩
theorem NewL.start {wr w : World} {m gN gW gD : Nat} {AF : Option Addr} {cf : Nat} {a b c d e : Int} {fs : List Flt} {NB RW : Nat} (BM : Blk wr m 94 #[.int .i64 a, .int .i64 b, .int .i64 c, .int .i64 d, .int .i64 e, .slice AF fs.length cf, .slice none 0 0, .slice (some ⟨gN, 0, none⟩) NB NB, .slice (some ⟨gW, 0, none⟩) NB NB, .slice (some ⟨gD, 0, none⟩) NB NB, .int .i64 0, .int .i64 0, .bool false, .int .i64 0, .int .i64 0, .int .i64 0, .int .u8 0]) (RN : RowT wr gN 3 (List.replicate NB (Value.int .i64 0))) (RV : RowT wr gW 3 (List.replicate NB (Value.int .i64 0))) (RD : RowT wr gD 3 (List.replicate NB (Value.int .i64 0))) (RF : FR wr AF fs)
    (ne : m ≠ gN ∧ m ≠ gW ∧ m ≠ gD ∧ gN ≠ gW ∧ gN ≠ gD ∧ gW ≠ gD) (fne : FNe AF fs m ∧ FNe AF fs gN ∧ FNe AF fs gW ∧ FNe AF fs gD) (ge : w.heap.size ≤ m ∧ w.heap.size ≤ gN ∧ w.heap.size ≤ gW ∧ w.heap.size ≤ gD) (G1 : Blk wr w.heap.size 23 #[.int .i64 a, .int .i64 b, .int .i64 c, .int .i64 d, .int .i64 e]) (HB : Below w.heap.size w wr) (fge : FGe AF fs w.heap.size) : NewL wr w m gN gW gD AF cf a b c d e fs NB RW 0 (.slice none 0 0) [] := by
  refine ⟨BM, World.ownsRow_nil _ _ _ _, ⟨by simp [Value.ownBlock], by simp [Value.ownBlock], by simp [Value.ownBlock], by simp [Value.ownBlock]⟩, ?_, fun k p h => by simp at h, RN, RV, RD, RF, ne, fne, ge, fun e => blk_ne BM G1 (by simp) e.symm, G1, HB, fge⟩
  rcases RF with h | ⟨g, h, _⟩
  · exact Or.inl h
  · exact Or.inr ⟨g, h, by simp [Value.ownBlock]⟩
theorem NewL.like {wr w : World} {m gN gW gD : Nat} {AF : Option Addr} {cf : Nat} {a b c d e : Int} {fs : List Flt} {NB RW i : Nat} {vB : Value} {P : List (Nat × Nat)} (h : NewL wr w m gN gW gD AF cf a b c d e fs NB RW i vB P) {w1 : World} (e1 : w1.heap = wr.heap := by rfl) (e2 : w1.os = wr.os := by rfl) (e3 : w1.tape = wr.tape := by rfl) (e4 : w1.output = wr.output := by rfl) : NewL w1 w m gN gW gD AF cf a b c d e fs NB RW i vB P := by
  have hk : ∀ g : Nat, w1.heap[g]? = wr.heap[g]? := fun g => by rw [e1]
  refine ⟨(hk _).trans h.BM, own_far h.own (fun g _ => hk g), h.nb, h.nbf, fun k p hp => ?_, h.RN.keep (hk _), h.RV.keep (hk _), h.RD.keep (hk _), ?_, h.ne, h.fne, h.ge, h.nw, (hk _).trans h.G1, ⟨e2.trans h.HB.os, e3.trans h.HB.tape, e4.trans h.HB.output, by rw [e1]; exact h.HB.size, fun g hg => (hk g).trans (h.HB.block g hg)⟩, h.fge⟩
  · obtain ⟨p1, p2, p3, p4, p5, p6, p7⟩ := h.pg k p hp
    exact ⟨by rw [e1]; exact p1, p2, p3, p4, p5, p6, fun j hj => (World.cell?_of_block (w := wr) (hk _)).trans (p7 j hj)⟩
  · rcases h.RF with h | ⟨g, e, h⟩
    · exact Or.inl h
    · exact Or.inr ⟨g, e, h.keep (hk _)⟩
theorem NewL.mid {wr w : World} {m gN gW gD : Nat} {AF : Option Addr} {cf : Nat} {a b c d e : Int} {fs : List Flt} {NB RW i : Nat} {vB : Value} {P : List (Nat × Nat)} (h : NewL wr w m gN gW gD AF cf a b c d e fs NB RW i vB P) {wN w' : World} (hb : Below wr.heap.size wr wN) (hg : wN.grownBy w' vB.ownBlock) :
    (∀ k, k < wr.heap.size → vB.ownBlock ≠ some k → w'.heap[k]? = wr.heap[k]?) ∧ Blk w' m 94 #[.int .i64 a, .int .i64 b, .int .i64 c, .int .i64 d, .int .i64 e, .slice AF fs.length cf, vB, .slice (some ⟨gN, 0, none⟩) NB NB, .slice (some ⟨gW, 0, none⟩) NB NB, .slice (some ⟨gD, 0, none⟩) NB NB, .int .i64 0, .int .i64 0, .bool false, .int .i64 0, .int .i64 0, .int .i64 0, .int .u8 0] ∧ Blk w' w.heap.size 23 #[.int .i64 a, .int .i64 b, .int .i64 c, .int .i64 d, .int .i64 e] := by
  have hk : ∀ k, k < wr.heap.size → vB.ownBlock ≠ some k → w'.heap[k]? = wr.heap[k]? := fun k hl hne => (hg.block k (Nat.lt_of_lt_of_le hl hb.size) (fun e => hne e.symm)).trans (hb.block k hl)
  exact ⟨hk, (hk _ h.BM.lt h.nb.1).trans h.BM, (hk _ h.G1.lt (fun e => by have := (h.own.lt _ e).1; omega)).trans h.G1⟩
theorem NewL.step {wr w : World} {m gN gW gD : Nat} {AF : Option Addr} {cf : Nat} {a b c d e : Int} {fs : List Flt} {NB RW i : Nat} {vB : Value} {P : List (Nat × Nat)} (h : NewL wr w m gN gW gD AF cf a b c d e fs NB RW i vB P) {wN w' : World} (hb : Below wr.heap.size wr wN) {g9 : Nat} (hR9 : RowT wN g9 5 ((List.replicate RW 255).map byteV)) (hge9 : wr.heap.size ≤ g9) (hm : RW ≤ maxLen) {v' : Value}
    (ho : w'.ownsRow (w.heap.size + 1) 38 1 v' (i + 1) (P.map (pgV RW) ++ [pgV RW (g9, RW)])) (hg : wN.grownBy w' vB.ownBlock) (hv : v'.ownBlock = vB.ownBlock ∨ v'.ownBlock = some wN.heap.size) : NewL (w'.setCell ⟨m, 6, none⟩ v') w m gN gW gD AF cf a b c d e fs NB RW (i + 1) v' (P ++ [(g9, RW)]) := by
  obtain ⟨hk, hBM, hG1⟩ := h.mid hb hg
  obtain ⟨e1, e2, e3, e4, e5, e6⟩ := h.ne
  obtain ⟨n1, n2, n3, n4⟩ := h.nb
  have hnv : ∀ k, k < wN.heap.size → vB.ownBlock ≠ some k → v'.ownBlock ≠ some k := by
    intro k h1 h2 h3
    rcases hv with hv | hv
    · exact h2 (hv ▸ h3)
    · rw [hv] at h3
      cases h3
      omega
  have hlt : ∀ k, k < wr.heap.size → k < wN.heap.size := fun k h1 => Nat.lt_of_lt_of_le h1 hb.size
  have hs : ∀ k, k ≠ m → (w'.setCell ⟨m, 6, none⟩ v').heap[k]? = w'.heap[k]? := fun k h1 => Below.heap_setCell w' ⟨m, 6, none⟩ v' k h1
  have hsk : ∀ k, k < wr.heap.size → vB.ownBlock ≠ some k → k ≠ m → (w'.setCell ⟨m, 6, none⟩ v').heap[k]? = wr.heap[k]? := fun k h1 h2 h3 => (hs k h3).trans (hk k h1 h2)
  have hown : wN.ownsRow (w.heap.size + 1) 38 1 vB i (P.map (pgV RW)) := own_far h.own (fun g hg => hb.block g (h.own.lt g hg).2)
  have hBl : Below w.heap.size wN w' := below_app (by omega) (Nat.le_trans (Nat.succ_le_of_lt h.G1.lt) hb.size) hown hg
  have hBm := hBM.lt
  have hB2 : Below w.heap.size w (w'.setCell ⟨m, 6, none⟩ v') := ((h.HB.trans (hb.mono h.HB.size)).trans hBl).setCell (p := ⟨m, 6, none⟩) h.ge.1 v'
  have hsz : w'.heap.size ≤ (w'.setCell ⟨m, 6, none⟩ v').heap.size := ((Below.refl (0 : Nat) w').setCell (p := ⟨m, 6, none⟩) (Nat.zero_le _) v').size
  refine ⟨?_, ?_, ⟨hnv m (hlt _ h.BM.lt) n1, hnv gN (hlt _ h.RN.lt) n2, hnv gW (hlt _ h.RV.lt) n3, hnv gD (hlt _ h.RD.lt) n4⟩, ?_, ?_, h.RN.keep (hsk _ h.RN.lt n2 e1.symm), h.RV.keep (hsk _ h.RV.lt n3 e2.symm), h.RD.keep (hsk _ h.RD.lt n4 e3.symm), ?_, h.ne, h.fne, h.ge, h.nw, (hs _ h.nw).trans hG1, hB2, h.fge⟩
  · have := hBM.set_ 6 v'
    simpa using this
  · rw [List.map_append]
    refine own_far ho (fun g hg => hs g (fun e => ?_))
    subst e
    exact hnv g (hlt _ h.BM.lt) n1 hg
  · rcases h.nbf with h1 | ⟨g, h1, h2⟩
    · exact Or.inl h1
    · rcases h.RF with h3 | ⟨g', h3, h4⟩
      · exact Or.inl h3
      · rw [h1] at h3
        cases h3
        exact Or.inr ⟨g, h1, hnv g (hlt _ h4.lt) h2⟩
  · intro k p hp
    have hsw : wN.heap.size ≤ w'.heap.size := hg.size
    have hbs := hb.size
    by_cases hkl : k < P.length
    · rw [List.getElem?_append_left hkl] at hp
      obtain ⟨p1, p2, p3, p4, p5, p6, p7⟩ := h.pg k p hp
      exact ⟨by omega, p2, p3, hnv _ (hlt _ p1) p4, p5, p6, fun j hj => (World.cell?_of_block (w := wr) (hsk _ p1 p4 p3.1)).trans (p7 j hj)⟩
    · rw [List.getElem?_append_right (by omega)] at hp
      have hk0 : k - P.length = 0 := by
        rcases Nat.eq_zero_or_pos (k - P.length) with h0 | h0
        · exact h0
        · rw [List.getElem?_eq_none (by simp; omega)] at hp
          cases hp
      rw [hk0] at hp
      obtain rfl : (g9, RW) = p := by simpa using hp
      have hg9 := hR9.lt
      have hno : vB.ownBlock ≠ some g9 := fun e => by have := (h.own.lt _ e).2; omega
      have hbm := h.BM.lt
      have hbn := h.RN.lt
      have hbv := h.RV.lt
      have hbd := h.RD.lt
      have hws := h.HB.size
      have hne9 : g9 ≠ m := by omega
      refine ⟨by show g9 < _; omega, by show _ ≤ g9; omega, ⟨hne9, by show g9 ≠ _; omega, by show g9 ≠ _; omega, by show g9 ≠ _; omega⟩, hnv _ hg9 hno, Nat.le_refl _, hm, fun j hj => ?_⟩
      rw [World.cell?_of_block (w := w') (a := ⟨g9, j, none⟩) (hs _ hne9), World.cell?_of_block (w := wN) (a := ⟨g9, j, none⟩) (hg.block g9 hg9 (fun e => hno e.symm))]
      exact hR9.cell_ (by rw [List.getElem?_map, List.getElem?_replicate, if_pos hj]; rfl)
  · rcases h.nbf with h1 | ⟨g, h1, h2⟩
    · exact Or.inl h1
    · rcases h.RF with h3 | ⟨g', h3, h4⟩
      · exact Or.inl h3
      · rcases h.fne.1 with h5 | ⟨g'', h5, h6⟩
        · exact Or.inl h5
        · rw [h1] at h3 h5
          cases h3
          cases h5
          exact Or.inr ⟨g, h1, h4.keep (hsk _ h4.lt h2 h6)⟩
theorem NewL.fin {wr w : World} {m gN gW gD : Nat} {AF : Option Addr} {cf : Nat} {a b c d e : Int} {fs : List Flt} {NB RW NP NX : Nat} {vB : Value} {P : List (Nat × Nat)} (h : NewL wr w m gN gW gD AF cf a b c d e fs NB RW NP vB P) (hNP : (NP : Int) = a * b) (h0 : 1 ≤ NP) (hNB : (NB : Int) = a) (hRW : (RW : Int) = c + 16) (hNX : NX = (a * b * (c + 16)).toNat) (hm : planMay a b c d e fs = true) : ∃ gB, RefW wr m gB gN gW gD w.heap.size AF fs.length cf a b c d e fs (ChS.new NX NB) := by
  obtain ⟨gB, cB, rfl, rB, hgB, hcB, hcB2⟩ := own_rowC h.own h0
  obtain ⟨e1, e2, e3, e4, e5, e6⟩ := h.ne
  obtain ⟨n1, n2, n3, n4⟩ := h.nb
  have hn : ∀ k, Value.ownBlock (.slice (some ⟨gB, 0, none⟩) NP cB) ≠ some k → gB ≠ k := fun k h1 e => h1 (by rw [e]; rfl)
  have hlen : P.length = NP := by
    have := h.own.1
    simpa using this
  have hZ : NX = NP * RW := by
    have e1 : ((NP * RW : Nat) : Int) = a * b * (c + 16) := by push_cast; rw [hNP, hRW]
    omega
  have hz : ∀ i, (List.replicate (3 * NB) (0 : Int)).getD i 0 = 0 := by
    intro i
    rw [List.getD_eq_getElem?_getD, List.getElem?_replicate]
    split <;> rfl
  have hcol : ∀ j, kcol (ChS.new NX NB).K j a.toNat = List.replicate NB (Value.int .i64 0) := by
    intro j
    unfold kcol
    apply List.ext_getElem?
    intro i
    rw [List.getElem?_map, List.getElem?_replicate]
    by_cases hi : i < NB
    · rw [List.getElem?_range (by omega), if_pos hi]
      show some (Value.int .i64 ((List.replicate (3 * NB) (0 : Int)).getD (3 * i + j) 0)) = _
      rw [hz]
    · rw [if_neg hi, List.getElem?_eq_none (by simp; omega)]
      rfl
  refine ⟨gB, ⟨⟨cB, NP, NB, RW, hRW, hNP, hNB, hcB, h.BM, P, hlen, rB, fun i p hp => ?_⟩, by rw [hcol]; exact h.RN, by rw [hcol]; exact h.RV, by rw [hcol]; exact h.RD, ?_, ⟨⟨(hn _ n1).symm, e1, e2, e3⟩, ⟨hn _ n2, hn _ n3, hn _ n4⟩, ⟨e4, e5⟩, e6⟩, ?_, by simp [ChS.new, hNX], by simp [ChS.new]; omega, rfl, hm⟩⟩
  · obtain ⟨p1, p2, p3, p4, p5, p6, p7⟩ := h.pg i p hp
    have hiN : i < NP := by rw [← hlen]; exact (List.getElem?_eq_some_iff.1 hp).1
    refine ⟨p1, p2, ?_, p5, p6, fun j hj => ?_⟩
    · intro hr
      rcases hr with hr | hr | hr | hr | hr
      · exact p3.1 hr
      · exact hn _ p4 hr.symm
      · exact p3.2.1 hr
      · exact p3.2.2.1 hr
      · exact p3.2.2.2 hr
    · rw [p7 j hj]
      show _ = some (byteV ((List.replicate NX 255).getD (i * RW + j) 0))
      rw [List.getD_eq_getElem?_getD, List.getElem?_replicate, if_pos]
      · rfl
      · have : (i + 1) * RW ≤ NP * RW := Nat.mul_le_mul_right _ hiN
        rw [Nat.succ_mul] at this
        omega
  · rcases h.RF with h1 | ⟨g, h1, h2⟩
    · exact Or.inl h1
    · rcases h.fne with ⟨f1, f2, f3, f4⟩
      have hx : ∀ k, FNe AF fs k → fs = [] ∨ g ≠ k := by
        intro k hk
        rcases hk with hk | ⟨g', hk, hk2⟩
        · exact Or.inl hk
        · rw [h1] at hk
          cases hk
          exact Or.inr hk2
      by_cases hf : fs = []
      · exact Or.inl hf
      · have hy : ∀ k, FNe AF fs k → g ≠ k := fun k hk => (hx k hk).resolve_left hf
        refine Or.inr ⟨g, 0, h1, h2.lt, ?_, ?_, fun k f hk => ?_⟩
        · rcases h.fge with h3 | ⟨g', h3, h4⟩
          · exact absurd h3 hf
          · rw [h1] at h3
            cases h3
            exact h4
        · intro hr
          rcases hr with hr | hr | hr | hr | hr
          · exact hy _ f1 hr
          · rcases h.nbf with h3 | ⟨g', h3, h4⟩
            · exact hf h3
            · rw [h1] at h3
              cases h3
              exact hn _ h4 hr.symm
          · exact hy _ f2 hr
          · exact hy _ f3 hr
          · exact hy _ f4 hr
        · obtain ⟨q0, q1, q2⟩ := flatF_at fs k f hk
          rw [Nat.zero_add]
          exact ⟨h2.cell_ q0, h2.cell_ q1, h2.cell_ q2⟩
  · intro g hg
    obtain ⟨g1, g2, g3, g4⟩ := h.ge
    rcases hg with rfl | rfl | rfl | rfl | rfl <;> first | assumption | omega
theorem fill_255 (Q : Nat) (w : World) (hQ : Q ≤ 1000) : Calls Try.prog 59 #[.int .u8 255, .int .i64 (Q : Int)] w fun e' w' => (∃ g, e' = .returned (.slice (some ⟨g, 0, none⟩) Q Q) ∧ RowT w' g 5 ((List.replicate Q 255).map byteV) ∧ w.heap.size ≤ g) ∧ Below w.heap.size w w' := fill_any 255 Q w hQ
theorem infoPg : (Try.prog.info? 38).map (fun i => (i.zero, i.size, i.bytes)) = some (some (.slice none 0 0), 1, 24) := by kernel_rfl
theorem build_pg (g n c : Nat) (w : World) : (Instr.buildSlice 91 1 #[(0, .slice (some ⟨g, 0, none⟩) n c)]).run Try.prog w = .ok (.slice (some ⟨w.heap.size, 0, none⟩) 1 1) (w.alloc (.cells #[.slice (some ⟨g, 0, none⟩) n c] 38)) := by kernel_rfl
theorem wp_buildPg {w : World} {o : Oper} {a : Act} {K : Act → World → Prop} {Q : Exit → Act → World → Prop} (x : Operand) (hop : o.op = Op.buildSlice 91 1 #[(0, x)])
    (g n c : Nat) (hx : a.eval x = .slice (some ⟨g, 0, none⟩) n c)
    (hK : ∀ w' b, Blk w' b 38 #[.slice (some ⟨g, 0, none⟩) n c] → w.heap.size ≤ b → Below w.heap.size w w' → K (a.put o.dst (.slice (some ⟨b, 0, none⟩) 1 1)) w') : Oper.wp Try.prog o a w K Q := by
  have hrun := build_pg g n c w
  unfold Oper.wp
  simp [execOp, hop, hx, hrun, Result.andThen]
  exact hK _ _ (Blk.new_ _ _ _) (Nat.le_refl _) ((Below.refl _ _).alloc (Nat.le_refl _) _)
end Go.Proofs.Ytcpniplfkillbaa
