/- ChipFaults: the walk. -/
import Derived.Test.YtplniojeaodjiaaChW
import Derived.Test.YtplniojeaodjiaaChipCuts
namespace Go.Proofs.Ytplniojeaodjiaa
open Go.ChangeShapes Go.WideShapes Go.ChangeAt Go.RowKit
set_option linter.unusedSimpArgs false
set_option linter.unusedVariables false

theorem fOne (a : Int) (k A : Nat) (s : ChS) (hk : (k : Int) < a) {i : Nat} (h : s.k (k : Int) 2 = (i : Int)) : failedB a [⟨(k : Int), false, (A : Int)⟩] s (k : Int) = decide (A ≤ i) := by
  unfold failedB failsB
  rw [inB_yes (by omega) hk, h]
  by_cases hA : A ≤ i
  · simp [hA]
  · simp [hA]
theorem fOther (a : Int) (k A : Nat) (s : ChS) (j : Nat) (hj : j ≠ k) : failedB a [⟨(k : Int), false, (A : Int)⟩] s (j : Int) = false := by
  unfold failedB failsB
  have : ((k : Int) == (j : Int)) = false := by simp; omega
  simp [this]
theorem bOne (k A : Nat) : badB [⟨(k : Int), false, (A : Int)⟩] (k : Int) = false := by simp [badB]
theorem mayOne {a b c d e : Int} (hm : mayB a b c d e = true) (k A : Nat) (hk : (k : Int) < a) (hA : A ≤ 20) : planMay a b c d e [⟨(k : Int), false, (A : Int)⟩] = true := by
  rw [planMay_pre hm (by simp)]
  have h1 : ¬ (k : Int) < 0 := by omega
  have h2 : ¬ a ≤ (k : Int) := by omega
  have h3 : ¬ (A : Int) < 0 := by omega
  have h4 : ¬ (1073741824 : Int) < (A : Int) := by omega
  show (preB a _ 0 && (mayF a _ && !namesB (List.take 0 _) _)) = true
  have e1 : mayF a ⟨(k : Int), false, (A : Int)⟩ = true := by
    unfold mayF
    rw [decide_eq_false h1, decide_eq_false h2, decide_eq_false h3, decide_eq_false h4]
    rfl
  have e2 : ([⟨(k : Int), false, (A : Int)⟩] : List Flt).getD 0 default = ⟨(k : Int), false, (A : Int)⟩ := rfl
  rw [e2, e1]
  simp [preB, namesB]
/-- The block while it still does: so many programs and erases together, so many pages. -/
structure Lives (s : ChS) (b c : Int) (k n i p : Nat) (B : Int) : Prop where
  on : s.on = true
  armed : s.armed = false
  bnd : s.Bnd B
  did : s.k (k : Int) 2 = (i : Int)
  used : s.k (k : Int) 0 = (p : Int)
  hp : (p : Int) ≤ b
  pg : 0 < p → ∀ N RW : Nat, (RW : Int) = c + 16 → (N : Int) = (k : Int) * b → s.pageOf N RW = bytesL n RW
theorem Lives.go {s : ChS} {b c : Int} {k n i p : Nat} {B : Int} (h : Lives s b c k n i p B) : Go s B := ⟨h.on, unarmed h.armed, h.bnd⟩
theorem Lives.mono {s : ChS} {b c : Int} {k n i p : Nat} {B B' : Int} (h : Lives s b c k n i p B) (hB : B ≤ B') : Lives s b c k n i p B' := ⟨h.on, h.armed, bnd_mono h.bnd hB, h.did, h.used, h.hp, h.pg⟩
theorem Lives.tick {s : ChS} {b c : Int} {k n i p : Nat} {B : Int} (h : Lives s b c k n i p B) : Lives { s with ops := s.ops + 1 } b c k n i p (B + 1) := by
  have q := tick_bnd h.bnd
  rw [tick_nc (unarmed h.armed)] at q
  exact ⟨h.on, h.armed, q, h.did, h.used, h.hp, h.pg⟩
theorem Lives.put {s S : ChS} {b c : Int} {k n i p N RW : Nat} {B : Int} (h : Lives s b c k n i p B) (ht : Tickd s S) (hq : Progd s S B k N RW (bytesL n RW)) (h2 : S.k (k : Int) 2 = s.k (k : Int) 2 + 1) (hpb : (p : Int) < b) (hrw : (RW : Int) = c + 16) (hN : (N : Int) = (k : Int) * b + (p : Int)) : Lives S b c k n (i + 1) (p + 1) (B + 3) := by
  refine ⟨by rw [ht.on]; exact h.on, by rw [ht.armed]; exact h.armed, hq.bnd, by rw [h2, h.did]; omega, by rw [hq.k0, h.used]; omega, by omega, fun _ N' RW' h1 h3 => ?_⟩
  obtain rfl : RW' = RW := by omega
  by_cases hp0 : p = 0
  · subst hp0
    obtain rfl : N' = N := by omega
    exact hq.pg
  · rw [hq.po N' (by omega)]
    exact h.pg (by omega) N' RW' h1 h3
theorem Lives.wipe {s S : ChS} {b c : Int} {k n i p : Nat} {B : Int} (h : Lives s b c k n i p B) (ht : Tickd s S) (hq : Wiped s S B b c k 255) (hb : 0 ≤ b) : Lives S b c k n (i + 1) 0 (B + 3) := by
  refine ⟨by rw [ht.on]; exact h.on, by rw [ht.armed]; exact h.armed, hq.bnd, by rw [hq.k2, h.did]; omega, by rw [hq.k0, if_pos rfl]; rfl, by omega, fun h0 => absurd h0 (by omega)⟩
theorem failed_z (m gx gb : Nat) (Af : Option Addr) (nf cf : Nat) (a b c d e : Int) (fs : List Flt) (B : Int) (z : Bool) (w : World) (s : ChS) (hC : ChipW w m gx gb Af nf cf a b c d e fs s) (hz : failedB a fs s B = z) : Calls Try.prog 29 #[.pointer (some ⟨m, 0, none⟩), .int .i64 B] w fun e' w' => e' = .returned (.bool z) ∧ Below w.heap.size w w' := by
  have := failed_any m gx gb Af nf cf a b c d e fs B w s hC
  rwa [hz] at this
theorem bad_z (m gx gb : Nat) (Af : Option Addr) (nf cf : Nat) (a b c d e : Int) (fs : List Flt) (B : Int) (z : Bool) (w : World) (s : ChS) (hC : ChipW w m gx gb Af nf cf a b c d e fs s) (hz : badB fs B = z) : Calls Try.prog 30 #[.pointer (some ⟨m, 0, none⟩), .int .i64 B] w fun e' w' => e' = .returned (.bool z) ∧ Below w.heap.size w w' := by
  have := bad_any m gx gb Af nf cf a b c d e fs B w s hC
  rwa [hz] at this
theorem usedF_z (m gx gb : Nat) (Af : Option Addr) (nf cf : Nat) (a b c d e : Int) (fs : List Flt) (k : Nat) (z : Int) (w : World) (s : ChS) (hC : ChipW w m gx gb Af nf cf a b c d e fs s) (hk : (k : Int) < a) (hz : s.k (k : Int) 0 = z) : Calls Try.prog 21 #[.pointer (some ⟨m, 0, none⟩), .int .i64 (k : Int)] w fun e' w' => e' = .returned (.int .i64 z) ∧ w = w' := by
  have := used_any m gx gb Af nf cf a b c d e fs (k : Int) w s hC
  rwa [show s.ask a (k : Int) 0 = z by unfold ChS.ask; rw [inB_yes (by omega) hk]; exact hz] at this
theorem wearF_z (m gx gb : Nat) (Af : Option Addr) (nf cf : Nat) (a b c d e : Int) (fs : List Flt) (k : Nat) (z : Int) (w : World) (s : ChS) (hC : ChipW w m gx gb Af nf cf a b c d e fs s) (hk : (k : Int) < a) (hz : s.k (k : Int) 1 = z) : Calls Try.prog 23 #[.pointer (some ⟨m, 0, none⟩), .int .i64 (k : Int)] w fun e' w' => e' = .returned (.int .i64 z) ∧ w = w' := by
  have := wear_any m gx gb Af nf cf a b c d e fs (k : Int) w s hC
  rwa [show s.ask a (k : Int) 1 = z by unfold ChS.ask; rw [inB_yes (by omega) hk]; exact hz] at this
theorem eraseF_go (m gx gb : Nat) (Af : Option Addr) (nf cf : Nat) (a b c d e : Int) (fs : List Flt) (k : Nat) (n : Int) (w : World) (s : ChS) (hC : ChipW w m gx gb Af nf cf a b c d e fs s) (hs : Go s n) (hn : n ≤ 900000000) (hk : (k : Int) < a) (hf : failedB a fs s (k : Int) = true) : Calls Try.prog 22 #[.pointer (some ⟨m, 0, none⟩), .int .i64 (k : Int)] w fun e' w' => e' = .returned (.int .i64 10) ∧ ChipW w' m gx gb Af nf cf a b c d e fs { s with ops := s.ops + 1 } ∧ Tch (chB m gx gb) w w' := by
  have := erase_fail m gx gb Af nf cf a b c d e fs k n w s hC hs.bnd (by omega) hs.on hk (Lib.hid hs.nc) hf
  rwa [tick_nc hs.nc] at this
theorem progF_go (m gx gb : Nat) (Af : Option Addr) (nf cf : Nat) (a b c d e : Int) (fs : List Flt) (k l RW gA : Nat) (n : Int) (bs : List Nat) (x y : Int) (hx : x = (k : Int)) (hy : y = (l : Int)) (w : World) (s : ChS) (hC : ChipW w m gx gb Af nf cf a b c d e fs s) (hs : Go s n) (hn : n ≤ 900000000) (hk : (k : Int) < a) (hl : (l : Int) < b) (HRW : Hid ((RW : Int) = c + 16)) (hf : failedB a fs s (k : Int) = true) (hR : RowT w gA 5 (bs.map byteV)) (hgn : ¬ chB m gx gb gA) (hbl : bs.length = RW) : Calls Try.prog 17 #[.pointer (some ⟨m, 0, none⟩), .agg #[.int .i64 x, .int .i64 y], .slice (some ⟨gA, 0, none⟩) RW RW] w fun e' w' => e' = .returned (.int .i64 10) ∧ ChipW w' m gx gb Af nf cf a b c d e fs { s with ops := s.ops + 1 } ∧ Tch (chB m gx gb) w w' := by
  subst hx hy
  obtain ⟨N, RW', hnum, hrw, hfit, r1, r2, hN2, hNN⟩ := page_ok hC hk hl
  obtain rfl : RW' = RW := by have := HRW.out; omega
  have := prog_err m gx gb Af nf cf a b c d e fs k l N RW' n bs gA 0 RW' w s hC hs.bnd (by omega) hs.on hk hl (Lib.hid hnum) HRW (Lib.hid hfit) r1 r2 hN2 (row_read hR) hR.lt hgn hbl (Lib.hid hs.nc) 10 (by unfold ChS.wrong; rw [hf]; rfl) (by omega)
  rwa [tick_nc hs.nc] at this
theorem newOne (a b c d e : Int) (k AN g : Nat) (w : World) (HM : Hid (mayB a b c d e = true)) (hk : (k : Int) < a) (hA : AN ≤ 20) (h : Blk w g 61 #[.int .i64 (k : Int), .bool false, .int .i64 (AN : Int)]) :
    Calls Try.prog 11 #[.agg #[.int .i64 a, .int .i64 b, .int .i64 c, .int .i64 d, .int .i64 e], .slice (some ⟨g, 0, none⟩) 1 1] w fun e' w' => (∃ m gx gb AF cf S, e' = .returned (.pointer (some ⟨m, 0, none⟩)) ∧ ChipW w' m gx gb AF 1 cf a b c d e [⟨(k : Int), false, (AN : Int)⟩] S ∧ Stand S 0 ∧ (∀ B j, S.k B j = 0) ∧ w.heap.size ≤ m ∧ w.heap.size ≤ gx ∧ w.heap.size ≤ gb) ∧ Below w.heap.size w w' := by
  obtain ⟨g1, g2, g3, g4, g5, g6, -⟩ := may_bd HM.out
  obtain ⟨p1, p2⟩ := mul_bd (x := a) (y := b) (lo := 8) (hi := 20) (l2 := 4) (h2 := 8) g1 g2 g3 g4 (by omega) (by omega)
  obtain ⟨p3, p4⟩ := mul_bd (x := a * b) (y := c + 16) (lo := 32) (hi := 160) (l2 := 40) (h2 := 80) (by omega) (by omega) (by omega) (by omega) (by omega) (by omega)
  obtain ⟨NX, hNX⟩ : ∃ NX : Nat, (NX : Int) = a * b * (c + 16) := ⟨(a * b * (c + 16)).toNat, by omega⟩
  obtain ⟨NB, hNB⟩ : ∃ NB : Nat, (NB : Int) = a := ⟨a.toNat, by omega⟩
  have hs : SlF w w.heap.size (some ⟨g, 0, none⟩) [⟨(k : Int), false, (AN : Int)⟩] := by
    refine Or.inr ⟨g, 0, rfl, h.lt, fun j f hf => ?_⟩
    match j, hf with
    | 0, hf =>
      obtain rfl : (⟨(k : Int), false, (AN : Int)⟩ : Flt) = f := by simpa using hf
      exact ⟨h.cell_ 0, h.cell_ 1, h.cell_ 2⟩
    | j + 1, hf => simp at hf
  refine (newF_yes a b c d e [⟨(k : Int), false, (AN : Int)⟩] (some ⟨g, 0, none⟩) 1 NX NB w hs (by simp) (by unfold maxLen; omega) (by simp) (Lib.hid (mayOne HM.out k AN hk hA)) hNX hNB (by omega) (by omega) (by omega)).mono ?_
  rintro e' w' ⟨⟨m, gx, gb, AF, cf, rfl, hC, h1, h2, h3⟩, hb⟩
  have hK : ∀ i, (ChS.new NX NB).K.getD i 0 = 0 := by
    intro i
    rw [List.getD_eq_getElem?_getD]
    show ((List.replicate (3 * NB) (0 : Int))[i]?).getD 0 = 0
    rw [List.getElem?_replicate]
    split <;> rfl
  exact ⟨⟨m, gx, gb, AF, cf, _, rfl, hC, ⟨rfl, rfl, ⟨Int.le_refl _, Int.le_refl _, Int.le_refl _, Int.le_refl _, fun i => by rw [hK]; exact Int.le_refl _, fun i => by rw [hK]; exact Int.le_refl _⟩⟩, fun B j => hK _, h1, h2, h3⟩, hb⟩
set_option maxRecDepth 100000 in
set_option maxHeartbeats 8000000 in
theorem cfaults_walk (a b c d e block after : Int) (n : Nat) (w : World) (_ : i64in a ∧ i64in b ∧ i64in c ∧ i64in d ∧ i64in e) (_ : i64in block) (_ : i64in after) (hf : n < 256) :
    Calls Try.prog 6 #[.agg #[.int .i64 a, .int .i64 b, .int .i64 c, .int .i64 d, .int .i64 e], .int .i64 block, .int .i64 after, .int .u8 (n : Int)] w fun e' w' => e' = .returned (.bool true) ∧ Below w.heap.size w w' := by
  have HB0 : Below w.heap.size w (w.alloc (.cells #[.int .i64 a, .int .i64 b, .int .i64 c, .int .i64 d, .int .i64 e] 23)) := (Below.refl _ _).alloc (Nat.le_refl _) _
  have G1 : Blk (w.alloc (.cells #[.int .i64 a, .int .i64 b, .int .i64 c, .int .i64 d, .int .i64 e] 23)) w.heap.size 23 #[.int .i64 a, .int .i64 b, .int .i64 c, .int .i64 d, .int .i64 e] := Blk.new_ _ _ _
  have HY := cells5 G1
  rcases (by cases hq : mayB a b c d e <;> simp : mayB a b c d e = false ∨ mayB a b c d e = true) with hmm | hmm
  · have HM := Lib.hid hmm
    clear G1 HY hmm
    go_enter Try.func6, Try.ntmps6
    go_wp2_with (first
      | (go_at_call 16; ((with_reducible refine (low_any _ _ _ (by omega) (by omega)).mono ?_); rintro e' wN ⟨rfl, rfl⟩; skip))
      | (go_at_call 11; ((with_reducible refine (new0_no _ _ _ _ _ _ HM).mono ?_); rintro e' wN ⟨rfl, hb⟩; replace HB0 := btr HB0 HB0.size hb))
      | (go_at_call 10; ((with_reducible refine (awake_any _).mono ?_); rintro e' wN ⟨rfl, hb⟩; replace HB0 := btr HB0 HB0.size hb)))
    go_ret
    exact ⟨rfl, HB0⟩
  have HM := Lib.hid hmm
  clear hmm
  obtain ⟨q1, q2, q3, q4, q5, q6, -⟩ := may_bd HM.out
  obtain ⟨k, hkk⟩ : ∃ k : Nat, lowI block a = (k : Int) := ⟨(lowI block a).toNat, by have := lowI_bd block a (by omega); omega⟩
  have hk : (k : Int) < a := by have := lowI_bd block a (by omega); omega
  obtain ⟨A1, haa⟩ : ∃ A1 : Nat, lowI after 20 = (A1 : Int) := ⟨(lowI after 20).toNat, by have := lowI_bd after 20 (by omega); omega⟩
  have hA1 : A1 < 20 := by have := lowI_bd after 20 (by omega); omega
  obtain ⟨AN, hAN⟩ : ∃ AN : Nat, 1 + (A1 : Int) = (AN : Int) := ⟨1 + A1, by omega⟩
  obtain ⟨RW, hRW⟩ : ∃ RW : Nat, (RW : Int) = c + 16 := ⟨(c + 16).toNat, by omega⟩
  have HRW := Lib.hid hRW
  have hrw' : c + 16 = (RW : Int) := hRW.symm
  have r1 : 40 ≤ RW := by omega
  have r2 : RW ≤ 80 := by omega
  clear hRW
  go_enter Try.func6, Try.ntmps6
  go_upto_region 5 with (first
    | (go_at_call 16; ((with_reducible refine (low_any _ _ _ (by omega) (by omega)).mono ?_); rintro e' wN ⟨rfl, rfl⟩; skip))
    | (go_at_call 11; ((with_reducible refine (new_go _ _ _ _ _ _ HM).mono ?_); rintro e' wN ⟨⟨m0, gx0, gb0, S0, rfl, -, -, -, -, -, -, -, -, -⟩, hb⟩; replace HB0 := btr HB0 HB0.size hb; replace G1 := G1.below hb G1.lt; (try clear HY); have HY := cells5 G1))
    | (go_at_call 15; ((with_reducible refine (rmay_b _ _ _ _ _ _ _ HM).mono ?_); rintro e' wN ⟨rfl, hb⟩; replace HB0 := btr HB0 HB0.size hb; replace G1 := G1.below hb G1.lt; (try clear HY); have HY := cells5 G1)))
  obtain ⟨w5, hw5⟩ : ∃ V : World, V = wN := ⟨_, rfl⟩
  rw [← hw5] at HB0 G1 HY ⊢
  clear hw5 hb
  have GF : Blk (w5.alloc (.cells #[.int .i64 (k : Int), .bool false, .int .i64 (AN : Int)] 61)) w5.heap.size 61 #[.int .i64 (k : Int), .bool false, .int .i64 (AN : Int)] := Blk.new_ _ _ _
  replace HB0 := HB0.alloc HB0.size (.cells #[.int .i64 (k : Int), .bool false, .int .i64 (AN : Int)] 61)
  replace G1 := G1.alloc_ (.cells #[.int .i64 (k : Int), .bool false, .int .i64 (AN : Int)] 61)
  have HB5 := G1.lt
  go_upto_region 9 with (first
    | (go_at_call 11; ((with_reducible refine (newOne _ _ _ _ _ k AN _ _ HM hk (by omega) GF).mono ?_); rintro e' wN ⟨⟨m, gx, gb, AF, cf, S0, rfl, hC, hSt, hK0, hm, hgx, hgb⟩, hb⟩; replace HB0 := btr HB0 HB0.size hb; replace G1 := G1.below hb G1.lt; (try clear HY); have HY := cells5 G1)))
  have hl1 : w.heap.size < m ∧ w.heap.size < gx ∧ w.heap.size < gb := by
    omega
  obtain ⟨w1, hw1⟩ : ∃ V : World, V = wN := ⟨_, rfl⟩
  rw [← hw1] at HB0 G1 HY hC ⊢
  clear hw1 hb hm hgx hgb GF HB5
  have hnb : ¬ chB m gx gb w.heap.size := by unfold chB; omega
  have HT : Tch (chB m gx gb) w1 w1 := Tch.refl _
  have GR := G1
  have HL0 : Hid (Lives S0 b c k n 0 0 50) := Lib.hid ⟨hSt.on, hSt.armed, bnd_mono hSt.bnd (by omega), hK0 _ _, hK0 _ _, by omega, fun h => absurd h (by omega)⟩
  clear hSt hK0
  go_wp2_with fail
  go_loopw [11, 12] (fun s11 s12 wr => ∃ (i p : Nat) (S : ChS), i ≤ AN ∧ s11 = .int .i64 (p : Int) ∧ s12 = .int .i64 (i : Int) ∧ ChipW wr m gx gb AF 1 cf a b c d e [⟨(k : Int), false, (AN : Int)⟩] S ∧ Hid (Lives S b c k n i p (50 + 3 * (i : Int))) ∧ Tch (chB m gx gb) w1 wr) (fun _ s12 _ => AN - (intOf s12).toNat)
  case atStart => exact ⟨0, 0, S0, Nat.zero_le _, rfl, rfl, (by first | exact hC | exact hC.drew), HL0, (by first | exact HT | exact HT.like)⟩
  case round =>
    clear hC HL0 HT GR HY
    obtain ⟨i, p, S, hi, rfl, rfl, hC, HL, HT⟩ := hrel
    have GR := HT.blk G1 hnb
    have HY := cells5 GR
    have hpb := HL.out.hp
    by_cases hlt : i < AN
    · have i0 : (i : Int) < (AN : Int) := by omega
      by_cases hpp : p < b.toNat
      · have p0 : (p : Int) < b := by omega
        have p1 : ((p : Int) == b) = false := by simp; omega
        obtain ⟨N, hN⟩ : ∃ N : Nat, (N : Int) = (k : Int) * b + (p : Int) := ⟨((k : Int) * b + (p : Int)).toNat, by have := Int.mul_nonneg (a := (k : Int)) (b := b) (by omega) (by omega); omega⟩
        have HN := Lib.hid hN
        clear hN
        go_wp2_with (first
          | (go_at_call 29; ((with_reducible refine (failed_z _ _ _ _ _ _ _ _ _ _ _ _ _ false _ S hC (by rw [fOne a k AN S hk HL.out.did]; exact decide_eq_false (by omega))).mono ?_); rintro e' wN ⟨rfl, hb⟩; replace hC := hC.below hb; replace HT := HT.then hb; clear hb; clear GR HY; have GR := HT.blk G1 hnb; have HY := cells5 GR))
          | (go_at_call 18; ((with_reducible refine (bytesZ _ n RW _ (by omega) (by omega) (by omega) (by omega)).mono ?_); rintro e' wN ⟨⟨gA, rfl, hRgA, hggA⟩, hb⟩; have hngA : ¬ chB m gx gb gA := (by have := hC.lt; unfold chB; omega); clear hggA; replace hC := hC.below hb; replace HT := HT.then hb; clear hb; clear GR HY; have GR := HT.blk G1 hnb; have HY := cells5 GR))
          | (go_at_call 17; ((with_reducible refine (progI _ _ _ _ _ _ _ _ _ _ _ _ k p N RW gA _ (bytesL n RW) _ _ (by omega) (by omega) hk (by omega) _ S hC HL.out.go (by omega) HRW HN (by rw [fOne a k AN S hk HL.out.did]; exact decide_eq_false (by omega)) HL.out.used hRgA hngA (bytesL_len n RW)).mono ?_); rintro e' wN ⟨rfl, ⟨S2, hC1, HS2⟩, hT⟩; clear hC; have hC := hC1; clear hC1; replace HT := HT.trans hT; clear hT; clear GR HY; have GR := HT.blk G1 hnb; have HY := cells5 GR)))
        go_roundw
        case rel => exact ⟨i + 1, p + 1, S2, by omega, by go_num, by go_num, hC, Lib.hid ((HL.out.put HS2.out.1 HS2.out.2.1 HS2.out.2.2 p0 HRW.out HN.out).mono (by omega)), HT⟩
        case measure => simp [intOf]; omega
      · have p0 : (p : Int) = b := by omega
        have p1 : ((p : Int) == b) = true := by simp [p0]
        go_wp2_with (first
          | (go_at_call 29; ((with_reducible refine (failed_z _ _ _ _ _ _ _ _ _ _ _ _ _ false _ S hC (by rw [fOne a k AN S hk HL.out.did]; exact decide_eq_false (by omega))).mono ?_); rintro e' wN ⟨rfl, hb⟩; replace hC := hC.below hb; replace HT := HT.then hb; clear hb; clear GR HY; have GR := HT.blk G1 hnb; have HY := cells5 GR))
          | (go_at_call 22; ((with_reducible refine (eraseI _ _ _ _ _ _ _ _ _ _ _ _ k _ _ (by omega) hk _ S hC HL.out.go (by omega) (by omega) (by rw [fOne a k AN S hk HL.out.did]; exact decide_eq_false (by omega))).mono ?_); rintro e' wN ⟨rfl, ⟨S2, hC1, HS2⟩, hT⟩; clear hC; have hC := hC1; clear hC1; replace HT := HT.trans hT; clear hT; clear GR HY; have GR := HT.blk G1 hnb; have HY := cells5 GR)))
        go_roundw
        case rel => exact ⟨i + 1, 0, S2, by omega, by go_num, by go_num, hC, Lib.hid ((HL.out.wipe HS2.out.1 HS2.out.2 (by omega)).mono (by omega)), HT⟩
        case measure => simp [intOf]; omega
    · have i0 : ¬ (i : Int) < (AN : Int) := by omega
      obtain rfl : AN = i := by omega
      obtain ⟨WR, hWR⟩ : ∃ z, S.k (k : Int) 1 = z := ⟨_, rfl⟩
      have HW0 := Lib.hid hWR
      clear hWR
      go_upto_region 24 with (first
        | (go_at_call 23; ((with_reducible refine (wearF_z _ _ _ _ _ _ _ _ _ _ _ _ k WR _ S hC hk HW0.out).mono ?_); rintro e' wN ⟨rfl, rfl⟩; skip))
        | (go_at_call 21; ((with_reducible refine (usedF_z _ _ _ _ _ _ _ _ _ _ _ _ k (p : Int) _ S hC hk HL.out.used).mono ?_); rintro e' wN ⟨rfl, rfl⟩; skip))
        | (go_at_call 22; ((with_reducible refine (eraseF_go _ _ _ _ _ _ _ _ _ _ _ _ k _ _ S hC HL.out.go (by omega) hk (by rw [fOne a k AN S hk HL.out.did]; exact decide_eq_true (by omega))).mono ?_); rintro e' wN ⟨rfl, hC1, hT⟩; clear hC; have hC := hC1; clear hC1; replace HL : Hid (Lives ({ S with ops := S.ops + 1 } : ChS) b c k n AN p _) := Lib.hid HL.out.tick; replace HW0 : Hid (({ S with ops := S.ops + 1 } : ChS).k (k : Int) 1 = WR) := Lib.hid HW0.out; replace HT := HT.trans hT; clear hT; clear GR HY; have GR := HT.blk G1 hnb; have HY := cells5 GR)))
      obtain ⟨S3, hS3⟩ : ∃ S3 : ChS, S3 = { S with ops := S.ops + 1 } := ⟨_, rfl⟩
      rw [← hS3] at hC HL HW0
      clear hS3
      have hwb1 : IntKind.i64.wrap (b - 1) = b - 1 := wrapS _ (by omega) (by omega)
      obtain ⟨N0, hN0⟩ : ∃ N : Nat, (N : Int) = (k : Int) * b + ((0 : Nat) : Int) := ⟨((k : Int) * b).toNat, by have := Int.mul_nonneg (a := (k : Int)) (b := b) (by omega) (by omega); omega⟩
      have HN0 := Lib.hid hN0
      clear hN0
      obtain ⟨j, hj, hjk, hjm⟩ : ∃ j : Nat, (j : Int) < a ∧ j ≠ k ∧ Int.tmod ((k : Int) + 1) a = (j : Int) := by
        by_cases h : (k : Int) + 1 = a
        · exact ⟨0, by omega, by omega, by rw [h]; exact Int.tmod_self⟩
        · exact ⟨k + 1, by omega, by omega, by rw [Int.tmod_eq_of_lt (by omega) (by omega)]; omega⟩
      have ha0 : (a == 0) = false := by simp; omega
      have ha1 : ¬ a = 0 := by omega
      replace hC := hC.drew
      replace HT : Tch (chB m gx gb) w1 wN.drew := HT.like
      clear GR HY
      have GR := HT.blk G1 hnb
      have HY := cells5 GR
      rcases (by omega : ¬ b - 1 < (p : Int) ∨ b - 1 < (p : Int)) with hbp | hbp
      · obtain ⟨LL, hLL⟩ : ∃ LL : Nat, LL = p := ⟨_, rfl⟩
        refine wp_region_noPanic ?_
        refine wp_region_held_drew (S := (fun w' => w'.cell? ⟨w.heap.size, 1, none⟩ = some (.int .i64 b))) (by kernel_rfl) ?_ (fun hHeld => ?_)
        · (first | exact HY.2.1 | assumption)
        refine wpAnyH_take (i := 0) (oi := { dst := some 83, op := Op.move (Operand.tmp 9), type := 27, pos := "law.go:233", after := #[], guard := none }) (v := ?_) rfl (by kernel_rfl) (by kernel_rfl) (by kernel_rfl) (fun _ _ _ h => h) (Or.inl ⟨by rfl, ?_⟩) (by assumption) ?_
        rotate_left
        · (intro wS hSw; (try dsimp only at hSw); go_simp; (try with_reducible rfl))
        try simp only [Act.put, List.setIfInBounds_toArray, List.set_cons_zero, List.set_cons_succ]
        refine wpAnyH_take (i := 1) (oi := { dst := some 84, op := Op.move (Operand.tmp 1), type := 3, pos := "law.go:233", after := #[], guard := none }) (v := ?_) rfl (by kernel_rfl) (by kernel_rfl) (by kernel_rfl) (fun _ _ _ h => h) (Or.inl ⟨by rfl, ?_⟩) (by assumption) ?_
        rotate_left
        · (intro wS hSw; (try dsimp only at hSw); go_simp; (try with_reducible rfl))
        try simp only [Act.put, List.setIfInBounds_toArray, List.set_cons_zero, List.set_cons_succ]
        refine wpAnyH_take (i := 2) (oi := { dst := some 85, op := Op.move (Operand.tmp 15), type := 3, pos := "law.go:233", after := #[], guard := none }) (v := ?_) rfl (by kernel_rfl) (by kernel_rfl) (by kernel_rfl) (fun _ _ _ h => h) (Or.inl ⟨by rfl, ?_⟩) (by assumption) ?_
        rotate_left
        · (intro wS hSw; (try dsimp only at hSw); go_simp; (try with_reducible rfl))
        try simp only [Act.put, List.setIfInBounds_toArray, List.set_cons_zero, List.set_cons_succ]
        refine wpAnyH_take (i := 3) (oi := { dst := some 86, op := Op.fieldAddr 23 (Operand.tmp 4) 1, type := 0, pos := "law.go:233", after := #[], guard := none }) (v := ?_) rfl (by kernel_rfl) (by kernel_rfl) (by kernel_rfl) (fun _ _ _ h => h) (Or.inl ⟨by rfl, ?_⟩) (by assumption) ?_
        rotate_left
        · (intro wS hSw; (try dsimp only at hSw); go_simp; (try with_reducible rfl))
        try simp only [Act.put, List.setIfInBounds_toArray, List.set_cons_zero, List.set_cons_succ]
        refine wpAnyH_take (i := 4) (oi := { dst := some 87, op := Op.load 3 (Operand.tmp 86), type := 3, pos := "law.go:233", after := #[{ on := 3, ground := Ground.data }], guard := none }) (v := ?_) rfl (by kernel_rfl) (by kernel_rfl) (by kernel_rfl) (fun _ _ _ h => h) (Or.inl ⟨by rfl, ?_⟩) (by assumption) ?_
        rotate_left
        · (intro wS hSw; (try dsimp only at hSw); go_simp; (try with_reducible rfl))
        try simp only [Act.put, List.setIfInBounds_toArray, List.set_cons_zero, List.set_cons_succ]
        refine wpAnyH_take (i := 5) (oi := { dst := some 88, op := Op.binOp BinOp.sub 3 (Operand.tmp 87) (Operand.const (Value.int IntKind.i64 1)) 3, type := 3, pos := "law.go:233", after := #[{ on := 4, ground := Ground.data }], guard := none }) (v := ?_) rfl (by kernel_rfl) (by kernel_rfl) (by kernel_rfl) (fun _ _ _ h => h) (Or.inl ⟨by rfl, ?_⟩) (by assumption) ?_
        rotate_left
        · (intro wS hSw; (try dsimp only at hSw); go_simp; (try with_reducible rfl))
        try simp only [Act.put, List.setIfInBounds_toArray, List.set_cons_zero, List.set_cons_succ]
        refine wpAnyH_take (i := 6) (oi := { dst := some 89, op := Op.call { callee := Callee.builtin Builtin.min, args := #[Operand.tmp 85, Operand.tmp 88], argTypes := #[3, 3] }, type := 3, pos := "law.go:233", after := #[{ on := 2, ground := Ground.data }, { on := 5, ground := Ground.data }], guard := none }) (v := ?_) rfl (by kernel_rfl) (by kernel_rfl) (by kernel_rfl) (fun _ _ _ h => h) (Or.inl ⟨by rfl, ?_⟩) (by assumption) ?_
        rotate_left
        · (intro wS hSw; (try dsimp only at hSw); go_simp; (try with_reducible rfl))
        try simp only [Act.put, List.setIfInBounds_toArray, List.set_cons_zero, List.set_cons_succ]
        refine wpAnyH_take (i := 7) (oi := { dst := some 90, op := Op.build 33 #[(0, Operand.tmp 84), (1, Operand.tmp 89)], type := 33, pos := "law.go:233", after := #[{ on := 1, ground := Ground.data }, { on := 6, ground := Ground.data }], guard := none }) (v := ?_) rfl (by kernel_rfl) (by kernel_rfl) (by kernel_rfl) (fun _ _ _ h => h) (Or.inl ⟨by rfl, ?_⟩) (by assumption) ?_
        rotate_left
        · (intro wS hSw; (try dsimp only at hSw); go_simp; (try with_reducible rfl))
        try simp only [Act.put, List.setIfInBounds_toArray, List.set_cons_zero, List.set_cons_succ]
        refine wpAnyH_take (i := 8) (oi := { dst := some 91, op := Op.move (Operand.tmp 3), type := 5, pos := "law.go:233", after := #[], guard := none }) (v := ?_) rfl (by kernel_rfl) (by kernel_rfl) (by kernel_rfl) (fun _ _ _ h => h) (Or.inl ⟨by rfl, ?_⟩) (by assumption) ?_
        rotate_left
        · (intro wS hSw; (try dsimp only at hSw); go_simp; (try with_reducible rfl))
        try simp only [Act.put, List.setIfInBounds_toArray, List.set_cons_zero, List.set_cons_succ]
        refine wpAnyH_take (i := 9) (oi := { dst := some 92, op := Op.move (Operand.tmp 10), type := 3, pos := "law.go:233", after := #[], guard := none }) (v := ?_) rfl (by kernel_rfl) (by kernel_rfl) (by kernel_rfl) (fun _ _ _ h => h) (Or.inl ⟨by rfl, ?_⟩) (by assumption) ?_
        rotate_left
        · (intro wS hSw; (try dsimp only at hSw); go_simp; (try with_reducible rfl))
        try simp only [Act.put, List.setIfInBounds_toArray, List.set_cons_zero, List.set_cons_succ]
        refine wpAnyH_ready (rs := [10]) (by kernel_rfl) (by simp) ?_
        refine AllReadyH.cons (o := { dst := some 93, op := Op.call { callee := Callee.value (Operand.func 18), args := #[Operand.tmp 91, Operand.tmp 92], argTypes := #[5, 3] }, type := 48, pos := "law.go:233", after := #[{ on := 8, ground := Ground.data }, { on := 9, ground := Ground.data }], guard := none }) rfl (fun K hK => ?_) AllReadyH.nil
        go_simp
        (go_at_call 18; ((with_reducible refine (bytesZ _ n RW _ (by omega) (by omega) (by omega) (by omega)).mono ?_); rintro e' wN ⟨⟨gB, rfl, hRgB, hggB⟩, hb⟩; have hngB : ¬ chB m gx gb gB := (by have := hC.lt; unfold chB; omega); clear hggB; replace hC := hC.below hb; replace HT := HT.then hb; clear hb; clear GR HY; have GR := HT.blk G1 hnb; have HY := cells5 GR))
        go_wp2_with fail
        refine hK.out _ _ ?_ (fun hNew => ?_)
        · (first | exact HY.2.1 | assumption)
        clear hK K hHeld
        have hHeld := hNew
        clear hNew
        try simp only [Act.put, List.setIfInBounds_toArray, List.set_cons_zero, List.set_cons_succ]
        refine wpAnyH_ready (rs := [11]) (by kernel_rfl) (by simp) ?_
        refine AllReadyH.cons (o := { dst := some 94, op := Op.call { callee := Callee.value (Operand.func 17), args := #[Operand.tmp 83, Operand.tmp 90, Operand.tmp 93], argTypes := #[27, 33, 48] }, type := 46, pos := "law.go:233", after := #[{ on := 0, ground := Ground.data }, { on := 7, ground := Ground.data }, { on := 10, ground := Ground.data }, { on := 10, ground := Ground.chain }], guard := none }) rfl (fun K hK => ?_) AllReadyH.nil
        go_simp
        (go_at_call 17; ((with_reducible refine (progF_go _ _ _ _ _ _ _ _ _ _ _ _ k LL RW gB _ (bytesL n RW) _ _ (by omega) (by omega) _ S3 hC HL.out.go (by omega) hk (by omega) HRW (by rw [fOne a k AN S3 hk HL.out.did]; exact decide_eq_true (by omega)) hRgB hngB (bytesL_len n RW)).mono ?_); rintro e' wN ⟨rfl, hC1, hT⟩; clear hC; have hC := hC1; clear hC1; replace HL : Hid (Lives ({ S3 with ops := S3.ops + 1 } : ChS) b c k n AN p _) := Lib.hid HL.out.tick; replace HW0 : Hid (({ S3 with ops := S3.ops + 1 } : ChS).k (k : Int) 1 = WR) := Lib.hid HW0.out; replace HT := HT.trans hT; clear hT; clear GR HY; have GR := HT.blk G1 hnb; have HY := cells5 GR))
        go_wp2_with fail
        refine hK.out _ _ ?_ (fun hNew => ?_)
        · (first | exact HY.2.1 | assumption)
        clear hK K hHeld
        have hHeld := hNew
        clear hNew
        try simp only [Act.put, List.setIfInBounds_toArray, List.set_cons_zero, List.set_cons_succ]
        refine wpAnyH_take (i := 12) (oi := { dst := some 17, op := Op.assign (Operand.tmp 94), type := 46, pos := "law.go:233", after := #[{ on := 11, ground := Ground.data }, { on := 11, ground := Ground.chain }, { on := 0, ground := Ground.phase }, { on := 1, ground := Ground.phase }, { on := 2, ground := Ground.phase }, { on := 3, ground := Ground.phase }, { on := 4, ground := Ground.phase }, { on := 5, ground := Ground.phase }, { on := 6, ground := Ground.phase }, { on := 7, ground := Ground.phase }, { on := 8, ground := Ground.phase }, { on := 9, ground := Ground.phase }, { on := 10, ground := Ground.phase }, { on := 11, ground := Ground.phase }], guard := none }) (v := ?_) rfl (by kernel_rfl) (by kernel_rfl) (by kernel_rfl) (fun _ _ _ h => h) (Or.inl ⟨by rfl, ?_⟩) (by assumption) ?_
        rotate_left
        · (intro wS hSw; (try dsimp only at hSw); go_simp; (try with_reducible rfl))
        try simp only [Act.put, List.setIfInBounds_toArray, List.set_cons_zero, List.set_cons_succ]
        refine wpAnyH_done (by kernel_rfl) ?_ _
        refine NoPanic.normal ?_
        go_upto_region 25 with fail
        obtain ⟨S4, hS4⟩ : ∃ S4 : ChS, S4 = { S3 with ops := S3.ops + 1 } := ⟨_, rfl⟩
        rw [← hS4] at hC HL HW0
        clear hS4
        go_upto_region 26 with (first
          | (go_at_call 19; ((with_reducible refine (readI _ _ _ _ _ _ _ _ _ _ _ _ k 0 N0 RW _ _ _ (by omega) (by omega) hk (by omega) _ S4 hC HL.out.go (by omega) HRW HN0).mono ?_); rintro e' wN ⟨⟨g9, c9, rfl, hR9, hg9⟩, hC1, -, hT⟩; clear hC hg9; have hC := hC1; clear hC1; replace HL : Hid (Lives ({ S4 with ops := S4.ops + 1 } : ChS) b c k n AN p _) := Lib.hid HL.out.tick; replace HW0 : Hid (({ S4 with ops := S4.ops + 1 } : ChS).k (k : Int) 1 = WR) := Lib.hid HW0.out; replace HT := HT.trans hT; clear hT; clear GR HY; have GR := HT.blk G1 hnb; have HY := cells5 GR)))
        obtain ⟨S5, hS5⟩ : ∃ S5 : ChS, S5 = { S4 with ops := S4.ops + 1 } := ⟨_, rfl⟩
        rw [← hS5] at hC HL HW0
        have HPG : Hid (0 < p → S4.pageOf N0 RW = bytesL n RW) := Lib.hid (fun h => by
          have := HL.out.pg h N0 RW HRW.out (by have := HN0.out; omega)
          rw [hS5] at this
          exact this)
        clear hS5
        by_cases hp0 : p = 0
        · first
          | (exfalso; omega)
          | (have hpz : ((p : Int) == 0) = true := by simp [hp0]
             have hpz2 : (p : Int) = 0 := by omega
             go_wp2_with (first
               | (go_at_call 29; ((with_reducible refine (failed_z _ _ _ _ _ _ _ _ _ _ _ _ _ true _ S5 hC (by rw [fOne a k AN S5 hk HL.out.did]; exact decide_eq_true (by omega))).mono ?_); rintro e' wN ⟨rfl, hb⟩; (try replace hR9 := hR9.below hb); replace hC := hC.below hb; replace HT := HT.then hb; clear hb; clear GR HY; have GR := HT.blk G1 hnb; have HY := cells5 GR))
               | (go_at_call 30; ((with_reducible refine (bad_z _ _ _ _ _ _ _ _ _ _ _ _ _ false _ S5 hC (bOne k AN)).mono ?_); rintro e' wN ⟨rfl, hb⟩; (try replace hR9 := hR9.below hb); replace hC := hC.below hb; replace HT := HT.then hb; clear hb; clear GR HY; have GR := HT.blk G1 hnb; have HY := cells5 GR))
               | (go_at_call 23; ((with_reducible refine (wearF_z _ _ _ _ _ _ _ _ _ _ _ _ k WR _ S5 hC hk HW0.out).mono ?_); rintro e' wN ⟨rfl, rfl⟩; skip))
               | (go_at_call 21; ((with_reducible refine (usedF_z _ _ _ _ _ _ _ _ _ _ _ _ k (p : Int) _ S5 hC hk HL.out.used).mono ?_); rintro e' wN ⟨rfl, rfl⟩; skip))
               | (go_at_call 22; ((with_reducible refine (eraseI _ _ _ _ _ _ _ _ _ _ _ _ j _ _ (by omega) hj _ S5 hC HL.out.go (by omega) (by omega) (fOther a k AN S5 j hjk)).mono ?_); rintro e' wN ⟨rfl, -, hT⟩; replace HT := HT.trans hT; clear hT))
               | (go_at_call 10; ((with_reducible refine (awake_any _).mono ?_); rintro e' wN ⟨rfl, hb⟩; replace HT := HT.then hb)))
             go_ret
             exact ⟨rfl, HB0.trans (HT.below HB0.size (fun g hg => by unfold chB at hg; omega))⟩)
        · have hpz : ((p : Int) == 0) = false := by simp; omega
          rw [HPG.out (by omega)] at hR9
          go_wp2_with (first
            | (go_at_call 29; ((with_reducible refine (failed_z _ _ _ _ _ _ _ _ _ _ _ _ _ true _ S5 hC (by rw [fOne a k AN S5 hk HL.out.did]; exact decide_eq_true (by omega))).mono ?_); rintro e' wN ⟨rfl, hb⟩; (try replace hR9 := hR9.below hb); replace hC := hC.below hb; replace HT := HT.then hb; clear hb; clear GR HY; have GR := HT.blk G1 hnb; have HY := cells5 GR))
            | (go_at_call 30; ((with_reducible refine (bad_z _ _ _ _ _ _ _ _ _ _ _ _ _ false _ S5 hC (bOne k AN)).mono ?_); rintro e' wN ⟨rfl, hb⟩; (try replace hR9 := hR9.below hb); replace hC := hC.below hb; replace HT := HT.then hb; clear hb; clear GR HY; have GR := HT.blk G1 hnb; have HY := cells5 GR))
            | (go_at_call 18; ((with_reducible refine (bytesZ _ n RW _ (by omega) (by omega) (by omega) (by omega)).mono ?_); rintro e' wN ⟨⟨gC, rfl, hRC, -⟩, hb⟩; replace hR9 := hR9.below hb; replace hC := hC.below hb; replace HT := HT.then hb; clear hb; clear GR HY; have GR := HT.blk G1 hnb; have HY := cells5 GR))
            | (go_at_call 20; ((with_reducible refine (sameB_row (bytesL n RW) RW g9 _ gC _ hR9 hRC (bytesL_len _ RW) (by omega)).mono ?_); rintro e' wN ⟨rfl, hb⟩; replace hC := hC.below hb; replace HT := HT.then hb; clear hb; clear GR HY; have GR := HT.blk G1 hnb; have HY := cells5 GR))
            | (go_at_call 23; ((with_reducible refine (wearF_z _ _ _ _ _ _ _ _ _ _ _ _ k WR _ S5 hC hk HW0.out).mono ?_); rintro e' wN ⟨rfl, rfl⟩; skip))
            | (go_at_call 21; ((with_reducible refine (usedF_z _ _ _ _ _ _ _ _ _ _ _ _ k (p : Int) _ S5 hC hk HL.out.used).mono ?_); rintro e' wN ⟨rfl, rfl⟩; skip))
            | (go_at_call 22; ((with_reducible refine (eraseI _ _ _ _ _ _ _ _ _ _ _ _ j _ _ (by omega) hj _ S5 hC HL.out.go (by omega) (by omega) (fOther a k AN S5 j hjk)).mono ?_); rintro e' wN ⟨rfl, -, hT⟩; replace HT := HT.trans hT; clear hT))
            | (go_at_call 10; ((with_reducible refine (awake_any _).mono ?_); rintro e' wN ⟨rfl, hb⟩; replace HT := HT.then hb)))
          go_ret
          exact ⟨rfl, HB0.trans (HT.below HB0.size (fun g hg => by unfold chB at hg; omega))⟩
      · obtain ⟨LL, hLL⟩ : ∃ LL : Nat, LL = p - 1 := ⟨_, rfl⟩
        refine wp_region_noPanic ?_
        refine wp_region_held_drew (S := (fun w' => w'.cell? ⟨w.heap.size, 1, none⟩ = some (.int .i64 b))) (by kernel_rfl) ?_ (fun hHeld => ?_)
        · (first | exact HY.2.1 | assumption)
        refine wpAnyH_take (i := 0) (oi := { dst := some 83, op := Op.move (Operand.tmp 9), type := 27, pos := "law.go:233", after := #[], guard := none }) (v := ?_) rfl (by kernel_rfl) (by kernel_rfl) (by kernel_rfl) (fun _ _ _ h => h) (Or.inl ⟨by rfl, ?_⟩) (by assumption) ?_
        rotate_left
        · (intro wS hSw; (try dsimp only at hSw); go_simp; (try with_reducible rfl))
        try simp only [Act.put, List.setIfInBounds_toArray, List.set_cons_zero, List.set_cons_succ]
        refine wpAnyH_take (i := 1) (oi := { dst := some 84, op := Op.move (Operand.tmp 1), type := 3, pos := "law.go:233", after := #[], guard := none }) (v := ?_) rfl (by kernel_rfl) (by kernel_rfl) (by kernel_rfl) (fun _ _ _ h => h) (Or.inl ⟨by rfl, ?_⟩) (by assumption) ?_
        rotate_left
        · (intro wS hSw; (try dsimp only at hSw); go_simp; (try with_reducible rfl))
        try simp only [Act.put, List.setIfInBounds_toArray, List.set_cons_zero, List.set_cons_succ]
        refine wpAnyH_take (i := 2) (oi := { dst := some 85, op := Op.move (Operand.tmp 15), type := 3, pos := "law.go:233", after := #[], guard := none }) (v := ?_) rfl (by kernel_rfl) (by kernel_rfl) (by kernel_rfl) (fun _ _ _ h => h) (Or.inl ⟨by rfl, ?_⟩) (by assumption) ?_
        rotate_left
        · (intro wS hSw; (try dsimp only at hSw); go_simp; (try with_reducible rfl))
        try simp only [Act.put, List.setIfInBounds_toArray, List.set_cons_zero, List.set_cons_succ]
        refine wpAnyH_take (i := 3) (oi := { dst := some 86, op := Op.fieldAddr 23 (Operand.tmp 4) 1, type := 0, pos := "law.go:233", after := #[], guard := none }) (v := ?_) rfl (by kernel_rfl) (by kernel_rfl) (by kernel_rfl) (fun _ _ _ h => h) (Or.inl ⟨by rfl, ?_⟩) (by assumption) ?_
        rotate_left
        · (intro wS hSw; (try dsimp only at hSw); go_simp; (try with_reducible rfl))
        try simp only [Act.put, List.setIfInBounds_toArray, List.set_cons_zero, List.set_cons_succ]
        refine wpAnyH_take (i := 4) (oi := { dst := some 87, op := Op.load 3 (Operand.tmp 86), type := 3, pos := "law.go:233", after := #[{ on := 3, ground := Ground.data }], guard := none }) (v := ?_) rfl (by kernel_rfl) (by kernel_rfl) (by kernel_rfl) (fun _ _ _ h => h) (Or.inl ⟨by rfl, ?_⟩) (by assumption) ?_
        rotate_left
        · (intro wS hSw; (try dsimp only at hSw); go_simp; (try with_reducible rfl))
        try simp only [Act.put, List.setIfInBounds_toArray, List.set_cons_zero, List.set_cons_succ]
        refine wpAnyH_take (i := 5) (oi := { dst := some 88, op := Op.binOp BinOp.sub 3 (Operand.tmp 87) (Operand.const (Value.int IntKind.i64 1)) 3, type := 3, pos := "law.go:233", after := #[{ on := 4, ground := Ground.data }], guard := none }) (v := ?_) rfl (by kernel_rfl) (by kernel_rfl) (by kernel_rfl) (fun _ _ _ h => h) (Or.inl ⟨by rfl, ?_⟩) (by assumption) ?_
        rotate_left
        · (intro wS hSw; (try dsimp only at hSw); go_simp; (try with_reducible rfl))
        try simp only [Act.put, List.setIfInBounds_toArray, List.set_cons_zero, List.set_cons_succ]
        refine wpAnyH_take (i := 6) (oi := { dst := some 89, op := Op.call { callee := Callee.builtin Builtin.min, args := #[Operand.tmp 85, Operand.tmp 88], argTypes := #[3, 3] }, type := 3, pos := "law.go:233", after := #[{ on := 2, ground := Ground.data }, { on := 5, ground := Ground.data }], guard := none }) (v := ?_) rfl (by kernel_rfl) (by kernel_rfl) (by kernel_rfl) (fun _ _ _ h => h) (Or.inl ⟨by rfl, ?_⟩) (by assumption) ?_
        rotate_left
        · (intro wS hSw; (try dsimp only at hSw); go_simp; (try with_reducible rfl))
        try simp only [Act.put, List.setIfInBounds_toArray, List.set_cons_zero, List.set_cons_succ]
        refine wpAnyH_take (i := 7) (oi := { dst := some 90, op := Op.build 33 #[(0, Operand.tmp 84), (1, Operand.tmp 89)], type := 33, pos := "law.go:233", after := #[{ on := 1, ground := Ground.data }, { on := 6, ground := Ground.data }], guard := none }) (v := ?_) rfl (by kernel_rfl) (by kernel_rfl) (by kernel_rfl) (fun _ _ _ h => h) (Or.inl ⟨by rfl, ?_⟩) (by assumption) ?_
        rotate_left
        · (intro wS hSw; (try dsimp only at hSw); go_simp; (try with_reducible rfl))
        try simp only [Act.put, List.setIfInBounds_toArray, List.set_cons_zero, List.set_cons_succ]
        refine wpAnyH_take (i := 8) (oi := { dst := some 91, op := Op.move (Operand.tmp 3), type := 5, pos := "law.go:233", after := #[], guard := none }) (v := ?_) rfl (by kernel_rfl) (by kernel_rfl) (by kernel_rfl) (fun _ _ _ h => h) (Or.inl ⟨by rfl, ?_⟩) (by assumption) ?_
        rotate_left
        · (intro wS hSw; (try dsimp only at hSw); go_simp; (try with_reducible rfl))
        try simp only [Act.put, List.setIfInBounds_toArray, List.set_cons_zero, List.set_cons_succ]
        refine wpAnyH_take (i := 9) (oi := { dst := some 92, op := Op.move (Operand.tmp 10), type := 3, pos := "law.go:233", after := #[], guard := none }) (v := ?_) rfl (by kernel_rfl) (by kernel_rfl) (by kernel_rfl) (fun _ _ _ h => h) (Or.inl ⟨by rfl, ?_⟩) (by assumption) ?_
        rotate_left
        · (intro wS hSw; (try dsimp only at hSw); go_simp; (try with_reducible rfl))
        try simp only [Act.put, List.setIfInBounds_toArray, List.set_cons_zero, List.set_cons_succ]
        refine wpAnyH_ready (rs := [10]) (by kernel_rfl) (by simp) ?_
        refine AllReadyH.cons (o := { dst := some 93, op := Op.call { callee := Callee.value (Operand.func 18), args := #[Operand.tmp 91, Operand.tmp 92], argTypes := #[5, 3] }, type := 48, pos := "law.go:233", after := #[{ on := 8, ground := Ground.data }, { on := 9, ground := Ground.data }], guard := none }) rfl (fun K hK => ?_) AllReadyH.nil
        go_simp
        (go_at_call 18; ((with_reducible refine (bytesZ _ n RW _ (by omega) (by omega) (by omega) (by omega)).mono ?_); rintro e' wN ⟨⟨gB, rfl, hRgB, hggB⟩, hb⟩; have hngB : ¬ chB m gx gb gB := (by have := hC.lt; unfold chB; omega); clear hggB; replace hC := hC.below hb; replace HT := HT.then hb; clear hb; clear GR HY; have GR := HT.blk G1 hnb; have HY := cells5 GR))
        go_wp2_with fail
        refine hK.out _ _ ?_ (fun hNew => ?_)
        · (first | exact HY.2.1 | assumption)
        clear hK K hHeld
        have hHeld := hNew
        clear hNew
        try simp only [Act.put, List.setIfInBounds_toArray, List.set_cons_zero, List.set_cons_succ]
        refine wpAnyH_ready (rs := [11]) (by kernel_rfl) (by simp) ?_
        refine AllReadyH.cons (o := { dst := some 94, op := Op.call { callee := Callee.value (Operand.func 17), args := #[Operand.tmp 83, Operand.tmp 90, Operand.tmp 93], argTypes := #[27, 33, 48] }, type := 46, pos := "law.go:233", after := #[{ on := 0, ground := Ground.data }, { on := 7, ground := Ground.data }, { on := 10, ground := Ground.data }, { on := 10, ground := Ground.chain }], guard := none }) rfl (fun K hK => ?_) AllReadyH.nil
        go_simp
        (go_at_call 17; ((with_reducible refine (progF_go _ _ _ _ _ _ _ _ _ _ _ _ k LL RW gB _ (bytesL n RW) _ _ (by omega) (by omega) _ S3 hC HL.out.go (by omega) hk (by omega) HRW (by rw [fOne a k AN S3 hk HL.out.did]; exact decide_eq_true (by omega)) hRgB hngB (bytesL_len n RW)).mono ?_); rintro e' wN ⟨rfl, hC1, hT⟩; clear hC; have hC := hC1; clear hC1; replace HL : Hid (Lives ({ S3 with ops := S3.ops + 1 } : ChS) b c k n AN p _) := Lib.hid HL.out.tick; replace HW0 : Hid (({ S3 with ops := S3.ops + 1 } : ChS).k (k : Int) 1 = WR) := Lib.hid HW0.out; replace HT := HT.trans hT; clear hT; clear GR HY; have GR := HT.blk G1 hnb; have HY := cells5 GR))
        go_wp2_with fail
        refine hK.out _ _ ?_ (fun hNew => ?_)
        · (first | exact HY.2.1 | assumption)
        clear hK K hHeld
        have hHeld := hNew
        clear hNew
        try simp only [Act.put, List.setIfInBounds_toArray, List.set_cons_zero, List.set_cons_succ]
        refine wpAnyH_take (i := 12) (oi := { dst := some 17, op := Op.assign (Operand.tmp 94), type := 46, pos := "law.go:233", after := #[{ on := 11, ground := Ground.data }, { on := 11, ground := Ground.chain }, { on := 0, ground := Ground.phase }, { on := 1, ground := Ground.phase }, { on := 2, ground := Ground.phase }, { on := 3, ground := Ground.phase }, { on := 4, ground := Ground.phase }, { on := 5, ground := Ground.phase }, { on := 6, ground := Ground.phase }, { on := 7, ground := Ground.phase }, { on := 8, ground := Ground.phase }, { on := 9, ground := Ground.phase }, { on := 10, ground := Ground.phase }, { on := 11, ground := Ground.phase }], guard := none }) (v := ?_) rfl (by kernel_rfl) (by kernel_rfl) (by kernel_rfl) (fun _ _ _ h => h) (Or.inl ⟨by rfl, ?_⟩) (by assumption) ?_
        rotate_left
        · (intro wS hSw; (try dsimp only at hSw); go_simp; (try with_reducible rfl))
        try simp only [Act.put, List.setIfInBounds_toArray, List.set_cons_zero, List.set_cons_succ]
        refine wpAnyH_done (by kernel_rfl) ?_ _
        refine NoPanic.normal ?_
        go_upto_region 25 with fail
        obtain ⟨S4, hS4⟩ : ∃ S4 : ChS, S4 = { S3 with ops := S3.ops + 1 } := ⟨_, rfl⟩
        rw [← hS4] at hC HL HW0
        clear hS4
        go_upto_region 26 with (first
          | (go_at_call 19; ((with_reducible refine (readI _ _ _ _ _ _ _ _ _ _ _ _ k 0 N0 RW _ _ _ (by omega) (by omega) hk (by omega) _ S4 hC HL.out.go (by omega) HRW HN0).mono ?_); rintro e' wN ⟨⟨g9, c9, rfl, hR9, hg9⟩, hC1, -, hT⟩; clear hC hg9; have hC := hC1; clear hC1; replace HL : Hid (Lives ({ S4 with ops := S4.ops + 1 } : ChS) b c k n AN p _) := Lib.hid HL.out.tick; replace HW0 : Hid (({ S4 with ops := S4.ops + 1 } : ChS).k (k : Int) 1 = WR) := Lib.hid HW0.out; replace HT := HT.trans hT; clear hT; clear GR HY; have GR := HT.blk G1 hnb; have HY := cells5 GR)))
        obtain ⟨S5, hS5⟩ : ∃ S5 : ChS, S5 = { S4 with ops := S4.ops + 1 } := ⟨_, rfl⟩
        rw [← hS5] at hC HL HW0
        have HPG : Hid (0 < p → S4.pageOf N0 RW = bytesL n RW) := Lib.hid (fun h => by
          have := HL.out.pg h N0 RW HRW.out (by have := HN0.out; omega)
          rw [hS5] at this
          exact this)
        clear hS5
        by_cases hp0 : p = 0
        · first
          | (exfalso; omega)
          | (have hpz : ((p : Int) == 0) = true := by simp [hp0]
             have hpz2 : (p : Int) = 0 := by omega
             go_wp2_with (first
               | (go_at_call 29; ((with_reducible refine (failed_z _ _ _ _ _ _ _ _ _ _ _ _ _ true _ S5 hC (by rw [fOne a k AN S5 hk HL.out.did]; exact decide_eq_true (by omega))).mono ?_); rintro e' wN ⟨rfl, hb⟩; (try replace hR9 := hR9.below hb); replace hC := hC.below hb; replace HT := HT.then hb; clear hb; clear GR HY; have GR := HT.blk G1 hnb; have HY := cells5 GR))
               | (go_at_call 30; ((with_reducible refine (bad_z _ _ _ _ _ _ _ _ _ _ _ _ _ false _ S5 hC (bOne k AN)).mono ?_); rintro e' wN ⟨rfl, hb⟩; (try replace hR9 := hR9.below hb); replace hC := hC.below hb; replace HT := HT.then hb; clear hb; clear GR HY; have GR := HT.blk G1 hnb; have HY := cells5 GR))
               | (go_at_call 23; ((with_reducible refine (wearF_z _ _ _ _ _ _ _ _ _ _ _ _ k WR _ S5 hC hk HW0.out).mono ?_); rintro e' wN ⟨rfl, rfl⟩; skip))
               | (go_at_call 21; ((with_reducible refine (usedF_z _ _ _ _ _ _ _ _ _ _ _ _ k (p : Int) _ S5 hC hk HL.out.used).mono ?_); rintro e' wN ⟨rfl, rfl⟩; skip))
               | (go_at_call 22; ((with_reducible refine (eraseI _ _ _ _ _ _ _ _ _ _ _ _ j _ _ (by omega) hj _ S5 hC HL.out.go (by omega) (by omega) (fOther a k AN S5 j hjk)).mono ?_); rintro e' wN ⟨rfl, -, hT⟩; replace HT := HT.trans hT; clear hT))
               | (go_at_call 10; ((with_reducible refine (awake_any _).mono ?_); rintro e' wN ⟨rfl, hb⟩; replace HT := HT.then hb)))
             go_ret
             exact ⟨rfl, HB0.trans (HT.below HB0.size (fun g hg => by unfold chB at hg; omega))⟩)
        · have hpz : ((p : Int) == 0) = false := by simp; omega
          rw [HPG.out (by omega)] at hR9
          go_wp2_with (first
            | (go_at_call 29; ((with_reducible refine (failed_z _ _ _ _ _ _ _ _ _ _ _ _ _ true _ S5 hC (by rw [fOne a k AN S5 hk HL.out.did]; exact decide_eq_true (by omega))).mono ?_); rintro e' wN ⟨rfl, hb⟩; (try replace hR9 := hR9.below hb); replace hC := hC.below hb; replace HT := HT.then hb; clear hb; clear GR HY; have GR := HT.blk G1 hnb; have HY := cells5 GR))
            | (go_at_call 30; ((with_reducible refine (bad_z _ _ _ _ _ _ _ _ _ _ _ _ _ false _ S5 hC (bOne k AN)).mono ?_); rintro e' wN ⟨rfl, hb⟩; (try replace hR9 := hR9.below hb); replace hC := hC.below hb; replace HT := HT.then hb; clear hb; clear GR HY; have GR := HT.blk G1 hnb; have HY := cells5 GR))
            | (go_at_call 18; ((with_reducible refine (bytesZ _ n RW _ (by omega) (by omega) (by omega) (by omega)).mono ?_); rintro e' wN ⟨⟨gC, rfl, hRC, -⟩, hb⟩; replace hR9 := hR9.below hb; replace hC := hC.below hb; replace HT := HT.then hb; clear hb; clear GR HY; have GR := HT.blk G1 hnb; have HY := cells5 GR))
            | (go_at_call 20; ((with_reducible refine (sameB_row (bytesL n RW) RW g9 _ gC _ hR9 hRC (bytesL_len _ RW) (by omega)).mono ?_); rintro e' wN ⟨rfl, hb⟩; replace hC := hC.below hb; replace HT := HT.then hb; clear hb; clear GR HY; have GR := HT.blk G1 hnb; have HY := cells5 GR))
            | (go_at_call 23; ((with_reducible refine (wearF_z _ _ _ _ _ _ _ _ _ _ _ _ k WR _ S5 hC hk HW0.out).mono ?_); rintro e' wN ⟨rfl, rfl⟩; skip))
            | (go_at_call 21; ((with_reducible refine (usedF_z _ _ _ _ _ _ _ _ _ _ _ _ k (p : Int) _ S5 hC hk HL.out.used).mono ?_); rintro e' wN ⟨rfl, rfl⟩; skip))
            | (go_at_call 22; ((with_reducible refine (eraseI _ _ _ _ _ _ _ _ _ _ _ _ j _ _ (by omega) hj _ S5 hC HL.out.go (by omega) (by omega) (fOther a k AN S5 j hjk)).mono ?_); rintro e' wN ⟨rfl, -, hT⟩; replace HT := HT.trans hT; clear hT))
            | (go_at_call 10; ((with_reducible refine (awake_any _).mono ?_); rintro e' wN ⟨rfl, hb⟩; replace HT := HT.then hb)))
          go_ret
          exact ⟨rfl, HB0.trans (HT.below HB0.size (fun g hg => by unfold chB at hg; omega))⟩
end Go.Proofs.Ytplniojeaodjiaa
