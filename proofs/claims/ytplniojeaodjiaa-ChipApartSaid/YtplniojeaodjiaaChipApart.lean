/- ChipApart: the walk. -/
import Derived.Test.YtplniojeaodjiaaChY
import Derived.Test.YtplniojeaodjiaaChipFaults
import Derived.Test.YtplniojeaodjiaaFlatV
namespace Go.Proofs.Ytplniojeaodjiaa
open Go.ChangeShapes Go.WideShapes Go.ChangeAt Go.RowKit
set_option linter.unusedSimpArgs false
set_option linter.unusedVariables false

/-- The block while its pages are programmed. -/
structure Fills (s : ChS) (b c : Int) (k n i : Nat) : Prop where
  on : s.on = true
  armed : s.armed = false
  bnd : s.Bnd (3 * (i : Int))
  cby : s.cby = 0
  fill : s.fill = 0
  k0 : s.k (k : Int) 0 = (i : Int)
  k1 : s.k (k : Int) 1 = 0
  pg : ∀ l RW N : Nat, (RW : Int) = c + 16 → (l : Int) < b → (N : Int) = (k : Int) * b + (l : Int) → s.pageOf N RW = if l < i then bytesL ((n + l) % 256) RW else List.replicate RW 255
theorem Fills.go {s : ChS} {b c : Int} {k n i : Nat} (h : Fills s b c k n i) : Go s (3 * (i : Int)) := ⟨h.on, unarmed h.armed, h.bnd⟩
theorem Fills.more {s S : ChS} {b c : Int} {k n i N0 RW0 : Nat} (h : Fills s b c k n i) (ht : Tickd s S) (hq : Progd s S (3 * (i : Int)) k N0 RW0 (bytesL ((n + i) % 256) RW0)) (hr : (RW0 : Int) = c + 16) (hN : (N0 : Int) = (k : Int) * b + (i : Int)) : Fills S b c k n (i + 1) := by
  refine ⟨by rw [ht.on]; exact h.on, by rw [ht.armed]; exact h.armed, bnd_mono hq.bnd (by omega), by rw [ht.cby]; exact h.cby, by rw [ht.fill]; exact h.fill, by rw [hq.k0, h.k0]; omega, by rw [hq.k1]; exact h.k1, fun l RW N q1 q2 q3 => ?_⟩
  obtain rfl : RW = RW0 := by omega
  by_cases hl : l = i
  · subst hl
    obtain rfl : N = N0 := by omega
    rw [hq.pg, if_pos (by omega)]
  · rw [hq.po N (by omega), h.pg l RW N q1 q2 q3]
    by_cases h2 : l < i
    · rw [if_pos h2, if_pos (by omega)]
    · rw [if_neg h2, if_neg (by omega)]
/-- The block as it stands. -/
structure Kp (s : ChS) (b c : Int) (k n : Nat) (B : Int) : Prop where
  fine : Fine s B
  k0 : s.k (k : Int) 0 = b - 1
  k1 : s.k (k : Int) 1 = 0
  pg : ∀ l RW N : Nat, (RW : Int) = c + 16 → (l : Int) < b → (N : Int) = (k : Int) * b + (l : Int) → s.pageOf N RW = if (l : Int) + 1 < b then bytesL ((n + l) % 256) RW else List.replicate RW 255
theorem Kp.first {s : ChS} {b c : Int} {k n i : Nat} (h : Fills s b c k n i) (hi : (i : Int) = b - 1) (hb : b ≤ 8) : Kp s b c k n 40 := by
  refine ⟨⟨bnd_mono h.bnd (by omega), by rw [h.cby]; omega, by rw [h.fill]; omega⟩, by rw [h.k0]; exact hi, h.k1, fun l RW N q1 q2 q3 => ?_⟩
  rw [h.pg l RW N q1 q2 q3]
  by_cases h2 : l < i
  · rw [if_pos h2, if_pos (by omega)]
  · rw [if_neg h2, if_neg (by omega)]
theorem Kp.of {s S : ChS} {b c : Int} {k n : Nat} {B B' : Int} (h : Kp s b c k n B) (hs : Same s S b c k ∧ Fine S B') : Kp S b c k n B' :=
  ⟨hs.2, (hs.1.kk 0 (by omega)).trans h.k0, (hs.1.kk 1 (by omega)).trans h.k1, fun l RW N q1 q2 q3 => (hs.1.pg l RW N q1 q2 q3).trans (h.pg l RW N q1 q2 q3)⟩
theorem Kp.mono {s : ChS} {b c : Int} {k n : Nat} {B B' : Int} (h : Kp s b c k n B) (hB : B ≤ B') : Kp s b c k n B' := ⟨h.fine.mono hB, h.k0, h.k1, h.pg⟩
/-- The chip behind all: power, a cut far away. -/
structure Late (s : ChS) (b c : Int) (k n : Nat) (B : Int) : Prop where
  kp : Kp s b c k n B
  on : s.on = true
  turn : 1073741824 ≤ s.turn
theorem Late.go {s : ChS} {b c : Int} {k n : Nat} {B : Int} (h : Late s b c k n B) (hB : B ≤ 1000000) : Go s B :=
  ⟨h.on, by unfold ChS.cutB; rw [decide_eq_false (by have := h.turn; have := h.kp.fine.bnd.o1; omega)]; simp, h.kp.fine.bnd⟩
theorem Late.tick {s : ChS} {b c : Int} {k n : Nat} {B : Int} (h : Late s b c k n B) (hB : B ≤ 1000000) : Late { s with ops := s.ops + 1 } b c k n (B + 1) := by
  have q := tick_bnd h.kp.fine.bnd
  rw [tick_nc (h.go hB).nc] at q
  exact ⟨⟨⟨q, h.kp.fine.cby, h.kp.fine.fill⟩, h.kp.k0, h.kp.k1, h.kp.pg⟩, h.on, h.turn⟩
theorem boot_late (m gx gb : Nat) (a b c d e : Int) (k n : Nat) (B : Int) (w : World) (s : ChS) (hC : ChipW w m gx gb none 0 0 a b c d e [] s) (h : Kp s b c k n B) (ho : s.on = false) : Calls Try.prog 27 #[.pointer (some ⟨m, 0, none⟩)] w fun e' w' => e' = .returned (.int .i64 0) ∧ (∃ S, ChipW w' m gx gb none 0 0 a b c d e [] S ∧ Hid (Kp S b c k n B ∧ S.on = true)) ∧ Tch (chB m gx gb) w w' := by
  refine (boot_any m gx gb none 0 0 a b c d e [] w s hC).mono ?_
  rintro e' w' ⟨rfl, hC', hT⟩
  have h1 : s.bootC = 0 := by simp [ChS.bootC, ho]
  rw [h1]
  exact ⟨rfl, ⟨_, hC', Lib.hid ⟨h.of (boot_same s b c h.fine k), by simp [ChS.boot, ho]⟩⟩, hT⟩
theorem arm_late (m gx gb : Nat) (a b c d e : Int) (k n : Nat) (B : Int) (w : World) (s : ChS) (hC : ChipW w m gx gb none 0 0 a b c d e [] s) (h : Kp s b c k n B) (ho : s.on = true) (hB : B ≤ 1000000) : Calls Try.prog 24 #[.pointer (some ⟨m, 0, none⟩), .agg #[.int .i64 1073741824, .int .i64 0, .int .u8 0]] w fun e' w' => e' = .returned (.int .i64 0) ∧ (∃ S, ChipW w' m gx gb none 0 0 a b c d e [] S ∧ Hid (Late S b c k n B)) ∧ Tch (chB m gx gb) w w' := by
  refine (arm_yes m gx gb none 0 0 a b c d e [] 1073741824 0 0 B w s hC h.fine.bnd (by omega) ho (by omega) (by omega) (by omega) (by omega)).mono ?_
  rintro e' w' ⟨rfl, hC', hT⟩
  obtain ⟨o0, o1, c0, c1, k0, k1⟩ := h.fine.bnd
  exact ⟨rfl, ⟨_, hC', Lib.hid ⟨⟨⟨⟨o0, o1, c0, c1, k0, k1⟩, Int.le_refl _, Nat.zero_lt_succ _⟩, h.k0, h.k1, h.pg⟩, ho, by dsimp only; omega⟩⟩, hT⟩
theorem prog_QQ (m gx gb : Nat) (Af : Option Addr) (nf cf : Nat) (a b c d e : Int) (fs : List Flt) (x y : Int) (bs : List Nat) (Q gA : Nat) (n : Int) (w : World) (s : ChS) (hC : ChipW w m gx gb Af nf cf a b c d e fs s) (hs : Fine s n) (hn : n ≤ 900000000) (hQ : bs.length = Q) (hR : RowT w gA 5 (bs.map byteV)) (hgn : ¬ chB m gx gb gA) :
    Calls Try.prog 17 #[.pointer (some ⟨m, 0, none⟩), .agg #[.int .i64 x, .int .i64 y], .slice (some ⟨gA, 0, none⟩) Q Q] w fun e' w' => e' = .returned (.int .i64 (s.progZ a b c fs x y bs.length)) ∧ ChipW w' m gx gb Af nf cf a b c d e fs (s.progS a b c fs x y bs) ∧ Tch (chB m gx gb) w w' := by
  subst hQ
  exact prog_all m gx gb Af nf cf a b c d e fs x y bs gA n w s hC hs hn hR hgn
theorem act_cells {e : List Value} (h : Flat [some .i64, some .i64, some .i64, some .u8, some .i64, some .i64, some .i64, some .u8] e) : ∃ (dd px py : Int) (nn : Nat) (ln co cb : Int) (cf : Nat), e = [.int .i64 dd, .int .i64 px, .int .i64 py, .int .u8 (nn : Int), .int .i64 ln, .int .i64 co, .int .i64 cb, .int .u8 (cf : Int)] ∧ nn < 256 ∧ i64in ln ∧ cf < 256 := by
  obtain ⟨x0, r0, rfl, h0, h⟩ := h.int
  obtain ⟨x1, r1, rfl, h1, h⟩ := h.int
  obtain ⟨x2, r2, rfl, h2, h⟩ := h.int
  obtain ⟨x3, r3, rfl, h3, h⟩ := h.int
  obtain ⟨x4, r4, rfl, h4, h⟩ := h.int
  obtain ⟨x5, r5, rfl, h5, h⟩ := h.int
  obtain ⟨x6, r6, rfl, h6, h⟩ := h.int
  obtain ⟨x7, r7, rfl, h7, h⟩ := h.int
  obtain rfl := h.nil
  have e1 : IntKind.u8.min = 0 := rfl
  have e2 : IntKind.u8.max = 255 := rfl
  simp only [Lit.wf, Bool.and_eq_true, decide_eq_true_eq, e1, e2] at h3 h7
  refine ⟨x0, x1, x2, x3.toNat, x4, x5, x6, x7.toNat, ?_, by omega, i64in_of h4, by omega⟩
  rw [Int.toNat_of_nonneg h3.1, Int.toNat_of_nonneg h7.1]
theorem cells8 {w : World} {g : Nat} {t : TypeId} {u0 u1 u2 u3 u4 u5 u6 u7 : Value} (h : Blk w g t #[u0, u1, u2, u3, u4, u5, u6, u7]) : w.cell? ⟨g, 0, none⟩ = some u0 ∧ w.cell? ⟨g, 1, none⟩ = some u1 ∧ w.cell? ⟨g, 2, none⟩ = some u2 ∧ w.cell? ⟨g, 3, none⟩ = some u3 ∧ w.cell? ⟨g, 4, none⟩ = some u4 ∧ w.cell? ⟨g, 5, none⟩ = some u5 ∧ w.cell? ⟨g, 6, none⟩ = some u6 ∧ w.cell? ⟨g, 7, none⟩ = some u7 := ⟨h.cell_ 0, h.cell_ 1, h.cell_ 2, h.cell_ 3, h.cell_ 4, h.cell_ 5, h.cell_ 6, h.cell_ 7⟩
set_option maxRecDepth 100000 in
set_option maxHeartbeats 8000000 in
theorem capart_walk (a b c d e : Int) (A : Option Addr) (len cap : Nat) (es : List (List Value)) (block : Int) (n : Nat) (w : World) (_ : i64in a ∧ i64in b ∧ i64in c ∧ i64in d ∧ i64in e) (hacts : len = es.length ∧ len ≤ cap ∧ cap ≤ maxLen ∧ SlE 8 w w.heap.size A es ∧ ∀ x ∈ es, Flat [some .i64, some .i64, some .i64, some .u8, some .i64, some .i64, some .i64, some .u8] x) (_ : i64in block) (hf : n < 256) :
    Calls Try.prog 9 #[.agg #[.int .i64 a, .int .i64 b, .int .i64 c, .int .i64 d, .int .i64 e], .slice A len cap, .int .i64 block, .int .u8 (n : Int)] w fun e' w' => e' = .returned (.bool true) ∧ Below w.heap.size w w' := by
  obtain ⟨hlen, hl1, hl2, hsl, hfl⟩ := hacts
  have HLen := Lib.hid hlen
  clear hlen hl1 hl2
  have HB0 : Below w.heap.size w (w.alloc (.cells #[.int .i64 a, .int .i64 b, .int .i64 c, .int .i64 d, .int .i64 e] 23)) := (Below.refl _ _).alloc (Nat.le_refl _) _
  have G1 : Blk (w.alloc (.cells #[.int .i64 a, .int .i64 b, .int .i64 c, .int .i64 d, .int .i64 e] 23)) w.heap.size 23 #[.int .i64 a, .int .i64 b, .int .i64 c, .int .i64 d, .int .i64 e] := Blk.new_ _ _ _
  have HY := cells5 G1
  rcases (by cases hq : mayB a b c d e <;> simp : mayB a b c d e = false ∨ mayB a b c d e = true) with hmm | hmm
  · have HM := Lib.hid hmm
    clear G1 HY hmm
    go_enter Try.func9, Try.ntmps9
    go_wp2_with (first
      | (go_at_call 11; ((with_reducible refine (new0_no _ _ _ _ _ _ HM).mono ?_); rintro e' wN ⟨rfl, hb⟩; replace HB0 := btr HB0 HB0.size hb))
      | (go_at_call 10; ((with_reducible refine (awake_any _).mono ?_); rintro e' wN ⟨rfl, hb⟩; replace HB0 := btr HB0 HB0.size hb)))
    go_ret
    exact ⟨rfl, HB0⟩
  have HM := Lib.hid hmm
  clear hmm
  by_cases h40 : 40 < len
  · have h41 : (40 : Int) < (len : Int) := by omega
    go_enter Try.func9, Try.ntmps9
    go_wp2_with (first
      | (go_at_call 11; ((with_reducible refine (new_goF _ _ _ _ _ _ HM).mono ?_); rintro e' wN ⟨⟨m, gx, gb, S0, rfl, hC, hSt, hK0, hX0, hF0, hm, hgx, hgb⟩, hb⟩; have hl0 := hC.lt; replace HB0 := btr HB0 HB0.size hb; replace G1 := G1.below hb G1.lt; (try clear HY); have HY := cells5 G1))
      | (go_at_call 10; ((with_reducible refine (awake_any _).mono ?_); rintro e' wN ⟨rfl, hb⟩; replace HB0 := btr HB0 HB0.size hb)))
    go_ret
    exact ⟨rfl, HB0⟩
  have h41 : ¬ (40 : Int) < (len : Int) := by omega
  obtain ⟨q1, q2, q3, q4, q5, q6, -⟩ := may_bd HM.out
  obtain ⟨k, hkk⟩ : ∃ k : Nat, lowI block a = (k : Int) := ⟨(lowI block a).toNat, by have := lowI_bd block a (by omega); omega⟩
  have hk : (k : Int) < a := by have := lowI_bd block a (by omega); omega
  obtain ⟨RW, hRW⟩ : ∃ RW : Nat, (RW : Int) = c + 16 := ⟨(c + 16).toNat, by omega⟩
  have HRW := Lib.hid hRW
  have hrw' : c + 16 = (RW : Int) := hRW.symm
  have r1 : 40 ≤ RW := by omega
  have r2 : RW ≤ 80 := by omega
  clear hRW
  go_enter Try.func9, Try.ntmps9
  go_upto_region 6 with (first
    | (go_at_call 16; ((with_reducible refine (low_any _ _ _ (by omega) (by omega)).mono ?_); rintro e' wN ⟨rfl, rfl⟩; skip))
    | (go_at_call 11; ((with_reducible refine (new_goF _ _ _ _ _ _ HM).mono ?_); rintro e' wN ⟨⟨m, gx, gb, S0, rfl, hC, hSt, hK0, hX0, hF0, hm, hgx, hgb⟩, hb⟩; have hl0 := hC.lt; replace HB0 := btr HB0 HB0.size hb; replace G1 := G1.below hb G1.lt; (try clear HY); have HY := cells5 G1)))
  have hl1 : w.heap.size < m ∧ w.heap.size < gx ∧ w.heap.size < gb := by simp at hm hgx hgb; omega
  obtain ⟨w1, hw1⟩ : ∃ V : World, V = wN := ⟨_, rfl⟩
  have HF0 : Hid (Fills S0 b c k n 0) := Lib.hid ⟨hSt.on, hSt.armed, hSt.bnd, hF0.out.1, hF0.out.2, hK0 _ _, hK0 _ _, fun l RW' N h1 h2 h3 => by
    obtain ⟨N', RW2, hnum, hrw, hfit, z1, z2, hN2, hNN⟩ := page_ok hC hk h2
    obtain rfl : RW2 = RW' := by omega
    obtain rfl : N' = N := by omega
    rw [if_neg (by omega)]
    exact page_new hX0 hfit⟩
  rw [← hw1] at HB0 hC G1 HY ⊢
  clear hw1 hb hm hgx hgb hK0 hX0 hSt hF0 hl0
  have hnb : ¬ chB m gx gb w.heap.size := by unfold chB; omega
  have HT : Tch (chB m gx gb) w1 w1 := Tch.refl _
  have GR := G1
  go_wp2_with fail
  go_loopw [11] (fun s11 wr => ∃ (i : Nat) (S : ChS), (i : Int) + 1 ≤ b ∧ s11 = .int .i64 (i : Int) ∧ ChipW wr m gx gb none 0 0 a b c d e [] S ∧ Hid (Fills S b c k n i) ∧ Tch (chB m gx gb) w1 wr) (fun s11 _ => b.toNat - (intOf s11).toNat)
  case atStart => exact ⟨0, S0, by omega, rfl, (by first | exact hC | exact hC.drew), HF0, (by first | exact HT | exact HT.like)⟩
  case round =>
    clear hC HF0 HT GR HY
    obtain ⟨i, S, hi, rfl, hC, HK, HT⟩ := hrel
    have GR := HT.blk G1 hnb
    have HY := cells5 GR
    by_cases hlt : (i : Int) + 1 < b
    · have hib : (i : Int) < b := by omega
      have hi0 : (0 : Int) ≤ (i : Int) := by omega
      have hn0 : (0 : Int) ≤ (n : Int) := by omega
      obtain ⟨N, hN⟩ : ∃ N : Nat, (N : Int) = (k : Int) * b + (i : Int) := ⟨((k : Int) * b + (i : Int)).toNat, by have := Int.mul_nonneg (a := (k : Int)) (b := b) (by omega) (by omega); omega⟩
      have HN := Lib.hid hN
      clear hN
      go_wp2_with (first
        | (go_at_call 18; ((with_reducible refine (bytesZ _ ((n + i) % 256) RW _ (by (try rw [IntKind.wrap_u8, IntKind.wrap_u8]); omega) (by omega) (by omega) (by omega)).mono ?_); rintro e' wN ⟨⟨gA, rfl, hRgA, hgA⟩, hb⟩; have hngA : ¬ chB m gx gb gA := (by have := hC.lt; unfold chB; omega); clear hgA; replace hC := hC.below hb; replace HT := HT.then hb; clear hb; clear GR HY; have GR := HT.blk G1 hnb; have HY := cells5 GR))
        | (go_at_call 17; ((with_reducible refine (progI _ _ _ _ _ _ _ _ _ _ _ _ k i N RW gA _ (bytesL ((n + i) % 256) RW) _ _ (by omega) (by omega) hk hib _ S hC HK.out.go (by omega) HRW HN (failed_none _ _ _) HK.out.k0 hRgA hngA (bytesL_len _ RW)).mono ?_); rintro e' wN ⟨rfl, ⟨S2, hC1, HS2⟩, hT⟩; clear hC; have hC := hC1; clear hC1; replace HT := HT.trans hT; clear hT; clear GR HY; have GR := HT.blk G1 hnb; have HY := cells5 GR)))
      go_roundw
      case rel => exact ⟨i + 1, S2, by omega, by go_num, hC, Lib.hid (HK.out.more HS2.out.1 HS2.out.2.1 HRW.out HN.out), HT⟩
      case measure => simp [intOf]; omega
    · have hKP : Hid (Kp S b c k n 40) := Lib.hid (Kp.first HK.out (by omega) (by omega))
      clear HK
      go_wp2_with fail
      go_loopw [12] (fun s12 wr => ∃ (i : Nat) (S : ChS), i ≤ len ∧ s12 = .int .i64 (i : Int) ∧ ChipW wr m gx gb none 0 0 a b c d e [] S ∧ Hid (Kp S b c k n (40 + 3 * (i : Int))) ∧ Tch (chB m gx gb) w1 wr) (fun s12 _ => len - (intOf s12).toNat)
      case atStart => exact ⟨0, S, by omega, rfl, (by first | exact hC | exact hC.drew), Lib.hid (hKP.out.mono (by omega)), (by first | exact HT | exact HT.like)⟩
      case round =>
        clear hC hKP HT GR HY
        obtain ⟨i, S, hi, rfl, hC, HK, HT⟩ := hrel
        have GR := HT.blk G1 hnb
        have HY := cells5 GR
        have hi0 : (0 : Int) ≤ (i : Int) := by omega
        by_cases hlt : i < len
        · have i1 : (i : Int) < (len : Int) := by omega
          obtain ⟨g, off, rfl, hgl, hcl⟩ := hsl.at_ (by have := HLen.out; omega)
          have hget : es[i]? = some (es[i]'(by have := HLen.out; omega)) := List.getElem?_eq_getElem _
          obtain ⟨dd, px, py, nn, ln, co, cb, cf, he, hnn, hln, hcf⟩ := act_cells (hfl _ (List.getElem_mem (h := by have := HLen.out; omega)) : Flat _ (es[i]'(by have := HLen.out; omega)))
          have hkeep : ∀ o, wr.cell? ⟨g, o, none⟩ = w.cell? ⟨g, o, none⟩ := fun o => World.cell?_of_block (w := w) ((HT.far g (by have := HB0.size; omega) (by unfold chB; omega)).trans (HB0.block g hgl))
          have hc8 := hcl i _ hget
          rw [he] at hc8
          have c0 : wr.cell? ⟨g, off + i * 8, none⟩ = some (.int .i64 dd) := (hkeep _).trans (hc8 0 _ rfl)
          have c1 : wr.cell? ⟨g, off + i * 8 + 1, none⟩ = some (.int .i64 px) := (hkeep _).trans (hc8 1 _ rfl)
          have c2 : wr.cell? ⟨g, off + i * 8 + 2, none⟩ = some (.int .i64 py) := (hkeep _).trans (hc8 2 _ rfl)
          have c3 : wr.cell? ⟨g, off + i * 8 + 3, none⟩ = some (.int .u8 (nn : Int)) := (hkeep _).trans (hc8 3 _ rfl)
          have c4 : wr.cell? ⟨g, off + i * 8 + 4, none⟩ = some (.int .i64 ln) := (hkeep _).trans (hc8 4 _ rfl)
          have c5 : wr.cell? ⟨g, off + i * 8 + 5, none⟩ = some (.int .i64 co) := (hkeep _).trans (hc8 5 _ rfl)
          have c6 : wr.cell? ⟨g, off + i * 8 + 6, none⟩ = some (.int .i64 cb) := (hkeep _).trans (hc8 6 _ rfl)
          have c7 : wr.cell? ⟨g, off + i * 8 + 7, none⟩ = some (.int .u8 (cf : Int)) := (hkeep _).trans (hc8 7 _ rfl)
          clear hcl hc8 hkeep hget he
          go_upto_region 15 with fail
          have hna : ¬ chB m gx gb wr.heap.size := by have := hC.lt; unfold chB; omega
          have GA : Blk (wr.alloc (.cells #[.int .i64 dd, .int .i64 px, .int .i64 py, .int .u8 (nn : Int), .int .i64 ln, .int .i64 co, .int .i64 cb, .int .u8 (cf : Int)] 37)) wr.heap.size 37 #[.int .i64 dd, .int .i64 px, .int .i64 py, .int .u8 (nn : Int), .int .i64 ln, .int .i64 co, .int .i64 cb, .int .u8 (cf : Int)] := Blk.new_ _ _ _
          have HBA : Below wr.heap.size wr (wr.alloc (.cells #[.int .i64 dd, .int .i64 px, .int .i64 py, .int .u8 (nn : Int), .int .i64 ln, .int .i64 co, .int .i64 cb, .int .u8 (cf : Int)] 37)) := (Below.refl _ _).alloc (Nat.le_refl _) _
          replace hC := hC.below HBA
          replace HT := HT.then HBA
          clear HBA c0 c1 c2 c3 c4 c5 c6 c7 GR HY
          have GR := HT.blk G1 hnb
          have HY := cells5 GR
          have HG := cells8 GA
          obtain ⟨wq, hwq⟩ : ∃ V : World, V = (wr.alloc (.cells #[.int .i64 dd, .int .i64 px, .int .i64 py, .int .u8 (nn : Int), .int .i64 ln, .int .i64 co, .int .i64 cb, .int .u8 (cf : Int)] 37)) := ⟨_, rfl⟩
          rw [← hwq] at hC HT GR HY GA HG ⊢
          clear hwq
          by_cases hpk0 : px = (k : Int)
          · subst hpk0
            have hKn := HK.out
            go_wp2_with fail
            go_roundw
            case rel => exact ⟨i + 1, _, by omega, by go_num, (by first | exact hC | exact hC.drew), Lib.hid (hKn.mono (by omega)), (by first | exact HT | exact HT.like)⟩
            case measure => simp [intOf]; omega
          have hpk : px ≠ (k : Int) := hpk0
          have hpe : (px == (k : Int)) = false := by simpa using hpk0
          clear hpk0
          by_cases d1 : dd = 1
          · subst d1
            obtain ⟨QQ, hQQ⟩ : ∃ Q : Nat, (Q : Int) = min (max ln 0) 200 := ⟨(min (max ln 0) 200).toNat, by omega⟩
            go_upto_region 18 with fail
            replace hC := hC.drew
            replace HT : Tch (chB m gx gb) w1 wq.drew := HT.like
            replace GA : Blk wq.drew wr.heap.size _ _ := GA
            refine wp_region_noPanic ?_
            refine wp_region_held_drew (S := (fun w' => w'.cell? ⟨wr.heap.size, 1, none⟩ = some (.int .i64 px) ∧ w'.cell? ⟨wr.heap.size, 2, none⟩ = some (.int .i64 py) ∧ w'.cell? ⟨wr.heap.size, 3, none⟩ = some (.int .u8 (nn : Int)) ∧ w'.cell? ⟨wr.heap.size, 4, none⟩ = some (.int .i64 ln))) (by kernel_rfl) ?_ (fun hHeld => ?_)
            · (first | exact ⟨HG.2.1, HG.2.2.1, HG.2.2.2.1, HG.2.2.2.2.1⟩ | assumption)
            refine wpAnyH_take (i := 0) (oi := { dst := some 72, op := Op.move (Operand.tmp 9), type := 27, pos := "more.go:29", after := #[], guard := none }) (v := ?_) rfl (by kernel_rfl) (by kernel_rfl) (by kernel_rfl) (fun _ _ _ h => h) (Or.inl ⟨by rfl, ?_⟩) (by assumption) ?_
            rotate_left
            · (intro wS hSw; (try dsimp only at hSw); go_simp; (try with_reducible rfl))
            try simp only [Act.put, List.setIfInBounds_toArray, List.set_cons_zero, List.set_cons_succ]
            refine wpAnyH_take (i := 1) (oi := { dst := some 73, op := Op.fieldAddr 37 (Operand.tmp 13) 1, type := 0, pos := "more.go:29", after := #[], guard := none }) (v := ?_) rfl (by kernel_rfl) (by kernel_rfl) (by kernel_rfl) (fun _ _ _ h => h) (Or.inl ⟨by rfl, ?_⟩) (by assumption) ?_
            rotate_left
            · (intro wS hSw; (try dsimp only at hSw); go_simp; (try with_reducible rfl))
            try simp only [Act.put, List.setIfInBounds_toArray, List.set_cons_zero, List.set_cons_succ]
            refine wpAnyH_take (i := 2) (oi := { dst := some 74, op := Op.load 33 (Operand.tmp 73), type := 33, pos := "more.go:29", after := #[{ on := 1, ground := Ground.data }], guard := none }) (v := ?_) rfl (by kernel_rfl) (by kernel_rfl) (by kernel_rfl) (fun _ _ _ h => h) (Or.inl ⟨by rfl, ?_⟩) (by assumption) ?_
            rotate_left
            · (intro wS hSw; (try dsimp only at hSw); go_simp; (try with_reducible rfl))
            try simp only [Act.put, List.setIfInBounds_toArray, List.set_cons_zero, List.set_cons_succ]
            refine wpAnyH_take (i := 3) (oi := { dst := some 75, op := Op.fieldAddr 37 (Operand.tmp 13) 2, type := 0, pos := "more.go:29", after := #[], guard := none }) (v := ?_) rfl (by kernel_rfl) (by kernel_rfl) (by kernel_rfl) (fun _ _ _ h => h) (Or.inl ⟨by rfl, ?_⟩) (by assumption) ?_
            rotate_left
            · (intro wS hSw; (try dsimp only at hSw); go_simp; (try with_reducible rfl))
            try simp only [Act.put, List.setIfInBounds_toArray, List.set_cons_zero, List.set_cons_succ]
            refine wpAnyH_take (i := 4) (oi := { dst := some 76, op := Op.load 5 (Operand.tmp 75), type := 5, pos := "more.go:29", after := #[{ on := 3, ground := Ground.data }], guard := none }) (v := ?_) rfl (by kernel_rfl) (by kernel_rfl) (by kernel_rfl) (fun _ _ _ h => h) (Or.inl ⟨by rfl, ?_⟩) (by assumption) ?_
            rotate_left
            · (intro wS hSw; (try dsimp only at hSw); go_simp; (try with_reducible rfl))
            try simp only [Act.put, List.setIfInBounds_toArray, List.set_cons_zero, List.set_cons_succ]
            refine wpAnyH_take (i := 5) (oi := { dst := some 77, op := Op.fieldAddr 37 (Operand.tmp 13) 3, type := 0, pos := "more.go:29", after := #[], guard := none }) (v := ?_) rfl (by kernel_rfl) (by kernel_rfl) (by kernel_rfl) (fun _ _ _ h => h) (Or.inl ⟨by rfl, ?_⟩) (by assumption) ?_
            rotate_left
            · (intro wS hSw; (try dsimp only at hSw); go_simp; (try with_reducible rfl))
            try simp only [Act.put, List.setIfInBounds_toArray, List.set_cons_zero, List.set_cons_succ]
            refine wpAnyH_take (i := 6) (oi := { dst := some 78, op := Op.load 3 (Operand.tmp 77), type := 3, pos := "more.go:29", after := #[{ on := 5, ground := Ground.data }], guard := none }) (v := ?_) rfl (by kernel_rfl) (by kernel_rfl) (by kernel_rfl) (fun _ _ _ h => h) (Or.inl ⟨by rfl, ?_⟩) (by assumption) ?_
            rotate_left
            · (intro wS hSw; (try dsimp only at hSw); go_simp; (try with_reducible rfl))
            try simp only [Act.put, List.setIfInBounds_toArray, List.set_cons_zero, List.set_cons_succ]
            refine wpAnyH_ready (rs := [7]) (by kernel_rfl) (by simp) ?_
            refine AllReadyH.cons (o := { dst := some 79, op := Op.call { callee := Callee.value (Operand.func 18), args := #[Operand.tmp 76, Operand.tmp 78], argTypes := #[5, 3] }, type := 48, pos := "more.go:29", after := #[{ on := 4, ground := Ground.data }, { on := 6, ground := Ground.data }], guard := none }) rfl (fun K hK => ?_) AllReadyH.nil
            go_simp
            (go_at_call 18; ((with_reducible refine (bytes_all nn ln QQ _ hnn hln hQQ).mono ?_); rintro e' wN ⟨⟨gA, rfl, hRgA, hgA⟩, hb⟩; have hngA : ¬ chB m gx gb gA := (by have := hC.lt; unfold chB; omega); clear hgA; replace GA := GA.below hb GA.lt; clear HG; have HG := cells8 GA; replace hC := hC.below hb; replace HT := HT.then hb; clear hb; clear GR HY; have GR := HT.blk G1 hnb; have HY := cells5 GR))
            go_wp2_with fail
            refine hK.out _ _ ?_ (fun hNew => ?_)
            · (first | exact ⟨HG.2.1, HG.2.2.1, HG.2.2.2.1, HG.2.2.2.2.1⟩ | assumption)
            clear hK K hHeld
            have hHeld := hNew
            clear hNew
            try simp only [Act.put, List.setIfInBounds_toArray, List.set_cons_zero, List.set_cons_succ]
            refine wpAnyH_ready (rs := [8]) (by kernel_rfl) (by simp) ?_
            refine AllReadyH.cons (o := { dst := some 80, op := Op.call { callee := Callee.value (Operand.func 17), args := #[Operand.tmp 72, Operand.tmp 74, Operand.tmp 79], argTypes := #[27, 33, 48] }, type := 46, pos := "more.go:29", after := #[{ on := 0, ground := Ground.data }, { on := 2, ground := Ground.data }, { on := 7, ground := Ground.data }, { on := 7, ground := Ground.chain }], guard := none }) rfl (fun K hK => ?_) AllReadyH.nil
            go_simp
            (go_at_call 17; ((with_reducible refine (prog_QQ _ _ _ _ _ _ _ _ _ _ _ _ px py (bytesL nn QQ) QQ gA _ _ S hC HK.out.fine (by omega) (bytesL_len nn QQ) hRgA hngA).mono ?_); rintro e' wN ⟨rfl, hC1, hT⟩; have hKn := HK.out.of (prog_same hC HK.out.fine px py (bytesL nn QQ) k hpk); clear hC HK; have hC := hC1; clear hC1; replace GA := hT.blk GA hna; clear HG; have HG := cells8 GA; replace HT := HT.trans hT; clear hT; clear GR HY; have GR := HT.blk G1 hnb; have HY := cells5 GR))
            go_wp2_with fail
            refine hK.out _ _ ?_ (fun hNew => ?_)
            · (first | exact ⟨HG.2.1, HG.2.2.1, HG.2.2.2.1, HG.2.2.2.2.1⟩ | assumption)
            clear hK K hHeld
            have hHeld := hNew
            clear hNew
            try simp only [Act.put, List.setIfInBounds_toArray, List.set_cons_zero, List.set_cons_succ]
            refine wpAnyH_done (by kernel_rfl) ?_ _
            refine NoPanic.normal ?_
            go_wp2_with fail
            go_roundw
            case rel => exact ⟨i + 1, _, by omega, by go_num, (by first | exact hC | exact hC.drew), Lib.hid (hKn.mono (by omega)), (by first | exact HT | exact HT.like)⟩
            case measure => simp [intOf]; omega
          have e1 : (dd == 1) = false := by simpa using d1
          by_cases d2 : dd = 2
          · subst d2
            go_wp2_with (go_at_call 22; ((with_reducible refine (erase_all _ _ _ _ _ _ _ _ _ _ _ _ px _ _ S hC HK.out.fine (by omega)).mono ?_); rintro e' wN ⟨rfl, hC1, hT⟩; have hKn := HK.out.of (erase_same hC HK.out.fine (by omega) px k hpk); clear hC HK; have hC := hC1; clear hC1; replace HT := HT.trans hT; clear hT; clear GR HY; have GR := HT.blk G1 hnb; have HY := cells5 GR))
            go_roundw
            case rel => exact ⟨i + 1, _, by omega, by go_num, (by first | exact hC | exact hC.drew), Lib.hid (hKn.mono (by omega)), (by first | exact HT | exact HT.like)⟩
            case measure => simp [intOf]; omega
          have e2 : (dd == 2) = false := by simpa using d2
          by_cases d3 : dd = 3
          · subst d3
            go_wp2_with (go_at_call 24; ((with_reducible refine (arm_all _ _ _ _ _ _ _ _ _ _ _ _ co cb cf _ _ S hC HK.out.fine (by omega)).mono ?_); rintro e' wN ⟨rfl, hC1, hT⟩; have hKn := (HK.out.of (arm_same S b c HK.out.fine co cb cf k hcf)); clear hC HK; have hC := hC1; clear hC1; replace HT := HT.trans hT; clear hT; clear GR HY; have GR := HT.blk G1 hnb; have HY := cells5 GR))
            go_roundw
            case rel => exact ⟨i + 1, _, by omega, by go_num, (by first | exact hC | exact hC.drew), Lib.hid (hKn.mono (by omega)), (by first | exact HT | exact HT.like)⟩
            case measure => simp [intOf]; omega
          have e3 : (dd == 3) = false := by simpa using d3
          by_cases d4 : dd = 4
          · subst d4
            go_wp2_with (go_at_call 27; ((with_reducible refine (boot_any _ _ _ _ _ _ _ _ _ _ _ _ _ S hC).mono ?_); rintro e' wN ⟨rfl, hC1, hT⟩; have hKn := (HK.out.of (boot_same S b c HK.out.fine k)); clear hC HK; have hC := hC1; clear hC1; replace HT := HT.trans hT; clear hT; clear GR HY; have GR := HT.blk G1 hnb; have HY := cells5 GR))
            go_roundw
            case rel => exact ⟨i + 1, _, by omega, by go_num, (by first | exact hC | exact hC.drew), Lib.hid (hKn.mono (by omega)), (by first | exact HT | exact HT.like)⟩
            case measure => simp [intOf]; omega
          have e4 : (dd == 4) = false := by simpa using d4
          have hKn := HK.out
          go_wp2_with fail
          go_roundw
          case rel => exact ⟨i + 1, _, by omega, by go_num, (by first | exact hC | exact hC.drew), Lib.hid (hKn.mono (by omega)), (by first | exact HT | exact HT.like)⟩
          case measure => simp [intOf]; omega
        · have i1 : ¬ (i : Int) < (len : Int) := by omega
          cases hon : S.on
          · go_wp2_with (first
              | (go_at_call 25; ((with_reducible refine (on_z _ _ _ _ _ _ _ _ false _ S hC hon).mono ?_); rintro e' wN ⟨rfl, rfl⟩; skip))
              | (go_at_call 27; ((with_reducible refine (boot_late _ _ _ _ _ _ _ _ k n _ _ S hC HK.out hon).mono ?_); rintro e' wN ⟨rfl, ⟨S2, hC1, HB⟩, hT⟩; clear hC; have hC := hC1; clear hC1; replace HT := HT.trans hT; clear hT; clear GR HY; have GR := HT.blk G1 hnb; have HY := cells5 GR))
              | (go_at_call 24; ((with_reducible refine (arm_late _ _ _ _ _ _ _ _ k n _ _ S2 hC HB.out.1 HB.out.2 (by omega)).mono ?_); rintro e' wN ⟨rfl, ⟨S3, hC1, HL⟩, hT⟩; clear hC; have hC := hC1; clear hC1; replace HT := HT.trans hT; clear hT; clear GR HY; have GR := HT.blk G1 hnb; have HY := cells5 GR)))
            obtain ⟨B0, hB0⟩ : ∃ B : Int, B = 40 + 3 * (i : Int) := ⟨_, rfl⟩
            have hB1 : 0 ≤ B0 ∧ B0 ≤ 1000 := by omega
            rw [← hB0] at HL
            go_loopw [14] (fun s14 wr => ∃ (l : Nat) (S : ChS), (l : Int) ≤ b ∧ s14 = .int .i64 (l : Int) ∧ ChipW wr m gx gb none 0 0 a b c d e [] S ∧ Hid (Late S b c k n (B0 + (l : Int))) ∧ Tch (chB m gx gb) w1 wr) (fun s14 _ => b.toNat - (intOf s14).toNat)
            case atStart => exact ⟨0, S3, by omega, rfl, (by first | exact hC | exact hC.drew), Lib.hid (by simpa using HL.out), (by first | exact HT | exact HT.like)⟩
            case round =>
              clear hC HL HT GR HY
              obtain ⟨l, S9, hl, rfl, hC, HL, HT⟩ := hrel
              have GR := HT.blk G1 hnb
              have HY := cells5 GR
              have hl0 : (0 : Int) ≤ (l : Int) := by omega
              have hwl : IntKind.i64.wrap ((l : Int) + 1) = (l : Int) + 1 := wrapS _ (by omega) (by omega)
              by_cases hlb : (l : Int) < b
              · obtain ⟨N, hN⟩ : ∃ N : Nat, (N : Int) = (k : Int) * b + (l : Int) := ⟨((k : Int) * b + (l : Int)).toNat, by have := Int.mul_nonneg (a := (k : Int)) (b := b) (by omega) (by omega); omega⟩
                have hpg := HL.out.kp.pg l RW N HRW.out hlb hN
                have HN := Lib.hid hN
                clear hN
                by_cases hli : (l : Int) + 1 < b
                · rw [if_pos hli] at hpg
                  have HPG := Lib.hid hpg
                  have hle : ((l : Int) + 1 == b) = false := by simp; omega
                  clear hpg
                  go_wp2_with (first
                    | (go_at_call 19; ((with_reducible refine (readI _ _ _ _ _ _ _ _ _ _ _ _ k l N RW _ _ _ (by omega) (by omega) hk hlb _ S9 hC (HL.out.go (by omega)) (by omega) HRW HN).mono ?_); rintro e' wN ⟨⟨g9, c9, rfl, hR9, -⟩, hC1, -, hT⟩; clear hC; have hC := hC1; clear hC1; rw [HPG.out] at hR9; replace HT := HT.trans hT; clear hT; clear GR HY; have GR := HT.blk G1 hnb; have HY := cells5 GR))
                    | (go_at_call 18; ((with_reducible refine (bytesZ _ ((n + l) % 256) RW _ (by (try rw [IntKind.wrap_u8, IntKind.wrap_u8]); omega) (by omega) (by omega) (by omega)).mono ?_); rintro e' wN ⟨⟨gA, rfl, hRA, -⟩, hb⟩; replace hR9 := hR9.below hb; replace hC := hC.below hb; replace HT := HT.then hb; clear hb; clear GR HY; have GR := HT.blk G1 hnb; have HY := cells5 GR))
                    | (go_at_call 20; ((with_reducible refine (sameB_row (bytesL ((n + l) % 256) RW) RW g9 _ gA _ hR9 hRA (bytesL_len _ RW) (by omega)).mono ?_); rintro e' wN ⟨rfl, hb⟩; replace hC := hC.below hb; replace HT := HT.then hb; clear hb; clear GR HY; have GR := HT.blk G1 hnb; have HY := cells5 GR)))
                  go_roundw
                  case rel => exact ⟨l + 1, _, by omega, by go_num, hC, Lib.hid (by have := HL.out.tick (by omega); rw [show B0 + ((l + 1 : Nat) : Int) = B0 + (l : Int) + 1 by omega]; exact this), HT⟩
                  case measure => simp [intOf]; omega
                · rw [if_neg hli] at hpg
                  have HPG := Lib.hid hpg
                  have hle : ((l : Int) + 1 == b) = true := by simp; omega
                  have hle2 : (l : Int) + 1 = b := by omega
                  clear hpg
                  go_wp2_with (first
                    | (go_at_call 19; ((with_reducible refine (readI _ _ _ _ _ _ _ _ _ _ _ _ k l N RW _ _ _ (by omega) (by omega) hk hlb _ S9 hC (HL.out.go (by omega)) (by omega) HRW HN).mono ?_); rintro e' wN ⟨⟨g9, c9, rfl, hR9, -⟩, hC1, -, hT⟩; clear hC; have hC := hC1; clear hC1; have cc0 := rows_at (i := 0) hR9 HPG.out (by omega); replace HT := HT.trans hT; clear hT; clear GR HY; have GR := HT.blk G1 hnb; have HY := cells5 GR)))
                  go_roundw
                  case rel => exact ⟨l + 1, _, by omega, by go_num, hC, Lib.hid (by have := HL.out.tick (by omega); rw [show B0 + ((l + 1 : Nat) : Int) = B0 + (l : Int) + 1 by omega]; exact this), HT⟩
                  case measure => simp [intOf]; omega
              · have hwb1 : IntKind.i64.wrap (b - 1) = b - 1 := wrapS _ (by omega) (by omega)
                go_upto_region 33 with fail
                replace hC := hC.drew
                replace HT : Tch (chB m gx gb) w1 wr.drew := HT.like
                replace GR : Blk wr.drew w.heap.size _ _ := GR
                refine wp_region_noPanic ?_
                refine wp_region_held_drew (S := (fun w' => w'.cell? ⟨w.heap.size, 1, none⟩ = some (.int .i64 b))) (by kernel_rfl) ?_ (fun hHeld => ?_)
                · (first | exact HY.2.1 | assumption)
                refine wpAnyH_take (i := 0) (oi := { dst := some 165, op := Op.move (Operand.tmp 9), type := 27, pos := "more.go:47", after := #[], guard := none }) (v := ?_) rfl (by kernel_rfl) (by kernel_rfl) (by kernel_rfl) (fun _ _ _ h => h) (Or.inl ⟨by rfl, ?_⟩) (by assumption) ?_
                rotate_left
                · (intro wS hSw; (try dsimp only at hSw); go_simp; (try with_reducible rfl))
                try simp only [Act.put, List.setIfInBounds_toArray, List.set_cons_zero, List.set_cons_succ]
                refine wpAnyH_take (i := 1) (oi := { dst := some 166, op := Op.move (Operand.tmp 2), type := 3, pos := "more.go:47", after := #[], guard := none }) (v := ?_) rfl (by kernel_rfl) (by kernel_rfl) (by kernel_rfl) (fun _ _ _ h => h) (Or.inl ⟨by rfl, ?_⟩) (by assumption) ?_
                rotate_left
                · (intro wS hSw; (try dsimp only at hSw); go_simp; (try with_reducible rfl))
                try simp only [Act.put, List.setIfInBounds_toArray, List.set_cons_zero, List.set_cons_succ]
                refine wpAnyH_take (i := 3) (oi := { dst := some 168, op := Op.fieldAddr 23 (Operand.tmp 4) 1, type := 0, pos := "more.go:47", after := #[], guard := none }) (v := ?_) rfl (by kernel_rfl) (by kernel_rfl) (by kernel_rfl) (fun _ _ _ h => h) (Or.inl ⟨by rfl, ?_⟩) (by assumption) ?_
                rotate_left
                · (intro wS hSw; (try dsimp only at hSw); go_simp; (try with_reducible rfl))
                try simp only [Act.put, List.setIfInBounds_toArray, List.set_cons_zero, List.set_cons_succ]
                refine wpAnyH_take (i := 4) (oi := { dst := some 169, op := Op.load 3 (Operand.tmp 168), type := 3, pos := "more.go:47", after := #[{ on := 3, ground := Ground.data }], guard := none }) (v := ?_) rfl (by kernel_rfl) (by kernel_rfl) (by kernel_rfl) (fun _ _ _ h => h) (Or.inl ⟨by rfl, ?_⟩) (by assumption) ?_
                rotate_left
                · (intro wS hSw; (try dsimp only at hSw); go_simp; (try with_reducible rfl))
                try simp only [Act.put, List.setIfInBounds_toArray, List.set_cons_zero, List.set_cons_succ]
                refine wpAnyH_take (i := 5) (oi := { dst := some 170, op := Op.binOp BinOp.sub 3 (Operand.tmp 169) (Operand.const (Value.int IntKind.i64 1)) 3, type := 3, pos := "more.go:47", after := #[{ on := 4, ground := Ground.data }], guard := none }) (v := ?_) rfl (by kernel_rfl) (by kernel_rfl) (by kernel_rfl) (fun _ _ _ h => h) (Or.inl ⟨by rfl, ?_⟩) (by assumption) ?_
                rotate_left
                · (intro wS hSw; (try dsimp only at hSw); go_simp; (try with_reducible rfl))
                try simp only [Act.put, List.setIfInBounds_toArray, List.set_cons_zero, List.set_cons_succ]
                refine wpAnyH_ready (rs := [2]) (by kernel_rfl) (by simp) ?_
                refine AllReadyH.cons (o := { dst := some 167, op := Op.call { callee := Callee.value (Operand.func 21), args := #[Operand.tmp 165, Operand.tmp 166], argTypes := #[27, 3] }, type := 3, pos := "more.go:47", after := #[{ on := 0, ground := Ground.data }, { on := 1, ground := Ground.data }], guard := none }) rfl (fun K hK => ?_) AllReadyH.nil
                go_simp
                (go_at_call 21; ((with_reducible refine (usedF_z _ _ _ _ _ _ _ _ _ _ _ _ k (b - 1) _ S9 hC hk HL.out.kp.k0).mono ?_); rintro e' wN ⟨rfl, rfl⟩; skip))
                go_wp2_with fail
                refine hK.out _ _ ?_ (fun hNew => ?_)
                · (first | exact HY.2.1 | assumption)
                clear hK K hHeld
                have hHeld := hNew
                clear hNew
                try simp only [Act.put, List.setIfInBounds_toArray, List.set_cons_zero, List.set_cons_succ]
                refine wpAnyH_take (i := 6) (oi := { dst := some 171, op := Op.binOp BinOp.eql 3 (Operand.tmp 167) (Operand.tmp 170) 3, type := 4, pos := "more.go:47", after := #[{ on := 2, ground := Ground.data }, { on := 5, ground := Ground.data }], guard := none }) (v := ?_) rfl (by kernel_rfl) (by kernel_rfl) (by kernel_rfl) (fun _ _ _ h => h) (Or.inl ⟨by rfl, ?_⟩) (by assumption) ?_
                rotate_left
                · (intro wS hSw; (try dsimp only at hSw); go_simp; (try with_reducible rfl))
                try simp only [Act.put, List.setIfInBounds_toArray, List.set_cons_zero, List.set_cons_succ]
                refine wpAnyH_take (i := 7) (oi := { dst := some 172, op := Op.move (Operand.tmp 171), type := 4, pos := "more.go:47", after := #[{ on := 6, ground := Ground.data }, { on := 2, ground := Ground.chain }], guard := none }) (v := ?_) rfl (by kernel_rfl) (by kernel_rfl) (by kernel_rfl) (fun _ _ _ h => h) (Or.inl ⟨by rfl, ?_⟩) (by assumption) ?_
                rotate_left
                · (intro wS hSw; (try dsimp only at hSw); go_simp; (try with_reducible rfl))
                try simp only [Act.put, List.setIfInBounds_toArray, List.set_cons_zero, List.set_cons_succ]
                refine wpAnyH_take (i := 8) (oi := { dst := some 173, op := Op.move (Operand.tmp 9), type := 27, pos := "more.go:47", after := #[{ on := 7, ground := Ground.guard }], guard := some (7, true) }) (v := ?_) rfl (by kernel_rfl) (by kernel_rfl) (by kernel_rfl) (fun _ _ _ h => h) (Or.inl ⟨by rfl, ?_⟩) (by assumption) ?_
                rotate_left
                · (intro wS hSw; (try dsimp only at hSw); go_simp; (try with_reducible rfl))
                try simp only [Act.put, List.setIfInBounds_toArray, List.set_cons_zero, List.set_cons_succ]
                refine wpAnyH_take (i := 9) (oi := { dst := some 174, op := Op.move (Operand.tmp 2), type := 3, pos := "more.go:47", after := #[{ on := 7, ground := Ground.guard }], guard := some (7, true) }) (v := ?_) rfl (by kernel_rfl) (by kernel_rfl) (by kernel_rfl) (fun _ _ _ h => h) (Or.inl ⟨by rfl, ?_⟩) (by assumption) ?_
                rotate_left
                · (intro wS hSw; (try dsimp only at hSw); go_simp; (try with_reducible rfl))
                try simp only [Act.put, List.setIfInBounds_toArray, List.set_cons_zero, List.set_cons_succ]
                refine wpAnyH_ready (rs := [10]) (by kernel_rfl) (by simp) ?_
                refine AllReadyH.cons (o := { dst := some 175, op := Op.call { callee := Callee.value (Operand.func 23), args := #[Operand.tmp 173, Operand.tmp 174], argTypes := #[27, 3] }, type := 3, pos := "more.go:47", after := #[{ on := 8, ground := Ground.data }, { on := 9, ground := Ground.data }, { on := 7, ground := Ground.chain }, { on := 7, ground := Ground.guard }], guard := some (7, true) }) rfl (fun K hK => ?_) AllReadyH.nil
                go_simp
                (go_at_call 23; ((with_reducible refine (wearF_z _ _ _ _ _ _ _ _ _ _ _ _ k 0 _ S9 hC hk HL.out.kp.k1).mono ?_); rintro e' wN ⟨rfl, rfl⟩; skip))
                go_wp2_with fail
                refine hK.out _ _ ?_ (fun hNew => ?_)
                · (first | exact HY.2.1 | assumption)
                clear hK K hHeld
                have hHeld := hNew
                clear hNew
                try simp only [Act.put, List.setIfInBounds_toArray, List.set_cons_zero, List.set_cons_succ]
                refine wpAnyH_take (i := 11) (oi := { dst := some 176, op := Op.binOp BinOp.eql 3 (Operand.tmp 175) (Operand.const (Value.int IntKind.i64 0)) 3, type := 4, pos := "more.go:47", after := #[{ on := 10, ground := Ground.data }, { on := 7, ground := Ground.guard }], guard := some (7, true) }) (v := ?_) rfl (by kernel_rfl) (by kernel_rfl) (by kernel_rfl) (fun _ _ _ h => h) (Or.inl ⟨by rfl, ?_⟩) (by assumption) ?_
                rotate_left
                · (intro wS hSw; (try dsimp only at hSw); go_simp; (try with_reducible rfl))
                try simp only [Act.put, List.setIfInBounds_toArray, List.set_cons_zero, List.set_cons_succ]
                refine wpAnyH_take (i := 12) (oi := { dst := some 177, op := Op.pick (Operand.tmp 172) (Operand.tmp 176) (Operand.const (Value.bool false)), type := 4, pos := "more.go:47", after := #[{ on := 7, ground := Ground.data }, { on := 11, ground := Ground.data }], guard := none }) (v := ?_) rfl (by kernel_rfl) (by kernel_rfl) (by kernel_rfl) (fun _ _ _ h => h) (Or.inl ⟨by rfl, ?_⟩) (by assumption) ?_
                rotate_left
                · (intro wS hSw; (try dsimp only at hSw); go_simp; (try with_reducible rfl))
                try simp only [Act.put, List.setIfInBounds_toArray, List.set_cons_zero, List.set_cons_succ]
                refine wpAnyH_take (i := 13) (oi := { dst := some 178, op := Op.move (Operand.tmp 177), type := 4, pos := "more.go:47", after := #[{ on := 12, ground := Ground.data }, { on := 10, ground := Ground.chain }], guard := none }) (v := ?_) rfl (by kernel_rfl) (by kernel_rfl) (by kernel_rfl) (fun _ _ _ h => h) (Or.inl ⟨by rfl, ?_⟩) (by assumption) ?_
                rotate_left
                · (intro wS hSw; (try dsimp only at hSw); go_simp; (try with_reducible rfl))
                try simp only [Act.put, List.setIfInBounds_toArray, List.set_cons_zero, List.set_cons_succ]
                refine wpAnyH_take (i := 14) (oi := { dst := some 179, op := Op.move (Operand.tmp 9), type := 27, pos := "more.go:47", after := #[{ on := 13, ground := Ground.guard }], guard := some (13, true) }) (v := ?_) rfl (by kernel_rfl) (by kernel_rfl) (by kernel_rfl) (fun _ _ _ h => h) (Or.inl ⟨by rfl, ?_⟩) (by assumption) ?_
                rotate_left
                · (intro wS hSw; (try dsimp only at hSw); go_simp; (try with_reducible rfl))
                try simp only [Act.put, List.setIfInBounds_toArray, List.set_cons_zero, List.set_cons_succ]
                refine wpAnyH_take (i := 15) (oi := { dst := some 180, op := Op.move (Operand.tmp 2), type := 3, pos := "more.go:47", after := #[{ on := 13, ground := Ground.guard }], guard := some (13, true) }) (v := ?_) rfl (by kernel_rfl) (by kernel_rfl) (by kernel_rfl) (fun _ _ _ h => h) (Or.inl ⟨by rfl, ?_⟩) (by assumption) ?_
                rotate_left
                · (intro wS hSw; (try dsimp only at hSw); go_simp; (try with_reducible rfl))
                try simp only [Act.put, List.setIfInBounds_toArray, List.set_cons_zero, List.set_cons_succ]
                refine wpAnyH_ready (rs := [16]) (by kernel_rfl) (by simp) ?_
                refine AllReadyH.cons (o := { dst := some 181, op := Op.call { callee := Callee.value (Operand.func 29), args := #[Operand.tmp 179, Operand.tmp 180], argTypes := #[27, 3] }, type := 4, pos := "more.go:47", after := #[{ on := 14, ground := Ground.data }, { on := 15, ground := Ground.data }, { on := 13, ground := Ground.chain }, { on := 13, ground := Ground.guard }], guard := some (13, true) }) rfl (fun K hK => ?_) AllReadyH.nil
                go_simp
                (go_at_call 29; ((with_reducible refine (failed_z _ _ _ _ _ _ _ _ _ _ _ _ _ false _ S9 hC (failed_none _ _ _)).mono ?_); rintro e' wN ⟨rfl, hb⟩; replace hC := hC.below hb; replace HT := HT.then hb; clear hb; clear GR HY; have GR := HT.blk G1 hnb; have HY := cells5 GR))
                go_wp2_with fail
                refine hK.out _ _ ?_ (fun hNew => ?_)
                · (first | exact HY.2.1 | assumption)
                clear hK K hHeld
                have hHeld := hNew
                clear hNew
                try simp only [Act.put, List.setIfInBounds_toArray, List.set_cons_zero, List.set_cons_succ]
                refine wpAnyH_take (i := 17) (oi := { dst := some 182, op := Op.unOp UnOp.not 4 (Operand.tmp 181), type := 4, pos := "more.go:47", after := #[{ on := 16, ground := Ground.data }, { on := 13, ground := Ground.guard }], guard := some (13, true) }) (v := ?_) rfl (by kernel_rfl) (by kernel_rfl) (by kernel_rfl) (fun _ _ _ h => h) (Or.inl ⟨by rfl, ?_⟩) (by assumption) ?_
                rotate_left
                · (intro wS hSw; (try dsimp only at hSw); go_simp; (try with_reducible rfl))
                try simp only [Act.put, List.setIfInBounds_toArray, List.set_cons_zero, List.set_cons_succ]
                refine wpAnyH_take (i := 18) (oi := { dst := some 183, op := Op.pick (Operand.tmp 178) (Operand.tmp 182) (Operand.const (Value.bool false)), type := 4, pos := "more.go:47", after := #[{ on := 13, ground := Ground.data }, { on := 17, ground := Ground.data }], guard := none }) (v := ?_) rfl (by kernel_rfl) (by kernel_rfl) (by kernel_rfl) (fun _ _ _ h => h) (Or.inl ⟨by rfl, ?_⟩) (by assumption) ?_
                rotate_left
                · (intro wS hSw; (try dsimp only at hSw); go_simp; (try with_reducible rfl))
                try simp only [Act.put, List.setIfInBounds_toArray, List.set_cons_zero, List.set_cons_succ]
                refine wpAnyH_take (i := 19) (oi := { dst := some 184, op := Op.move (Operand.tmp 183), type := 4, pos := "more.go:47", after := #[{ on := 18, ground := Ground.data }, { on := 16, ground := Ground.chain }], guard := none }) (v := ?_) rfl (by kernel_rfl) (by kernel_rfl) (by kernel_rfl) (fun _ _ _ h => h) (Or.inl ⟨by rfl, ?_⟩) (by assumption) ?_
                rotate_left
                · (intro wS hSw; (try dsimp only at hSw); go_simp; (try with_reducible rfl))
                try simp only [Act.put, List.setIfInBounds_toArray, List.set_cons_zero, List.set_cons_succ]
                refine wpAnyH_ready (rs := [20]) (by kernel_rfl) (by simp) ?_
                refine AllReadyH.cons (o := { dst := some 185, op := Op.call { callee := Callee.value (Operand.func 10), args := #[], argTypes := #[] }, type := 4, pos := "more.go:47", after := #[{ on := 19, ground := Ground.chain }, { on := 19, ground := Ground.guard }], guard := some (19, true) }) rfl (fun K hK => ?_) AllReadyH.nil
                go_simp
                (go_at_call 10; ((with_reducible refine (awake_any _).mono ?_); rintro e' wN ⟨rfl, hb⟩; replace hC := hC.below hb; replace HT := HT.then hb; clear hb; clear GR HY; have GR := HT.blk G1 hnb; have HY := cells5 GR))
                go_wp2_with fail
                refine hK.out _ _ ?_ (fun hNew => ?_)
                · (first | exact HY.2.1 | assumption)
                clear hK K hHeld
                have hHeld := hNew
                clear hNew
                try simp only [Act.put, List.setIfInBounds_toArray, List.set_cons_zero, List.set_cons_succ]
                refine wpAnyH_take (i := 21) (oi := { dst := some 186, op := Op.pick (Operand.tmp 184) (Operand.tmp 185) (Operand.const (Value.bool false)), type := 4, pos := "more.go:47", after := #[{ on := 19, ground := Ground.data }, { on := 20, ground := Ground.data }], guard := none }) (v := ?_) rfl (by kernel_rfl) (by kernel_rfl) (by kernel_rfl) (fun _ _ _ h => h) (Or.inl ⟨by rfl, ?_⟩) (by assumption) ?_
                rotate_left
                · (intro wS hSw; (try dsimp only at hSw); go_simp; (try with_reducible rfl))
                try simp only [Act.put, List.setIfInBounds_toArray, List.set_cons_zero, List.set_cons_succ]
                refine wpAnyH_take (i := 22) (oi := { dst := some 8, op := Op.assign (Operand.tmp 186), type := 4, pos := "more.go:47", after := #[{ on := 21, ground := Ground.data }, { on := 20, ground := Ground.chain }, { on := 0, ground := Ground.phase }, { on := 1, ground := Ground.phase }, { on := 2, ground := Ground.phase }, { on := 3, ground := Ground.phase }, { on := 4, ground := Ground.phase }, { on := 5, ground := Ground.phase }, { on := 6, ground := Ground.phase }, { on := 7, ground := Ground.phase }, { on := 8, ground := Ground.phase }, { on := 9, ground := Ground.phase }, { on := 10, ground := Ground.phase }, { on := 11, ground := Ground.phase }, { on := 12, ground := Ground.phase }, { on := 13, ground := Ground.phase }, { on := 14, ground := Ground.phase }, { on := 15, ground := Ground.phase }, { on := 16, ground := Ground.phase }, { on := 17, ground := Ground.phase }, { on := 18, ground := Ground.phase }, { on := 19, ground := Ground.phase }, { on := 20, ground := Ground.phase }, { on := 21, ground := Ground.phase }], guard := none }) (v := ?_) rfl (by kernel_rfl) (by kernel_rfl) (by kernel_rfl) (fun _ _ _ h => h) (Or.inl ⟨by rfl, ?_⟩) (by assumption) ?_
                rotate_left
                · (intro wS hSw; (try dsimp only at hSw); go_simp; (try with_reducible rfl))
                try simp only [Act.put, List.setIfInBounds_toArray, List.set_cons_zero, List.set_cons_succ]
                refine wpAnyH_done (by kernel_rfl) ?_ _
                refine NoPanic.normal ?_
                go_wp2_with fail
                go_ret
                exact ⟨rfl, HB0.trans (HT.below HB0.size (fun g hg => by unfold chB at hg; omega))⟩
          · go_wp2_with (first
              | (go_at_call 25; ((with_reducible refine (on_z _ _ _ _ _ _ _ _ true _ S hC hon).mono ?_); rintro e' wN ⟨rfl, rfl⟩; skip))
              | (go_at_call 24; ((with_reducible refine (arm_late _ _ _ _ _ _ _ _ k n _ _ S hC HK.out hon (by omega)).mono ?_); rintro e' wN ⟨rfl, ⟨S3, hC1, HL⟩, hT⟩; clear hC; have hC := hC1; clear hC1; replace HT := HT.trans hT; clear hT; clear GR HY; have GR := HT.blk G1 hnb; have HY := cells5 GR)))
            obtain ⟨B0, hB0⟩ : ∃ B : Int, B = 40 + 3 * (i : Int) := ⟨_, rfl⟩
            have hB1 : 0 ≤ B0 ∧ B0 ≤ 1000 := by omega
            rw [← hB0] at HL
            go_loopw [14] (fun s14 wr => ∃ (l : Nat) (S : ChS), (l : Int) ≤ b ∧ s14 = .int .i64 (l : Int) ∧ ChipW wr m gx gb none 0 0 a b c d e [] S ∧ Hid (Late S b c k n (B0 + (l : Int))) ∧ Tch (chB m gx gb) w1 wr) (fun s14 _ => b.toNat - (intOf s14).toNat)
            case atStart => exact ⟨0, S3, by omega, rfl, (by first | exact hC | exact hC.drew), Lib.hid (by simpa using HL.out), (by first | exact HT | exact HT.like)⟩
            case round =>
              clear hC HL HT GR HY
              obtain ⟨l, S9, hl, rfl, hC, HL, HT⟩ := hrel
              have GR := HT.blk G1 hnb
              have HY := cells5 GR
              have hl0 : (0 : Int) ≤ (l : Int) := by omega
              have hwl : IntKind.i64.wrap ((l : Int) + 1) = (l : Int) + 1 := wrapS _ (by omega) (by omega)
              by_cases hlb : (l : Int) < b
              · obtain ⟨N, hN⟩ : ∃ N : Nat, (N : Int) = (k : Int) * b + (l : Int) := ⟨((k : Int) * b + (l : Int)).toNat, by have := Int.mul_nonneg (a := (k : Int)) (b := b) (by omega) (by omega); omega⟩
                have hpg := HL.out.kp.pg l RW N HRW.out hlb hN
                have HN := Lib.hid hN
                clear hN
                by_cases hli : (l : Int) + 1 < b
                · rw [if_pos hli] at hpg
                  have HPG := Lib.hid hpg
                  have hle : ((l : Int) + 1 == b) = false := by simp; omega
                  clear hpg
                  go_wp2_with (first
                    | (go_at_call 19; ((with_reducible refine (readI _ _ _ _ _ _ _ _ _ _ _ _ k l N RW _ _ _ (by omega) (by omega) hk hlb _ S9 hC (HL.out.go (by omega)) (by omega) HRW HN).mono ?_); rintro e' wN ⟨⟨g9, c9, rfl, hR9, -⟩, hC1, -, hT⟩; clear hC; have hC := hC1; clear hC1; rw [HPG.out] at hR9; replace HT := HT.trans hT; clear hT; clear GR HY; have GR := HT.blk G1 hnb; have HY := cells5 GR))
                    | (go_at_call 18; ((with_reducible refine (bytesZ _ ((n + l) % 256) RW _ (by (try rw [IntKind.wrap_u8, IntKind.wrap_u8]); omega) (by omega) (by omega) (by omega)).mono ?_); rintro e' wN ⟨⟨gA, rfl, hRA, -⟩, hb⟩; replace hR9 := hR9.below hb; replace hC := hC.below hb; replace HT := HT.then hb; clear hb; clear GR HY; have GR := HT.blk G1 hnb; have HY := cells5 GR))
                    | (go_at_call 20; ((with_reducible refine (sameB_row (bytesL ((n + l) % 256) RW) RW g9 _ gA _ hR9 hRA (bytesL_len _ RW) (by omega)).mono ?_); rintro e' wN ⟨rfl, hb⟩; replace hC := hC.below hb; replace HT := HT.then hb; clear hb; clear GR HY; have GR := HT.blk G1 hnb; have HY := cells5 GR)))
                  go_roundw
                  case rel => exact ⟨l + 1, _, by omega, by go_num, hC, Lib.hid (by have := HL.out.tick (by omega); rw [show B0 + ((l + 1 : Nat) : Int) = B0 + (l : Int) + 1 by omega]; exact this), HT⟩
                  case measure => simp [intOf]; omega
                · rw [if_neg hli] at hpg
                  have HPG := Lib.hid hpg
                  have hle : ((l : Int) + 1 == b) = true := by simp; omega
                  have hle2 : (l : Int) + 1 = b := by omega
                  clear hpg
                  go_wp2_with (first
                    | (go_at_call 19; ((with_reducible refine (readI _ _ _ _ _ _ _ _ _ _ _ _ k l N RW _ _ _ (by omega) (by omega) hk hlb _ S9 hC (HL.out.go (by omega)) (by omega) HRW HN).mono ?_); rintro e' wN ⟨⟨g9, c9, rfl, hR9, -⟩, hC1, -, hT⟩; clear hC; have hC := hC1; clear hC1; have cc0 := rows_at (i := 0) hR9 HPG.out (by omega); replace HT := HT.trans hT; clear hT; clear GR HY; have GR := HT.blk G1 hnb; have HY := cells5 GR)))
                  go_roundw
                  case rel => exact ⟨l + 1, _, by omega, by go_num, hC, Lib.hid (by have := HL.out.tick (by omega); rw [show B0 + ((l + 1 : Nat) : Int) = B0 + (l : Int) + 1 by omega]; exact this), HT⟩
                  case measure => simp [intOf]; omega
              · have hwb1 : IntKind.i64.wrap (b - 1) = b - 1 := wrapS _ (by omega) (by omega)
                go_upto_region 33 with fail
                replace hC := hC.drew
                replace HT : Tch (chB m gx gb) w1 wr.drew := HT.like
                replace GR : Blk wr.drew w.heap.size _ _ := GR
                refine wp_region_noPanic ?_
                refine wp_region_held_drew (S := (fun w' => w'.cell? ⟨w.heap.size, 1, none⟩ = some (.int .i64 b))) (by kernel_rfl) ?_ (fun hHeld => ?_)
                · (first | exact HY.2.1 | assumption)
                refine wpAnyH_take (i := 0) (oi := { dst := some 165, op := Op.move (Operand.tmp 9), type := 27, pos := "more.go:47", after := #[], guard := none }) (v := ?_) rfl (by kernel_rfl) (by kernel_rfl) (by kernel_rfl) (fun _ _ _ h => h) (Or.inl ⟨by rfl, ?_⟩) (by assumption) ?_
                rotate_left
                · (intro wS hSw; (try dsimp only at hSw); go_simp; (try with_reducible rfl))
                try simp only [Act.put, List.setIfInBounds_toArray, List.set_cons_zero, List.set_cons_succ]
                refine wpAnyH_take (i := 1) (oi := { dst := some 166, op := Op.move (Operand.tmp 2), type := 3, pos := "more.go:47", after := #[], guard := none }) (v := ?_) rfl (by kernel_rfl) (by kernel_rfl) (by kernel_rfl) (fun _ _ _ h => h) (Or.inl ⟨by rfl, ?_⟩) (by assumption) ?_
                rotate_left
                · (intro wS hSw; (try dsimp only at hSw); go_simp; (try with_reducible rfl))
                try simp only [Act.put, List.setIfInBounds_toArray, List.set_cons_zero, List.set_cons_succ]
                refine wpAnyH_take (i := 3) (oi := { dst := some 168, op := Op.fieldAddr 23 (Operand.tmp 4) 1, type := 0, pos := "more.go:47", after := #[], guard := none }) (v := ?_) rfl (by kernel_rfl) (by kernel_rfl) (by kernel_rfl) (fun _ _ _ h => h) (Or.inl ⟨by rfl, ?_⟩) (by assumption) ?_
                rotate_left
                · (intro wS hSw; (try dsimp only at hSw); go_simp; (try with_reducible rfl))
                try simp only [Act.put, List.setIfInBounds_toArray, List.set_cons_zero, List.set_cons_succ]
                refine wpAnyH_take (i := 4) (oi := { dst := some 169, op := Op.load 3 (Operand.tmp 168), type := 3, pos := "more.go:47", after := #[{ on := 3, ground := Ground.data }], guard := none }) (v := ?_) rfl (by kernel_rfl) (by kernel_rfl) (by kernel_rfl) (fun _ _ _ h => h) (Or.inl ⟨by rfl, ?_⟩) (by assumption) ?_
                rotate_left
                · (intro wS hSw; (try dsimp only at hSw); go_simp; (try with_reducible rfl))
                try simp only [Act.put, List.setIfInBounds_toArray, List.set_cons_zero, List.set_cons_succ]
                refine wpAnyH_take (i := 5) (oi := { dst := some 170, op := Op.binOp BinOp.sub 3 (Operand.tmp 169) (Operand.const (Value.int IntKind.i64 1)) 3, type := 3, pos := "more.go:47", after := #[{ on := 4, ground := Ground.data }], guard := none }) (v := ?_) rfl (by kernel_rfl) (by kernel_rfl) (by kernel_rfl) (fun _ _ _ h => h) (Or.inl ⟨by rfl, ?_⟩) (by assumption) ?_
                rotate_left
                · (intro wS hSw; (try dsimp only at hSw); go_simp; (try with_reducible rfl))
                try simp only [Act.put, List.setIfInBounds_toArray, List.set_cons_zero, List.set_cons_succ]
                refine wpAnyH_ready (rs := [2]) (by kernel_rfl) (by simp) ?_
                refine AllReadyH.cons (o := { dst := some 167, op := Op.call { callee := Callee.value (Operand.func 21), args := #[Operand.tmp 165, Operand.tmp 166], argTypes := #[27, 3] }, type := 3, pos := "more.go:47", after := #[{ on := 0, ground := Ground.data }, { on := 1, ground := Ground.data }], guard := none }) rfl (fun K hK => ?_) AllReadyH.nil
                go_simp
                (go_at_call 21; ((with_reducible refine (usedF_z _ _ _ _ _ _ _ _ _ _ _ _ k (b - 1) _ S9 hC hk HL.out.kp.k0).mono ?_); rintro e' wN ⟨rfl, rfl⟩; skip))
                go_wp2_with fail
                refine hK.out _ _ ?_ (fun hNew => ?_)
                · (first | exact HY.2.1 | assumption)
                clear hK K hHeld
                have hHeld := hNew
                clear hNew
                try simp only [Act.put, List.setIfInBounds_toArray, List.set_cons_zero, List.set_cons_succ]
                refine wpAnyH_take (i := 6) (oi := { dst := some 171, op := Op.binOp BinOp.eql 3 (Operand.tmp 167) (Operand.tmp 170) 3, type := 4, pos := "more.go:47", after := #[{ on := 2, ground := Ground.data }, { on := 5, ground := Ground.data }], guard := none }) (v := ?_) rfl (by kernel_rfl) (by kernel_rfl) (by kernel_rfl) (fun _ _ _ h => h) (Or.inl ⟨by rfl, ?_⟩) (by assumption) ?_
                rotate_left
                · (intro wS hSw; (try dsimp only at hSw); go_simp; (try with_reducible rfl))
                try simp only [Act.put, List.setIfInBounds_toArray, List.set_cons_zero, List.set_cons_succ]
                refine wpAnyH_take (i := 7) (oi := { dst := some 172, op := Op.move (Operand.tmp 171), type := 4, pos := "more.go:47", after := #[{ on := 6, ground := Ground.data }, { on := 2, ground := Ground.chain }], guard := none }) (v := ?_) rfl (by kernel_rfl) (by kernel_rfl) (by kernel_rfl) (fun _ _ _ h => h) (Or.inl ⟨by rfl, ?_⟩) (by assumption) ?_
                rotate_left
                · (intro wS hSw; (try dsimp only at hSw); go_simp; (try with_reducible rfl))
                try simp only [Act.put, List.setIfInBounds_toArray, List.set_cons_zero, List.set_cons_succ]
                refine wpAnyH_take (i := 8) (oi := { dst := some 173, op := Op.move (Operand.tmp 9), type := 27, pos := "more.go:47", after := #[{ on := 7, ground := Ground.guard }], guard := some (7, true) }) (v := ?_) rfl (by kernel_rfl) (by kernel_rfl) (by kernel_rfl) (fun _ _ _ h => h) (Or.inl ⟨by rfl, ?_⟩) (by assumption) ?_
                rotate_left
                · (intro wS hSw; (try dsimp only at hSw); go_simp; (try with_reducible rfl))
                try simp only [Act.put, List.setIfInBounds_toArray, List.set_cons_zero, List.set_cons_succ]
                refine wpAnyH_take (i := 9) (oi := { dst := some 174, op := Op.move (Operand.tmp 2), type := 3, pos := "more.go:47", after := #[{ on := 7, ground := Ground.guard }], guard := some (7, true) }) (v := ?_) rfl (by kernel_rfl) (by kernel_rfl) (by kernel_rfl) (fun _ _ _ h => h) (Or.inl ⟨by rfl, ?_⟩) (by assumption) ?_
                rotate_left
                · (intro wS hSw; (try dsimp only at hSw); go_simp; (try with_reducible rfl))
                try simp only [Act.put, List.setIfInBounds_toArray, List.set_cons_zero, List.set_cons_succ]
                refine wpAnyH_ready (rs := [10]) (by kernel_rfl) (by simp) ?_
                refine AllReadyH.cons (o := { dst := some 175, op := Op.call { callee := Callee.value (Operand.func 23), args := #[Operand.tmp 173, Operand.tmp 174], argTypes := #[27, 3] }, type := 3, pos := "more.go:47", after := #[{ on := 8, ground := Ground.data }, { on := 9, ground := Ground.data }, { on := 7, ground := Ground.chain }, { on := 7, ground := Ground.guard }], guard := some (7, true) }) rfl (fun K hK => ?_) AllReadyH.nil
                go_simp
                (go_at_call 23; ((with_reducible refine (wearF_z _ _ _ _ _ _ _ _ _ _ _ _ k 0 _ S9 hC hk HL.out.kp.k1).mono ?_); rintro e' wN ⟨rfl, rfl⟩; skip))
                go_wp2_with fail
                refine hK.out _ _ ?_ (fun hNew => ?_)
                · (first | exact HY.2.1 | assumption)
                clear hK K hHeld
                have hHeld := hNew
                clear hNew
                try simp only [Act.put, List.setIfInBounds_toArray, List.set_cons_zero, List.set_cons_succ]
                refine wpAnyH_take (i := 11) (oi := { dst := some 176, op := Op.binOp BinOp.eql 3 (Operand.tmp 175) (Operand.const (Value.int IntKind.i64 0)) 3, type := 4, pos := "more.go:47", after := #[{ on := 10, ground := Ground.data }, { on := 7, ground := Ground.guard }], guard := some (7, true) }) (v := ?_) rfl (by kernel_rfl) (by kernel_rfl) (by kernel_rfl) (fun _ _ _ h => h) (Or.inl ⟨by rfl, ?_⟩) (by assumption) ?_
                rotate_left
                · (intro wS hSw; (try dsimp only at hSw); go_simp; (try with_reducible rfl))
                try simp only [Act.put, List.setIfInBounds_toArray, List.set_cons_zero, List.set_cons_succ]
                refine wpAnyH_take (i := 12) (oi := { dst := some 177, op := Op.pick (Operand.tmp 172) (Operand.tmp 176) (Operand.const (Value.bool false)), type := 4, pos := "more.go:47", after := #[{ on := 7, ground := Ground.data }, { on := 11, ground := Ground.data }], guard := none }) (v := ?_) rfl (by kernel_rfl) (by kernel_rfl) (by kernel_rfl) (fun _ _ _ h => h) (Or.inl ⟨by rfl, ?_⟩) (by assumption) ?_
                rotate_left
                · (intro wS hSw; (try dsimp only at hSw); go_simp; (try with_reducible rfl))
                try simp only [Act.put, List.setIfInBounds_toArray, List.set_cons_zero, List.set_cons_succ]
                refine wpAnyH_take (i := 13) (oi := { dst := some 178, op := Op.move (Operand.tmp 177), type := 4, pos := "more.go:47", after := #[{ on := 12, ground := Ground.data }, { on := 10, ground := Ground.chain }], guard := none }) (v := ?_) rfl (by kernel_rfl) (by kernel_rfl) (by kernel_rfl) (fun _ _ _ h => h) (Or.inl ⟨by rfl, ?_⟩) (by assumption) ?_
                rotate_left
                · (intro wS hSw; (try dsimp only at hSw); go_simp; (try with_reducible rfl))
                try simp only [Act.put, List.setIfInBounds_toArray, List.set_cons_zero, List.set_cons_succ]
                refine wpAnyH_take (i := 14) (oi := { dst := some 179, op := Op.move (Operand.tmp 9), type := 27, pos := "more.go:47", after := #[{ on := 13, ground := Ground.guard }], guard := some (13, true) }) (v := ?_) rfl (by kernel_rfl) (by kernel_rfl) (by kernel_rfl) (fun _ _ _ h => h) (Or.inl ⟨by rfl, ?_⟩) (by assumption) ?_
                rotate_left
                · (intro wS hSw; (try dsimp only at hSw); go_simp; (try with_reducible rfl))
                try simp only [Act.put, List.setIfInBounds_toArray, List.set_cons_zero, List.set_cons_succ]
                refine wpAnyH_take (i := 15) (oi := { dst := some 180, op := Op.move (Operand.tmp 2), type := 3, pos := "more.go:47", after := #[{ on := 13, ground := Ground.guard }], guard := some (13, true) }) (v := ?_) rfl (by kernel_rfl) (by kernel_rfl) (by kernel_rfl) (fun _ _ _ h => h) (Or.inl ⟨by rfl, ?_⟩) (by assumption) ?_
                rotate_left
                · (intro wS hSw; (try dsimp only at hSw); go_simp; (try with_reducible rfl))
                try simp only [Act.put, List.setIfInBounds_toArray, List.set_cons_zero, List.set_cons_succ]
                refine wpAnyH_ready (rs := [16]) (by kernel_rfl) (by simp) ?_
                refine AllReadyH.cons (o := { dst := some 181, op := Op.call { callee := Callee.value (Operand.func 29), args := #[Operand.tmp 179, Operand.tmp 180], argTypes := #[27, 3] }, type := 4, pos := "more.go:47", after := #[{ on := 14, ground := Ground.data }, { on := 15, ground := Ground.data }, { on := 13, ground := Ground.chain }, { on := 13, ground := Ground.guard }], guard := some (13, true) }) rfl (fun K hK => ?_) AllReadyH.nil
                go_simp
                (go_at_call 29; ((with_reducible refine (failed_z _ _ _ _ _ _ _ _ _ _ _ _ _ false _ S9 hC (failed_none _ _ _)).mono ?_); rintro e' wN ⟨rfl, hb⟩; replace hC := hC.below hb; replace HT := HT.then hb; clear hb; clear GR HY; have GR := HT.blk G1 hnb; have HY := cells5 GR))
                go_wp2_with fail
                refine hK.out _ _ ?_ (fun hNew => ?_)
                · (first | exact HY.2.1 | assumption)
                clear hK K hHeld
                have hHeld := hNew
                clear hNew
                try simp only [Act.put, List.setIfInBounds_toArray, List.set_cons_zero, List.set_cons_succ]
                refine wpAnyH_take (i := 17) (oi := { dst := some 182, op := Op.unOp UnOp.not 4 (Operand.tmp 181), type := 4, pos := "more.go:47", after := #[{ on := 16, ground := Ground.data }, { on := 13, ground := Ground.guard }], guard := some (13, true) }) (v := ?_) rfl (by kernel_rfl) (by kernel_rfl) (by kernel_rfl) (fun _ _ _ h => h) (Or.inl ⟨by rfl, ?_⟩) (by assumption) ?_
                rotate_left
                · (intro wS hSw; (try dsimp only at hSw); go_simp; (try with_reducible rfl))
                try simp only [Act.put, List.setIfInBounds_toArray, List.set_cons_zero, List.set_cons_succ]
                refine wpAnyH_take (i := 18) (oi := { dst := some 183, op := Op.pick (Operand.tmp 178) (Operand.tmp 182) (Operand.const (Value.bool false)), type := 4, pos := "more.go:47", after := #[{ on := 13, ground := Ground.data }, { on := 17, ground := Ground.data }], guard := none }) (v := ?_) rfl (by kernel_rfl) (by kernel_rfl) (by kernel_rfl) (fun _ _ _ h => h) (Or.inl ⟨by rfl, ?_⟩) (by assumption) ?_
                rotate_left
                · (intro wS hSw; (try dsimp only at hSw); go_simp; (try with_reducible rfl))
                try simp only [Act.put, List.setIfInBounds_toArray, List.set_cons_zero, List.set_cons_succ]
                refine wpAnyH_take (i := 19) (oi := { dst := some 184, op := Op.move (Operand.tmp 183), type := 4, pos := "more.go:47", after := #[{ on := 18, ground := Ground.data }, { on := 16, ground := Ground.chain }], guard := none }) (v := ?_) rfl (by kernel_rfl) (by kernel_rfl) (by kernel_rfl) (fun _ _ _ h => h) (Or.inl ⟨by rfl, ?_⟩) (by assumption) ?_
                rotate_left
                · (intro wS hSw; (try dsimp only at hSw); go_simp; (try with_reducible rfl))
                try simp only [Act.put, List.setIfInBounds_toArray, List.set_cons_zero, List.set_cons_succ]
                refine wpAnyH_ready (rs := [20]) (by kernel_rfl) (by simp) ?_
                refine AllReadyH.cons (o := { dst := some 185, op := Op.call { callee := Callee.value (Operand.func 10), args := #[], argTypes := #[] }, type := 4, pos := "more.go:47", after := #[{ on := 19, ground := Ground.chain }, { on := 19, ground := Ground.guard }], guard := some (19, true) }) rfl (fun K hK => ?_) AllReadyH.nil
                go_simp
                (go_at_call 10; ((with_reducible refine (awake_any _).mono ?_); rintro e' wN ⟨rfl, hb⟩; replace hC := hC.below hb; replace HT := HT.then hb; clear hb; clear GR HY; have GR := HT.blk G1 hnb; have HY := cells5 GR))
                go_wp2_with fail
                refine hK.out _ _ ?_ (fun hNew => ?_)
                · (first | exact HY.2.1 | assumption)
                clear hK K hHeld
                have hHeld := hNew
                clear hNew
                try simp only [Act.put, List.setIfInBounds_toArray, List.set_cons_zero, List.set_cons_succ]
                refine wpAnyH_take (i := 21) (oi := { dst := some 186, op := Op.pick (Operand.tmp 184) (Operand.tmp 185) (Operand.const (Value.bool false)), type := 4, pos := "more.go:47", after := #[{ on := 19, ground := Ground.data }, { on := 20, ground := Ground.data }], guard := none }) (v := ?_) rfl (by kernel_rfl) (by kernel_rfl) (by kernel_rfl) (fun _ _ _ h => h) (Or.inl ⟨by rfl, ?_⟩) (by assumption) ?_
                rotate_left
                · (intro wS hSw; (try dsimp only at hSw); go_simp; (try with_reducible rfl))
                try simp only [Act.put, List.setIfInBounds_toArray, List.set_cons_zero, List.set_cons_succ]
                refine wpAnyH_take (i := 22) (oi := { dst := some 8, op := Op.assign (Operand.tmp 186), type := 4, pos := "more.go:47", after := #[{ on := 21, ground := Ground.data }, { on := 20, ground := Ground.chain }, { on := 0, ground := Ground.phase }, { on := 1, ground := Ground.phase }, { on := 2, ground := Ground.phase }, { on := 3, ground := Ground.phase }, { on := 4, ground := Ground.phase }, { on := 5, ground := Ground.phase }, { on := 6, ground := Ground.phase }, { on := 7, ground := Ground.phase }, { on := 8, ground := Ground.phase }, { on := 9, ground := Ground.phase }, { on := 10, ground := Ground.phase }, { on := 11, ground := Ground.phase }, { on := 12, ground := Ground.phase }, { on := 13, ground := Ground.phase }, { on := 14, ground := Ground.phase }, { on := 15, ground := Ground.phase }, { on := 16, ground := Ground.phase }, { on := 17, ground := Ground.phase }, { on := 18, ground := Ground.phase }, { on := 19, ground := Ground.phase }, { on := 20, ground := Ground.phase }, { on := 21, ground := Ground.phase }], guard := none }) (v := ?_) rfl (by kernel_rfl) (by kernel_rfl) (by kernel_rfl) (fun _ _ _ h => h) (Or.inl ⟨by rfl, ?_⟩) (by assumption) ?_
                rotate_left
                · (intro wS hSw; (try dsimp only at hSw); go_simp; (try with_reducible rfl))
                try simp only [Act.put, List.setIfInBounds_toArray, List.set_cons_zero, List.set_cons_succ]
                refine wpAnyH_done (by kernel_rfl) ?_ _
                refine NoPanic.normal ?_
                go_wp2_with fail
                go_ret
                exact ⟨rfl, HB0.trans (HT.below HB0.size (fun g hg => by unfold chB at hg; omega))⟩
end Go.Proofs.Ytplniojeaodjiaa
