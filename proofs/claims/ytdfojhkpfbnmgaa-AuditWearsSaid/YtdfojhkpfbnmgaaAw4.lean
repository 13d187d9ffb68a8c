/- AuditWears: the walk. -/
import Derived.Test.YtdfojhkpfbnmgaaAw3
import Derived.Test.YtdfojhkpfbnmgaaAw1
import Derived.Deep.Slices
set_option linter.unusedSimpArgs false
set_option linter.unusedVariables false
set_option maxRecDepth 100000
set_option maxHeartbeats 16000000
namespace Go.Proofs.Ytdfojhkpfbnmgaa
open Go.ChangeShapes Go.WideShapes Go.ChangeAt Go.RowKit
attribute [local go_sem ↓] Go.wp_at_zero Go.wp_at_succ
theorem rmay_t (a b c d e : Int) (w : World) (hm : Hid (mayB a b c d e = true)) : Calls Try.prog 7 #[.agg #[.int .i64 a, .int .i64 b, .int .i64 c, .int .i64 d, .int .i64 e]] w fun e' w' => e' = .returned (.bool true) ∧ Below w.heap.size w w' := by
  have h := rmay_any a b c d e w
  rwa [hm.out] at h
theorem aw_walk {w : World} {m gx gb : Nat} {Af : Option Addr} {nf cf : Nat} {a b c d e : Int} {fs : List Flt} {s : ChS} (h : ChipW w m gx gb Af nf cf a b c d e fs s) (hE : Emp s) {NA NB : Nat} (hA : (NA : Int) = a) (hB : (NB : Int) = b) : ∃ acc S1, walkF a b c NB fs (NA * NB) 0 s [] = (0, acc, S1) ∧ fdsOf acc = [] ∧ Kept s S1 := by
  obtain ⟨q1, q2, q3, q4, q5, q6, -⟩ := may_bd (planMay_bd h.may).1
  obtain ⟨RW, hR⟩ : ∃ RW : Nat, (RW : Int) = c + 16 := ⟨(c + 16).toNat, by omega⟩
  exact emp_walk hE hA hB hR (by omega) (by omega) (by omega) (h.len hA hB hR)
structure AwF (a b c d e : Int) (fs : List Flt) (NA NB : Nat) (S : ChS) (acc : List Vis) (S1 : ChS) (SP LM : Int) (F : Nat) (cu : Int) : Prop where
  w : Hid (walkF a b c NB fs (NA * NB) 0 S [] = (0, acc, S1))
  f : Hid ((fdsOf acc).length = 0)
  ok : ∀ x ∈ fdsOf acc, i64in x.s
  du : Hid (dupB (seqs (fdsOf acc)) = false)
  sp : Hid (spreadI (wsL S NA) (gsL fs a S NA) = SP)
  sp1 : Hid (spreadI (wsL S1 NA) (gsL fs a S1 NA) = SP)
  lm : Hid (e + 2 * a + S.cuts = LM)
  lm1 : Hid (e + 2 * a + S1.cuts = LM)
  bf : Hid (badN (gsL fs a S NA) = F)
  bf1 : Hid (badN (gsL fs a S1 NA) = F)
  cu : Hid (S.cuts = cu)
  on : Hid (S.on = true)
  b8 : Bytes8 S.X
theorem AwF.ex {w : World} {m gx gb : Nat} {Af : Option Addr} {nf cf : Nat} {a b c d e : Int} {fs : List Flt} {s : ChS} (h : ChipW w m gx gb Af nf cf a b c d e fs s) (hE : Emp s) {NA NB : Nat} (hA : (NA : Int) = a) (hB : (NB : Int) = b) : ∃ acc S1 SP LM F cu, AwF a b c d e fs NA NB s acc S1 SP LM F cu := by
  obtain ⟨acc, S1, h1, h2, h3⟩ := aw_walk h hE hA hB
  exact ⟨acc, S1, _, _, _, _, Lib.hid h1, Lib.hid (by rw [h2]; rfl), fun x hx => (by rw [h2] at hx; cases hx), Lib.hid (by rw [h2]; rfl), Lib.hid rfl, Lib.hid (by rw [ws_kept h3, gs_kept h3]), Lib.hid rfl, Lib.hid (by rw [h3.c]), Lib.hid rfl, Lib.hid (by rw [gs_kept h3]), Lib.hid rfl, Lib.hid hE.liv.on, hE.liv.b8⟩
theorem own_some {w : World} {base n : Nat} {v : Value} {xs : List Value} {t : TypeId} (h : w.ownsRow base t 1 v n xs) (hn : 0 < n) : ∃ g c, v = .slice (some ⟨g, 0, none⟩) n c ∧ base ≤ g ∧ g < w.heap.size := by
  obtain ⟨g, cap, hg, -⟩ := h.form (by omega)
  have := h.lt g (by rw [hg]; rfl)
  exact ⟨g, cap, hg, this.1, this.2⟩
theorem low_v (x n z : Int) (w : World) (hn : 1 ≤ n) (hm : n ≤ 4611686018427387904) (hz : Hid (lowI x n = z)) : Calls Try.prog 8 #[.int .i64 x, .int .i64 n] w fun e' w' => e' = .returned (.int .i64 z) ∧ w = w' := by
  have h := low_any x n w hn hm
  rwa [hz.out] at h
theorem Wr.drew {w0 wr : World} {fs : List Flt} {a : Int} {s : ChS} {k1 k2 : Nat} {v1 v2 : Value} (h : Wr w0 wr fs a s k1 k2 v1 v2) : Wr w0 wr.drew fs a s k1 k2 v1 v2 := ⟨h.b.drew, h.r1, h.r2, h.ap⟩
theorem rcells {w0 wr : World} {fs : List Flt} {a : Int} {s : ChS} {n g1 c1 g2 c2 j : Nat} {z : Int} {t : Bool} (h : Wr w0 wr fs a s n n (.slice (some ⟨g1, 0, none⟩) n c1) (.slice (some ⟨g2, 0, none⟩) n c2)) (hj : j < n) (h1 : Hid ((wsL s n)[j]? = some z)) (h2 : Hid ((gsL fs a s n)[j]? = some t)) : wr.cell? ⟨g1, j, none⟩ = some (.int .i64 z) ∧ wr.cell? ⟨g2, j, none⟩ = some (.bool t) := by
  refine ⟨?_, ?_⟩
  · rw [h.r1.cellAt j (by omega), List.getElem?_map, h1.out]
    rfl
  · rw [h.r2.cellAt j (by omega), List.getElem?_map, h2.out]
    rfl
theorem ws_get (s : ChS) {n j : Nat} (h : j < n) : (wsL s n)[j]? = some (s.k (j : Int) 1) := by
  unfold wsL
  rw [List.getElem?_map, List.getElem?_range h]
  rfl
theorem gs_get (fs : List Flt) (a : Int) (s : ChS) {n j : Nat} (h : j < n) : (gsL fs a s n)[j]? = some (!badB fs (j : Int) && !failedB a fs s (j : Int)) := by
  unfold gsL
  rw [List.getElem?_map, List.getElem?_range h]
  rfl
theorem cuts_v (m gx gb : Nat) (Af : Option Addr) (nf cf : Nat) (a b c d e : Int) (fs : List Flt) (cu : Int) (w : World) (s : ChS) (hC : ChipW w m gx gb Af nf cf a b c d e fs s) (hT : Hid (s.cuts = cu)) : Calls Try.prog 20 #[.pointer (some ⟨m, 0, none⟩)] w fun e' w' => e' = .returned (.int .i64 cu) ∧ w = w' := by
  have h := cuts_any m gx gb Af nf cf a b c d e fs w s hC
  rwa [hT.out] at h
theorem wears_walk (a b c d e : Int) (A1 : Option Addr) (n1 c1 : Nat) (fs : List Flt) (block many : Int) (w : World) (_ : i64in a ∧ i64in b ∧ i64in c ∧ i64in d ∧ i64in e) (hflt : n1 = fs.length ∧ n1 ≤ c1 ∧ c1 ≤ maxLen ∧ SlF w w.heap.size A1 fs) (_ : i64in block) (_ : i64in many) :
    Calls Try.prog 3 #[.agg #[.int .i64 a, .int .i64 b, .int .i64 c, .int .i64 d, .int .i64 e], .slice A1 n1 c1, .int .i64 block, .int .i64 many] w fun e' w' => e' = .returned (.bool true) ∧ Below w.heap.size w w' := by
  obtain ⟨rfl, hq1, hq2, hsf⟩ := hflt
  have HB0 : Below w.heap.size w (w.alloc (.cells #[.int .i64 a, .int .i64 b, .int .i64 c, .int .i64 d, .int .i64 e] 23)) := (Below.refl _ _).alloc (Nat.le_refl _) _
  have G1 : Blk (w.alloc (.cells #[.int .i64 a, .int .i64 b, .int .i64 c, .int .i64 d, .int .i64 e] 23)) w.heap.size 23 #[.int .i64 a, .int .i64 b, .int .i64 c, .int .i64 d, .int .i64 e] := Blk.new_ _ _ _
  have hsf1 := hsf.next HB0
  obtain ⟨y0, y1, y2, y3, y4⟩ := cells5 G1
  clear hsf
  by_cases h20 : fs.length ≤ 20
  · have hi20 : ¬ ((20 : Int) < (fs.length : Int)) := by omega
    rcases (by cases hq : planMay a b c d e fs <;> simp : planMay a b c d e fs = false ∨ planMay a b c d e fs = true) with hpm | hpm
    · have HP := Lib.hid hpm
      clear hpm
      go_enter Try.func3, Try.ntmps3
      go_wp2_with (first | (go_at_call 6; ((with_reducible refine (newF_no a b c d e fs A1 c1 _ hsf1 hq1 hq2 HP).mono ?_); rintro e' wN ⟨rfl, hbN⟩; skip)) | (go_at_call 5; ((with_reducible refine (awake23 _).mono ?_); rintro e' wN ⟨rfl, hbZ⟩; skip)))
      go_ret
      have hx := btr HB0 HB0.size hbN
      exact ⟨rfl, btr hx hx.size hbZ⟩
    · skip
      have HP := Lib.hid hpm
      have hm := (planMay_bd hpm).1
      obtain ⟨q1, q2, q3, q4, q5, q6, q7, q8, q9, q10, -⟩ := may_bd hm
      have HM := Lib.hid hm
      obtain ⟨p1, p2⟩ := mul_bd (x := a) (y := b) (lo := 8) (hi := 20) (l2 := 4) (h2 := 8) q1 q2 q3 q4 (by omega) (by omega)
      obtain ⟨p3, p4⟩ := mul_bd (x := a * b) (y := c + 16) (lo := 32) (hi := 160) (l2 := 40) (h2 := 80) (by omega) (by omega) (by omega) (by omega) (by omega) (by omega)
      obtain ⟨NX, hNX0⟩ : ∃ NX : Nat, (NX : Int) = a * b * (c + 16) := ⟨(a * b * (c + 16)).toNat, by omega⟩
      obtain ⟨NA, hNA0⟩ : ∃ NA : Nat, (NA : Int) = a := ⟨a.toNat, by omega⟩
      obtain ⟨NB, hNB0⟩ : ∃ NB : Nat, (NB : Int) = b := ⟨b.toNat, by omega⟩
      have n1 : 1 ≤ NX := by omega
      have n2 : NX ≤ 100000 := by omega
      have n3 : NA ≤ 20 := by omega
      have n4 : 8 ≤ NA := by omega
      have hNX := Lib.hid hNX0
      have hNA := Lib.hid hNA0
      have hNB := Lib.hid hNB0
      obtain ⟨BK, hBK⟩ : ∃ BK, lowI block a = BK := ⟨_, rfl⟩
      obtain ⟨M, hMM⟩ : ∃ M, lowI many 200 = M := ⟨_, rfl⟩
      have hM2 := lowI_bd many 200 (by omega)
      have hna1 : ((NA : Int) != a) = false := by rw [hNA0]; simp
      have hna2 : ((NA : Int) == a) = true := by rw [hNA0]; simp
      rw [hMM] at hM2
      have HBK := Lib.hid hBK
      have HMM := Lib.hid hMM
      clear hNX0 hNA0 hNB0 p1 p2 p3 p4 hBK hMM hm hpm q3 q4 q5 q6
      go_enter Try.func3, Try.ntmps3
      go_wp2_with (first | (go_at_call 6; ((with_reducible refine (newF_yes a b c d e fs A1 c1 NX NA _ hsf1 hq1 hq2 (by omega) HP hNX.out hNA.out (by omega) (by omega) (by omega)).mono ?_); rintro e' wN ⟨⟨m, gx, gb, AF, cf, rfl, hC, hm, hgx, hgb⟩, hbN⟩; have HB1 := btr HB0 HB0.size hbN; have G2 := G1.below hbN G1.lt; have hlow : ∀ g, chB m gx gb g → w.heap.size < g := (fun g hg => by rcases hg with rfl | rfl | rfl <;> (simp at hm hgx hgb; omega)); (try clear y0 y1 y2 y3 y4); obtain ⟨y0, y1, y2, y3, y4⟩ := cells5 G2; have y9 := G2.lt)) | (go_at_call 7; ((with_reducible refine (rmay_t a b c d e _ HM).mono ?_); rintro e' wN ⟨rfl, hbM⟩; have HB2 := btr HB1 HB1.size hbM; have hC1 := hC.below hbM; have G3 := G2.below hbM G2.lt; (try clear y0 y1 y2 y3 y4 y9); obtain ⟨y0, y1, y2, y3, y4⟩ := cells5 G3; have y9 := G3.lt)) | (go_at_call 8; ((with_reducible refine (low_v block a BK _ (by omega) (by omega) HBK).mono ?_); rintro e' wN ⟨rfl, rfl⟩; skip)))
      obtain ⟨W2, hW2⟩ : ∃ V : World, V = wN := ⟨_, rfl⟩
      rw [← hW2] at hC1 HB2 G3 y0 y1 y2 y3 y4 ⊢
      clear hW2 hbM hbN hC hm hgx hgb
      have hnb : ¬ chB m gx gb w.heap.size := fun e => by have := hlow _ e; omega
      go_loopw [10] (fun s10 wr => ∃ (k : Nat) (S : ChS), (k : Int) ≤ M ∧ s10 = .int .i64 (k : Int) ∧ ChipW wr m gx gb AF fs.length cf a b c d e fs S ∧ Hid (Good S (20 + 3 * (k : Int)) ∧ Emp S) ∧ Tch (chB m gx gb) W2 wr) (fun s10 _ => M.toNat - (intOf s10).toNat)
      case atStart => exact ⟨0, _, hM2.1, rfl, hC1, Lib.hid ⟨(good_new NX NA).mono (by omega), Emp.new NX NA⟩, Tch.refl _⟩
      case round =>
        clear hC1 y0 y1 y2 y3 y4
        obtain ⟨k, S, hk, rfl, hCk, HK, HT⟩ := hrel
        have G4 := HT.blk G3 hnb
        obtain ⟨y0, y1, y2, y3, y4⟩ := cells5 G4
        have k0 : (0 : Int) ≤ (k : Int) := by omega
        by_cases hkM : (k : Int) < M
        · have hK2 : Hid (Good (S.eraseS a b c fs BK) (20 + 3 * ((k + 1 : Nat) : Int)) ∧ Emp (S.eraseS a b c fs BK)) := Lib.hid ⟨(HK.out.1.erase hCk (by omega) BK).mono (by omega), HK.out.2.erase a b c fs BK⟩
          go_wp2_with (first | (go_at_call 8; ((with_reducible refine (low_v many 200 M _ (by omega) (by omega) HMM).mono ?_); rintro e' wN ⟨rfl, rfl⟩; skip)) | (go_at_call 9; ((with_reducible refine (erase_all m gx gb AF fs.length cf a b c d e fs BK (20 + 3 * (k : Int)) _ S hCk HK.out.1.fine (by omega)).mono ?_); rintro e' wN ⟨rfl, hC2, hT2⟩; skip)))
          go_roundw
          case rel => exact ⟨k + 1, _, by omega, by go_num, hC2, hK2, HT.trans hT2⟩
          case measure => simp [intOf]; omega
        · have hG : Good S 700 := HK.out.1.mono (by omega)
          obtain ⟨acc, S1, SP, LM, F, cu, hF⟩ := AwF.ex hCk HK.out.2 hNA.out hNB.out
          have HBW : Below w.heap.size w wr := HB2.trans (HT.below HB2.size (fun g hg => Nat.le_of_lt (hlow g hg)))
          obtain ⟨W1, hW1⟩ : ∃ V : World, V = wr := ⟨_, rfl⟩
          rw [← hW1] at hCk G4 HBW y0 y1 y2 y3 y4 ⊢
          clear hW1 HK HT HB2 G3
          go_wp2_with (first | (go_at_call 8; ((with_reducible refine (low_v many 200 M _ (by omega) (by omega) HMM).mono ?_); rintro e' wN ⟨rfl, rfl⟩; skip)) | (go_at_call 10; ((with_reducible refine (wears_any m gx gb AF fs.length cf a b c d e fs NA _ S hCk hNA.out).mono ?_); rintro e' wN ⟨v1, v2, rfl, hE⟩; obtain ⟨g1, c1w, hv1, hb1, -⟩ := own_some hE.r1 (by omega); obtain ⟨g2, c2w, hv2, hb2, -⟩ := own_some hE.r2 (by omega); subst hv1 hv2; have GW := G4.below hE.b G4.lt; (try clear y0 y1 y2 y3 y4); obtain ⟨y0, y1, y2, y3, y4⟩ := cells5 GW)))
          have G4W := G4.below hE.b G4.lt
          (try clear y0 y1 y2 y3 y4)
          obtain ⟨y0, y1, y2, y3, y4⟩ := cells5 G4W
          go_wp2_with fail
          go_loopw [13] (fun s13 wr => ∃ (j : Nat), j ≤ NA ∧ s13 = .int .i64 (j : Int) ∧ Wr W1 wr fs a S NA NA (.slice (some ⟨g1, 0, none⟩) NA c1w) (.slice (some ⟨g2, 0, none⟩) NA c2w)) (fun s13 _ => NA - (intOf s13).toNat)
          case atStart => exact ⟨0, Nat.zero_le _, rfl, hE⟩
          case round =>
            clear hE G4W y0 y1 y2 y3 y4
            obtain ⟨j, hj, rfl, hE⟩ := hrel
            have G4W := G4.below hE.b G4.lt
            obtain ⟨y0, y1, y2, y3, y4⟩ := cells5 G4W
            have j0 : (0 : Int) ≤ (j : Int) := by omega
            by_cases hja : (j : Int) < a
            · have jn : j < NA := by have := hNA.out; omega
              have jn1 : (j : Int) < (NA : Int) := by omega
              obtain ⟨z, hz⟩ : ∃ z, S.k (j : Int) 1 = z := ⟨_, rfl⟩
              have HZ := Lib.hid hz
              have hws : Hid ((wsL S NA)[j]? = some z) := Lib.hid (by rw [ws_get S jn, hz])
              clear hz
              rcases (by cases hq : badB fs (j : Int) <;> simp : badB fs (j : Int) = true ∨ badB fs (j : Int) = false) with hb | hb
              · have HBD := Lib.hid hb
                have hgz : Hid ((gsL fs a S NA)[j]? = some false) := Lib.hid (by rw [gs_get fs a S jn, hb]; rfl)
                have HC1 := rcells hE jn hws hgz
                clear hb
                go_upto_region 17 with fail
                refine wp_region_noPanic ?_
                refine wp_region_held_drew (S := (fun w' => w'.cell? ⟨g1, j, none⟩ = some (.int .i64 z) ∧ w'.cell? ⟨g2, j, none⟩ = some (.bool false))) (by kernel_rfl) ?_ (fun hHeld => ?_)
                · (first | exact HC1 | exact HC2 | exact HC3 | assumption)
                refine tk 0 ⟨some 69, .move (.tmp 11), 32, "law.go:46", #[], none⟩ ?_; try simp only [Act.put, pz1, pz2, pz3]
                refine tk 1 ⟨some 70, .move (.tmp 13), 3, "law.go:46", #[], none⟩ ?_; try simp only [Act.put, pz1, pz2, pz3]
                refine tk 2 ⟨some 71, .indexAddr 32 (.tmp 69) (.tmp 70), 0, "law.go:46", #[⟨0, .data⟩, ⟨1, .data⟩], none⟩ ?_; try simp only [Act.put, pz1, pz2, pz3]
                refine tk 3 ⟨some 72, .load 3 (.tmp 71), 3, "law.go:46", #[⟨2, .data⟩], none⟩ ?_; try simp only [Act.put, pz1, pz2, pz3]
                refine tk 4 ⟨some 73, .move (.tmp 9), 26, "law.go:46", #[], none⟩ ?_; try simp only [Act.put, pz1, pz2, pz3]
                refine tk 5 ⟨some 74, .move (.tmp 13), 3, "law.go:46", #[], none⟩ ?_; try simp only [Act.put, pz1, pz2, pz3]
                refine wpAnyH_ready (rs := [6]) (by kernel_rfl) (by simp) ?_
                refine AllReadyH.cons (o := ⟨some 75, .call { callee := .value (.func 11), args := #[.tmp 73, .tmp 74], argTypes := #[26, 3] }, 3, "law.go:46", #[⟨4, .data⟩, ⟨5, .data⟩], none⟩) rfl (fun K hK => ?_) AllReadyH.nil
                go_simp
                (first | (go_at_call 11; ((with_reducible refine (wear_k m gx gb AF fs.length cf a b c d e fs j z _ S (by first | exact (hCk.below hE.b) | exact ChipW.drew (hCk.below hE.b)) hja HZ).mono ?_); rintro e' wN ⟨rfl, rfl⟩)) | (go_at_call 12; ((with_reducible refine (bad_v0 m gx gb AF fs.length cf a b c d e fs _ true _ S (by first | exact (hCk.below hE.b) | exact ChipW.drew (hCk.below hE.b)) HBD).mono ?_); rintro e' wB ⟨rfl, hbB⟩; (try have hbB := undrew hbB); replace hE := hE.then hbB; have HC2 := rcells hE jn hws hgz)))
                go_wp2_with fail
                refine hK.out _ _ ?_ (fun hNew => ?_)
                · (first | exact HC1 | exact HC2 | exact HC3 | assumption)
                clear hK K hHeld
                have hHeld := hNew
                clear hNew
                try simp only [Act.put, pz1, pz2, pz3]
                refine tk 7 ⟨some 76, .binOp .neq 3 (.tmp 72) (.tmp 75) 3, 4, "law.go:46", #[⟨3, .data⟩, ⟨6, .data⟩], none⟩ ?_; try simp only [Act.put, pz1, pz2, pz3]
                refine tk 8 ⟨some 77, .move (.tmp 76), 4, "law.go:46", #[⟨7, .data⟩, ⟨6, .chain⟩], none⟩ ?_; try simp only [Act.put, pz1, pz2, pz3]
                refine tk 9 ⟨some 78, .move (.tmp 12), 33, "law.go:46", #[⟨8, .guard⟩], some (8, false)⟩ ?_; try simp only [Act.put, pz1, pz2, pz3]
                refine tk 10 ⟨some 79, .move (.tmp 13), 3, "law.go:46", #[⟨8, .guard⟩], some (8, false)⟩ ?_; try simp only [Act.put, pz1, pz2, pz3]
                refine tk 11 ⟨some 80, .indexAddr 33 (.tmp 78) (.tmp 79), 0, "law.go:46", #[⟨9, .data⟩, ⟨10, .data⟩, ⟨8, .guard⟩], some (8, false)⟩ ?_; try simp only [Act.put, pz1, pz2, pz3]
                refine tk 12 ⟨some 81, .load 4 (.tmp 80), 4, "law.go:46", #[⟨11, .data⟩, ⟨8, .guard⟩], some (8, false)⟩ ?_; try simp only [Act.put, pz1, pz2, pz3]
                refine tk 13 ⟨some 82, .move (.tmp 9), 26, "law.go:46", #[⟨8, .guard⟩], some (8, false)⟩ ?_; try simp only [Act.put, pz1, pz2, pz3]
                refine tk 14 ⟨some 83, .move (.tmp 13), 3, "law.go:46", #[⟨8, .guard⟩], some (8, false)⟩ ?_; try simp only [Act.put, pz1, pz2, pz3]
                refine wpAnyH_ready (rs := [15]) (by kernel_rfl) (by simp) ?_
                refine AllReadyH.cons (o := ⟨some 84, .call { callee := .value (.func 12), args := #[.tmp 82, .tmp 83], argTypes := #[26, 3] }, 4, "law.go:46", #[⟨13, .data⟩, ⟨14, .data⟩, ⟨8, .chain⟩, ⟨8, .guard⟩], some (8, false)⟩) rfl (fun K hK => ?_) AllReadyH.nil
                go_simp
                (first | (go_at_call 11; ((with_reducible refine (wear_k m gx gb AF fs.length cf a b c d e fs j z _ S (by first | exact (hCk.below hE.b) | exact ChipW.drew (hCk.below hE.b)) hja HZ).mono ?_); rintro e' wN ⟨rfl, rfl⟩)) | (go_at_call 12; ((with_reducible refine (bad_v0 m gx gb AF fs.length cf a b c d e fs _ true _ S (by first | exact (hCk.below hE.b) | exact ChipW.drew (hCk.below hE.b)) HBD).mono ?_); rintro e' wB ⟨rfl, hbB⟩; (try have hbB := undrew hbB); replace hE := hE.then hbB; have HC2 := rcells hE jn hws hgz)))
                go_wp2_with fail
                refine hK.out _ _ ?_ (fun hNew => ?_)
                · (first | exact HC1 | exact HC2 | exact HC3 | assumption)
                clear hK K hHeld
                have hHeld := hNew
                clear hNew
                try simp only [Act.put, pz1, pz2, pz3]
                refine tk 16 ⟨some 85, .unOp .not 4 (.tmp 84), 4, "law.go:46", #[⟨15, .data⟩, ⟨8, .guard⟩], some (8, false)⟩ ?_; try simp only [Act.put, pz1, pz2, pz3]
                refine tk 17 ⟨some 86, .move (.tmp 85), 4, "law.go:46", #[⟨16, .data⟩, ⟨15, .chain⟩, ⟨8, .guard⟩], some (8, false)⟩ ?_; try simp only [Act.put, pz1, pz2, pz3]
                refine tu 18 ⟨some 87, .move (.tmp 9), 26, "law.go:46", #[⟨17, .guard⟩], some (17, true)⟩ ?_
                try simp only [Act.put, pz1, pz2, pz3]
                refine tu 19 ⟨some 88, .move (.tmp 13), 3, "law.go:46", #[⟨17, .guard⟩], some (17, true)⟩ ?_
                try simp only [Act.put, pz1, pz2, pz3]
                refine tu 20 ⟨some 89, .call { callee := .value (.func 13), args := #[.tmp 87, .tmp 88], argTypes := #[26, 3] }, 4, "law.go:46", #[⟨18, .data⟩, ⟨19, .data⟩, ⟨17, .chain⟩, ⟨17, .guard⟩], some (17, true)⟩ ?_
                try simp only [Act.put, pz1, pz2, pz3]
                refine tu 21 ⟨some 90, .unOp .not 4 (.tmp 89), 4, "law.go:46", #[⟨20, .data⟩, ⟨17, .guard⟩], some (17, true)⟩ ?_
                try simp only [Act.put, pz1, pz2, pz3]
                refine tk 22 ⟨some 91, .pick (.tmp 86) (.tmp 90) (.const (.bool false)), 4, "law.go:46", #[⟨17, .data⟩, ⟨21, .data⟩, ⟨8, .guard⟩], some (8, false)⟩ ?_; try simp only [Act.put, pz1, pz2, pz3]
                refine tk 23 ⟨some 92, .binOp .neq 4 (.tmp 81) (.tmp 91) 4, 4, "law.go:46", #[⟨12, .data⟩, ⟨22, .data⟩, ⟨8, .guard⟩], some (8, false)⟩ ?_; try simp only [Act.put, pz1, pz2, pz3]
                refine tk 24 ⟨some 93, .pick (.tmp 77) (.const (.bool true)) (.tmp 92), 4, "law.go:46", #[⟨8, .data⟩, ⟨23, .data⟩], none⟩ ?_; try simp only [Act.put, pz1, pz2, pz3]
                refine wpAnyH_done (by kernel_rfl) ?_ _
                refine NoPanic.normal ?_
                clear hHeld
                go_wp2_with fail
                go_roundw
                case rel => exact ⟨j + 1, by omega, by go_num, (by first | exact hE | exact hE.drew)⟩
                case measure => simp [intOf]; omega
              · have HBD := Lib.hid hb
                rcases (by cases hq : failedB a fs S (j : Int) <;> simp : failedB a fs S (j : Int) = true ∨ failedB a fs S (j : Int) = false) with hf | hf
                · have HFD := Lib.hid hf
                  have hgz : Hid ((gsL fs a S NA)[j]? = some false) := Lib.hid (by rw [gs_get fs a S jn, hb, hf]; rfl)
                  have HC1 := rcells hE jn hws hgz
                  clear hb hf
                  go_upto_region 17 with fail
                  refine wp_region_noPanic ?_
                  refine wp_region_held_drew (S := (fun w' => w'.cell? ⟨g1, j, none⟩ = some (.int .i64 z) ∧ w'.cell? ⟨g2, j, none⟩ = some (.bool false))) (by kernel_rfl) ?_ (fun hHeld => ?_)
                  · (first | exact HC1 | exact HC2 | exact HC3 | assumption)
                  refine tk 0 ⟨some 69, .move (.tmp 11), 32, "law.go:46", #[], none⟩ ?_; try simp only [Act.put, pz1, pz2, pz3]
                  refine tk 1 ⟨some 70, .move (.tmp 13), 3, "law.go:46", #[], none⟩ ?_; try simp only [Act.put, pz1, pz2, pz3]
                  refine tk 2 ⟨some 71, .indexAddr 32 (.tmp 69) (.tmp 70), 0, "law.go:46", #[⟨0, .data⟩, ⟨1, .data⟩], none⟩ ?_; try simp only [Act.put, pz1, pz2, pz3]
                  refine tk 3 ⟨some 72, .load 3 (.tmp 71), 3, "law.go:46", #[⟨2, .data⟩], none⟩ ?_; try simp only [Act.put, pz1, pz2, pz3]
                  refine tk 4 ⟨some 73, .move (.tmp 9), 26, "law.go:46", #[], none⟩ ?_; try simp only [Act.put, pz1, pz2, pz3]
                  refine tk 5 ⟨some 74, .move (.tmp 13), 3, "law.go:46", #[], none⟩ ?_; try simp only [Act.put, pz1, pz2, pz3]
                  refine wpAnyH_ready (rs := [6]) (by kernel_rfl) (by simp) ?_
                  refine AllReadyH.cons (o := ⟨some 75, .call { callee := .value (.func 11), args := #[.tmp 73, .tmp 74], argTypes := #[26, 3] }, 3, "law.go:46", #[⟨4, .data⟩, ⟨5, .data⟩], none⟩) rfl (fun K hK => ?_) AllReadyH.nil
                  go_simp
                  (first | (go_at_call 11; ((with_reducible refine (wear_k m gx gb AF fs.length cf a b c d e fs j z _ S (by first | exact (hCk.below hE.b) | exact ChipW.drew (hCk.below hE.b)) hja HZ).mono ?_); rintro e' wN ⟨rfl, rfl⟩)) | (go_at_call 12; ((with_reducible refine (bad_v0 m gx gb AF fs.length cf a b c d e fs _ false _ S (by first | exact (hCk.below hE.b) | exact ChipW.drew (hCk.below hE.b)) HBD).mono ?_); rintro e' wB ⟨rfl, hbB⟩; (try have hbB := undrew hbB); replace hE := hE.then hbB; have HC2 := rcells hE jn hws hgz)) | (go_at_call 13; ((with_reducible refine (failed_b m gx gb AF fs.length cf a b c d e fs _ true _ S (by first | exact (hCk.below hE.b) | exact ChipW.drew (hCk.below hE.b)) HFD).mono ?_); rintro e' wF ⟨rfl, hbF⟩; (try have hbF := undrew hbF); replace hE := hE.then hbF; have HC3 := rcells hE jn hws hgz)))
                  go_wp2_with fail
                  refine hK.out _ _ ?_ (fun hNew => ?_)
                  · (first | exact HC1 | exact HC2 | exact HC3 | assumption)
                  clear hK K hHeld
                  have hHeld := hNew
                  clear hNew
                  try simp only [Act.put, pz1, pz2, pz3]
                  refine tk 7 ⟨some 76, .binOp .neq 3 (.tmp 72) (.tmp 75) 3, 4, "law.go:46", #[⟨3, .data⟩, ⟨6, .data⟩], none⟩ ?_; try simp only [Act.put, pz1, pz2, pz3]
                  refine tk 8 ⟨some 77, .move (.tmp 76), 4, "law.go:46", #[⟨7, .data⟩, ⟨6, .chain⟩], none⟩ ?_; try simp only [Act.put, pz1, pz2, pz3]
                  refine tk 9 ⟨some 78, .move (.tmp 12), 33, "law.go:46", #[⟨8, .guard⟩], some (8, false)⟩ ?_; try simp only [Act.put, pz1, pz2, pz3]
                  refine tk 10 ⟨some 79, .move (.tmp 13), 3, "law.go:46", #[⟨8, .guard⟩], some (8, false)⟩ ?_; try simp only [Act.put, pz1, pz2, pz3]
                  refine tk 11 ⟨some 80, .indexAddr 33 (.tmp 78) (.tmp 79), 0, "law.go:46", #[⟨9, .data⟩, ⟨10, .data⟩, ⟨8, .guard⟩], some (8, false)⟩ ?_; try simp only [Act.put, pz1, pz2, pz3]
                  refine tk 12 ⟨some 81, .load 4 (.tmp 80), 4, "law.go:46", #[⟨11, .data⟩, ⟨8, .guard⟩], some (8, false)⟩ ?_; try simp only [Act.put, pz1, pz2, pz3]
                  refine tk 13 ⟨some 82, .move (.tmp 9), 26, "law.go:46", #[⟨8, .guard⟩], some (8, false)⟩ ?_; try simp only [Act.put, pz1, pz2, pz3]
                  refine tk 14 ⟨some 83, .move (.tmp 13), 3, "law.go:46", #[⟨8, .guard⟩], some (8, false)⟩ ?_; try simp only [Act.put, pz1, pz2, pz3]
                  refine wpAnyH_ready (rs := [15]) (by kernel_rfl) (by simp) ?_
                  refine AllReadyH.cons (o := ⟨some 84, .call { callee := .value (.func 12), args := #[.tmp 82, .tmp 83], argTypes := #[26, 3] }, 4, "law.go:46", #[⟨13, .data⟩, ⟨14, .data⟩, ⟨8, .chain⟩, ⟨8, .guard⟩], some (8, false)⟩) rfl (fun K hK => ?_) AllReadyH.nil
                  go_simp
                  (first | (go_at_call 11; ((with_reducible refine (wear_k m gx gb AF fs.length cf a b c d e fs j z _ S (by first | exact (hCk.below hE.b) | exact ChipW.drew (hCk.below hE.b)) hja HZ).mono ?_); rintro e' wN ⟨rfl, rfl⟩)) | (go_at_call 12; ((with_reducible refine (bad_v0 m gx gb AF fs.length cf a b c d e fs _ false _ S (by first | exact (hCk.below hE.b) | exact ChipW.drew (hCk.below hE.b)) HBD).mono ?_); rintro e' wB ⟨rfl, hbB⟩; (try have hbB := undrew hbB); replace hE := hE.then hbB; have HC2 := rcells hE jn hws hgz)) | (go_at_call 13; ((with_reducible refine (failed_b m gx gb AF fs.length cf a b c d e fs _ true _ S (by first | exact (hCk.below hE.b) | exact ChipW.drew (hCk.below hE.b)) HFD).mono ?_); rintro e' wF ⟨rfl, hbF⟩; (try have hbF := undrew hbF); replace hE := hE.then hbF; have HC3 := rcells hE jn hws hgz)))
                  go_wp2_with fail
                  refine hK.out _ _ ?_ (fun hNew => ?_)
                  · (first | exact HC1 | exact HC2 | exact HC3 | assumption)
                  clear hK K hHeld
                  have hHeld := hNew
                  clear hNew
                  try simp only [Act.put, pz1, pz2, pz3]
                  refine tk 16 ⟨some 85, .unOp .not 4 (.tmp 84), 4, "law.go:46", #[⟨15, .data⟩, ⟨8, .guard⟩], some (8, false)⟩ ?_; try simp only [Act.put, pz1, pz2, pz3]
                  refine tk 17 ⟨some 86, .move (.tmp 85), 4, "law.go:46", #[⟨16, .data⟩, ⟨15, .chain⟩, ⟨8, .guard⟩], some (8, false)⟩ ?_; try simp only [Act.put, pz1, pz2, pz3]
                  refine tk 18 ⟨some 87, .move (.tmp 9), 26, "law.go:46", #[⟨17, .guard⟩], some (17, true)⟩ ?_; try simp only [Act.put, pz1, pz2, pz3]
                  refine tk 19 ⟨some 88, .move (.tmp 13), 3, "law.go:46", #[⟨17, .guard⟩], some (17, true)⟩ ?_; try simp only [Act.put, pz1, pz2, pz3]
                  refine wpAnyH_ready (rs := [20]) (by kernel_rfl) (by simp) ?_
                  refine AllReadyH.cons (o := ⟨some 89, .call { callee := .value (.func 13), args := #[.tmp 87, .tmp 88], argTypes := #[26, 3] }, 4, "law.go:46", #[⟨18, .data⟩, ⟨19, .data⟩, ⟨17, .chain⟩, ⟨17, .guard⟩], some (17, true)⟩) rfl (fun K hK => ?_) AllReadyH.nil
                  go_simp
                  (first | (go_at_call 11; ((with_reducible refine (wear_k m gx gb AF fs.length cf a b c d e fs j z _ S (by first | exact (hCk.below hE.b) | exact ChipW.drew (hCk.below hE.b)) hja HZ).mono ?_); rintro e' wN ⟨rfl, rfl⟩)) | (go_at_call 12; ((with_reducible refine (bad_v0 m gx gb AF fs.length cf a b c d e fs _ false _ S (by first | exact (hCk.below hE.b) | exact ChipW.drew (hCk.below hE.b)) HBD).mono ?_); rintro e' wB ⟨rfl, hbB⟩; (try have hbB := undrew hbB); replace hE := hE.then hbB; have HC2 := rcells hE jn hws hgz)) | (go_at_call 13; ((with_reducible refine (failed_b m gx gb AF fs.length cf a b c d e fs _ true _ S (by first | exact (hCk.below hE.b) | exact ChipW.drew (hCk.below hE.b)) HFD).mono ?_); rintro e' wF ⟨rfl, hbF⟩; (try have hbF := undrew hbF); replace hE := hE.then hbF; have HC3 := rcells hE jn hws hgz)))
                  go_wp2_with fail
                  refine hK.out _ _ ?_ (fun hNew => ?_)
                  · (first | exact HC1 | exact HC2 | exact HC3 | assumption)
                  clear hK K hHeld
                  have hHeld := hNew
                  clear hNew
                  try simp only [Act.put, pz1, pz2, pz3]
                  refine tk 21 ⟨some 90, .unOp .not 4 (.tmp 89), 4, "law.go:46", #[⟨20, .data⟩, ⟨17, .guard⟩], some (17, true)⟩ ?_; try simp only [Act.put, pz1, pz2, pz3]
                  refine tk 22 ⟨some 91, .pick (.tmp 86) (.tmp 90) (.const (.bool false)), 4, "law.go:46", #[⟨17, .data⟩, ⟨21, .data⟩, ⟨8, .guard⟩], some (8, false)⟩ ?_; try simp only [Act.put, pz1, pz2, pz3]
                  refine tk 23 ⟨some 92, .binOp .neq 4 (.tmp 81) (.tmp 91) 4, 4, "law.go:46", #[⟨12, .data⟩, ⟨22, .data⟩, ⟨8, .guard⟩], some (8, false)⟩ ?_; try simp only [Act.put, pz1, pz2, pz3]
                  refine tk 24 ⟨some 93, .pick (.tmp 77) (.const (.bool true)) (.tmp 92), 4, "law.go:46", #[⟨8, .data⟩, ⟨23, .data⟩], none⟩ ?_; try simp only [Act.put, pz1, pz2, pz3]
                  refine wpAnyH_done (by kernel_rfl) ?_ _
                  refine NoPanic.normal ?_
                  clear hHeld
                  go_wp2_with fail
                  go_roundw
                  case rel => exact ⟨j + 1, by omega, by go_num, (by first | exact hE | exact hE.drew)⟩
                  case measure => simp [intOf]; omega
                · have HFD := Lib.hid hf
                  have hgz : Hid ((gsL fs a S NA)[j]? = some true) := Lib.hid (by rw [gs_get fs a S jn, hb, hf]; rfl)
                  have HC1 := rcells hE jn hws hgz
                  clear hb hf
                  go_upto_region 17 with fail
                  refine wp_region_noPanic ?_
                  refine wp_region_held_drew (S := (fun w' => w'.cell? ⟨g1, j, none⟩ = some (.int .i64 z) ∧ w'.cell? ⟨g2, j, none⟩ = some (.bool true))) (by kernel_rfl) ?_ (fun hHeld => ?_)
                  · (first | exact HC1 | exact HC2 | exact HC3 | assumption)
                  refine tk 0 ⟨some 69, .move (.tmp 11), 32, "law.go:46", #[], none⟩ ?_; try simp only [Act.put, pz1, pz2, pz3]
                  refine tk 1 ⟨some 70, .move (.tmp 13), 3, "law.go:46", #[], none⟩ ?_; try simp only [Act.put, pz1, pz2, pz3]
                  refine tk 2 ⟨some 71, .indexAddr 32 (.tmp 69) (.tmp 70), 0, "law.go:46", #[⟨0, .data⟩, ⟨1, .data⟩], none⟩ ?_; try simp only [Act.put, pz1, pz2, pz3]
                  refine tk 3 ⟨some 72, .load 3 (.tmp 71), 3, "law.go:46", #[⟨2, .data⟩], none⟩ ?_; try simp only [Act.put, pz1, pz2, pz3]
                  refine tk 4 ⟨some 73, .move (.tmp 9), 26, "law.go:46", #[], none⟩ ?_; try simp only [Act.put, pz1, pz2, pz3]
                  refine tk 5 ⟨some 74, .move (.tmp 13), 3, "law.go:46", #[], none⟩ ?_; try simp only [Act.put, pz1, pz2, pz3]
                  refine wpAnyH_ready (rs := [6]) (by kernel_rfl) (by simp) ?_
                  refine AllReadyH.cons (o := ⟨some 75, .call { callee := .value (.func 11), args := #[.tmp 73, .tmp 74], argTypes := #[26, 3] }, 3, "law.go:46", #[⟨4, .data⟩, ⟨5, .data⟩], none⟩) rfl (fun K hK => ?_) AllReadyH.nil
                  go_simp
                  (first | (go_at_call 11; ((with_reducible refine (wear_k m gx gb AF fs.length cf a b c d e fs j z _ S (by first | exact (hCk.below hE.b) | exact ChipW.drew (hCk.below hE.b)) hja HZ).mono ?_); rintro e' wN ⟨rfl, rfl⟩)) | (go_at_call 12; ((with_reducible refine (bad_v0 m gx gb AF fs.length cf a b c d e fs _ false _ S (by first | exact (hCk.below hE.b) | exact ChipW.drew (hCk.below hE.b)) HBD).mono ?_); rintro e' wB ⟨rfl, hbB⟩; (try have hbB := undrew hbB); replace hE := hE.then hbB; have HC2 := rcells hE jn hws hgz)) | (go_at_call 13; ((with_reducible refine (failed_b m gx gb AF fs.length cf a b c d e fs _ false _ S (by first | exact (hCk.below hE.b) | exact ChipW.drew (hCk.below hE.b)) HFD).mono ?_); rintro e' wF ⟨rfl, hbF⟩; (try have hbF := undrew hbF); replace hE := hE.then hbF; have HC3 := rcells hE jn hws hgz)))
                  go_wp2_with fail
                  refine hK.out _ _ ?_ (fun hNew => ?_)
                  · (first | exact HC1 | exact HC2 | exact HC3 | assumption)
                  clear hK K hHeld
                  have hHeld := hNew
                  clear hNew
                  try simp only [Act.put, pz1, pz2, pz3]
                  refine tk 7 ⟨some 76, .binOp .neq 3 (.tmp 72) (.tmp 75) 3, 4, "law.go:46", #[⟨3, .data⟩, ⟨6, .data⟩], none⟩ ?_; try simp only [Act.put, pz1, pz2, pz3]
                  refine tk 8 ⟨some 77, .move (.tmp 76), 4, "law.go:46", #[⟨7, .data⟩, ⟨6, .chain⟩], none⟩ ?_; try simp only [Act.put, pz1, pz2, pz3]
                  refine tk 9 ⟨some 78, .move (.tmp 12), 33, "law.go:46", #[⟨8, .guard⟩], some (8, false)⟩ ?_; try simp only [Act.put, pz1, pz2, pz3]
                  refine tk 10 ⟨some 79, .move (.tmp 13), 3, "law.go:46", #[⟨8, .guard⟩], some (8, false)⟩ ?_; try simp only [Act.put, pz1, pz2, pz3]
                  refine tk 11 ⟨some 80, .indexAddr 33 (.tmp 78) (.tmp 79), 0, "law.go:46", #[⟨9, .data⟩, ⟨10, .data⟩, ⟨8, .guard⟩], some (8, false)⟩ ?_; try simp only [Act.put, pz1, pz2, pz3]
                  refine tk 12 ⟨some 81, .load 4 (.tmp 80), 4, "law.go:46", #[⟨11, .data⟩, ⟨8, .guard⟩], some (8, false)⟩ ?_; try simp only [Act.put, pz1, pz2, pz3]
                  refine tk 13 ⟨some 82, .move (.tmp 9), 26, "law.go:46", #[⟨8, .guard⟩], some (8, false)⟩ ?_; try simp only [Act.put, pz1, pz2, pz3]
                  refine tk 14 ⟨some 83, .move (.tmp 13), 3, "law.go:46", #[⟨8, .guard⟩], some (8, false)⟩ ?_; try simp only [Act.put, pz1, pz2, pz3]
                  refine wpAnyH_ready (rs := [15]) (by kernel_rfl) (by simp) ?_
                  refine AllReadyH.cons (o := ⟨some 84, .call { callee := .value (.func 12), args := #[.tmp 82, .tmp 83], argTypes := #[26, 3] }, 4, "law.go:46", #[⟨13, .data⟩, ⟨14, .data⟩, ⟨8, .chain⟩, ⟨8, .guard⟩], some (8, false)⟩) rfl (fun K hK => ?_) AllReadyH.nil
                  go_simp
                  (first | (go_at_call 11; ((with_reducible refine (wear_k m gx gb AF fs.length cf a b c d e fs j z _ S (by first | exact (hCk.below hE.b) | exact ChipW.drew (hCk.below hE.b)) hja HZ).mono ?_); rintro e' wN ⟨rfl, rfl⟩)) | (go_at_call 12; ((with_reducible refine (bad_v0 m gx gb AF fs.length cf a b c d e fs _ false _ S (by first | exact (hCk.below hE.b) | exact ChipW.drew (hCk.below hE.b)) HBD).mono ?_); rintro e' wB ⟨rfl, hbB⟩; (try have hbB := undrew hbB); replace hE := hE.then hbB; have HC2 := rcells hE jn hws hgz)) | (go_at_call 13; ((with_reducible refine (failed_b m gx gb AF fs.length cf a b c d e fs _ false _ S (by first | exact (hCk.below hE.b) | exact ChipW.drew (hCk.below hE.b)) HFD).mono ?_); rintro e' wF ⟨rfl, hbF⟩; (try have hbF := undrew hbF); replace hE := hE.then hbF; have HC3 := rcells hE jn hws hgz)))
                  go_wp2_with fail
                  refine hK.out _ _ ?_ (fun hNew => ?_)
                  · (first | exact HC1 | exact HC2 | exact HC3 | assumption)
                  clear hK K hHeld
                  have hHeld := hNew
                  clear hNew
                  try simp only [Act.put, pz1, pz2, pz3]
                  refine tk 16 ⟨some 85, .unOp .not 4 (.tmp 84), 4, "law.go:46", #[⟨15, .data⟩, ⟨8, .guard⟩], some (8, false)⟩ ?_; try simp only [Act.put, pz1, pz2, pz3]
                  refine tk 17 ⟨some 86, .move (.tmp 85), 4, "law.go:46", #[⟨16, .data⟩, ⟨15, .chain⟩, ⟨8, .guard⟩], some (8, false)⟩ ?_; try simp only [Act.put, pz1, pz2, pz3]
                  refine tk 18 ⟨some 87, .move (.tmp 9), 26, "law.go:46", #[⟨17, .guard⟩], some (17, true)⟩ ?_; try simp only [Act.put, pz1, pz2, pz3]
                  refine tk 19 ⟨some 88, .move (.tmp 13), 3, "law.go:46", #[⟨17, .guard⟩], some (17, true)⟩ ?_; try simp only [Act.put, pz1, pz2, pz3]
                  refine wpAnyH_ready (rs := [20]) (by kernel_rfl) (by simp) ?_
                  refine AllReadyH.cons (o := ⟨some 89, .call { callee := .value (.func 13), args := #[.tmp 87, .tmp 88], argTypes := #[26, 3] }, 4, "law.go:46", #[⟨18, .data⟩, ⟨19, .data⟩, ⟨17, .chain⟩, ⟨17, .guard⟩], some (17, true)⟩) rfl (fun K hK => ?_) AllReadyH.nil
                  go_simp
                  (first | (go_at_call 11; ((with_reducible refine (wear_k m gx gb AF fs.length cf a b c d e fs j z _ S (by first | exact (hCk.below hE.b) | exact ChipW.drew (hCk.below hE.b)) hja HZ).mono ?_); rintro e' wN ⟨rfl, rfl⟩)) | (go_at_call 12; ((with_reducible refine (bad_v0 m gx gb AF fs.length cf a b c d e fs _ false _ S (by first | exact (hCk.below hE.b) | exact ChipW.drew (hCk.below hE.b)) HBD).mono ?_); rintro e' wB ⟨rfl, hbB⟩; (try have hbB := undrew hbB); replace hE := hE.then hbB; have HC2 := rcells hE jn hws hgz)) | (go_at_call 13; ((with_reducible refine (failed_b m gx gb AF fs.length cf a b c d e fs _ false _ S (by first | exact (hCk.below hE.b) | exact ChipW.drew (hCk.below hE.b)) HFD).mono ?_); rintro e' wF ⟨rfl, hbF⟩; (try have hbF := undrew hbF); replace hE := hE.then hbF; have HC3 := rcells hE jn hws hgz)))
                  go_wp2_with fail
                  refine hK.out _ _ ?_ (fun hNew => ?_)
                  · (first | exact HC1 | exact HC2 | exact HC3 | assumption)
                  clear hK K hHeld
                  have hHeld := hNew
                  clear hNew
                  try simp only [Act.put, pz1, pz2, pz3]
                  refine tk 21 ⟨some 90, .unOp .not 4 (.tmp 89), 4, "law.go:46", #[⟨20, .data⟩, ⟨17, .guard⟩], some (17, true)⟩ ?_; try simp only [Act.put, pz1, pz2, pz3]
                  refine tk 22 ⟨some 91, .pick (.tmp 86) (.tmp 90) (.const (.bool false)), 4, "law.go:46", #[⟨17, .data⟩, ⟨21, .data⟩, ⟨8, .guard⟩], some (8, false)⟩ ?_; try simp only [Act.put, pz1, pz2, pz3]
                  refine tk 23 ⟨some 92, .binOp .neq 4 (.tmp 81) (.tmp 91) 4, 4, "law.go:46", #[⟨12, .data⟩, ⟨22, .data⟩, ⟨8, .guard⟩], some (8, false)⟩ ?_; try simp only [Act.put, pz1, pz2, pz3]
                  refine tk 24 ⟨some 93, .pick (.tmp 77) (.const (.bool true)) (.tmp 92), 4, "law.go:46", #[⟨8, .data⟩, ⟨23, .data⟩], none⟩ ?_; try simp only [Act.put, pz1, pz2, pz3]
                  refine wpAnyH_done (by kernel_rfl) ?_ _
                  refine NoPanic.normal ?_
                  clear hHeld
                  go_wp2_with fail
                  go_roundw
                  case rel => exact ⟨j + 1, by omega, by go_num, (by first | exact hE | exact hE.drew)⟩
                  case measure => simp [intOf]; omega
            · skip
              have G5 := G4.below hE.b G4.lt
              (try clear y0 y1 y2 y3 y4)
              obtain ⟨y0, y1, y2, y3, y4⟩ := cells5 G5
              go_wp2_with (go_at_call 14; ((with_reducible refine (aspread_any m gx gb AF fs.length cf a b c d e fs NA 700 _ S (hCk.below hE.b) hNA.out (hG.fine) (by omega) SP hF.sp).mono ?_); rintro e' wN ⟨rfl, hbS⟩; replace hE := hE.then hbS))
              go_loopw [15, 16] (fun s15 s16 wr => ∃ (j p : Nat), j ≤ NA ∧ s16 = .int .i64 (j : Int) ∧ s15 = .int .i64 (p : Int) ∧ Hid (badN ((gsL fs a S NA).take j) = p) ∧ Wr W1 wr fs a S NA NA (.slice (some ⟨g1, 0, none⟩) NA c1w) (.slice (some ⟨g2, 0, none⟩) NA c2w)) (fun _ s16 _ => NA - (intOf s16).toNat)
              case atStart => exact ⟨0, 0, Nat.zero_le _, rfl, rfl, Lib.hid rfl, hE⟩
              case round =>
                clear hE G5 y0 y1 y2 y3 y4
                obtain ⟨j, p, hj, rfl, rfl, HP9, hE⟩ := hrel
                have G5 := G4.below hE.b G4.lt
                obtain ⟨y0, y1, y2, y3, y4⟩ := cells5 G5
                have j0 : (0 : Int) ≤ (j : Int) := by omega
                by_cases hja : (j : Int) < a
                · have jn : j < NA := by have := hNA.out; omega
                  have jn1 : (j : Int) < (NA : Int) := by omega
                  obtain ⟨x, hx⟩ : ∃ x, (gsL fs a S NA)[j]? = some x := ⟨_, gs_get fs a S jn⟩
                  have hws : Hid ((wsL S NA)[j]? = some _) := Lib.hid (ws_get S jn)
                  obtain ⟨-, z2⟩ := rcells hE jn hws (Lib.hid hx)
                  have hst := badN_take hx
                  have hle : p ≤ 20 := by
                    have h1 := badN_le ((gsL fs a S NA).take j)
                    rw [HP9.out, List.length_take] at h1
                    omega
                  rw [HP9.out] at hst
                  clear hx hws
                  cases x
                  · have HP2 : Hid (badN ((gsL fs a S NA).take (j + 1)) = p + 1) := Lib.hid (by rw [hst]; rfl)
                    clear hst
                    go_wp2
                    go_roundw
                    case rel => exact ⟨j + 1, p + 1, by omega, by go_num, by go_num, HP2, hE⟩
                    case measure => simp [intOf]; omega
                  · have HP2 : Hid (badN ((gsL fs a S NA).take (j + 1)) = p) := Lib.hid (by rw [hst]; rfl)
                    clear hst
                    go_wp2
                    go_roundw
                    case rel => exact ⟨j + 1, p, by omega, by go_num, rfl, HP2, hE⟩
                    case measure => simp [intOf]; omega
                · have hjn : j = NA := by have := hNA.out; omega
                  have hpF : p = F := by
                    have h1 := HP9.out
                    rw [List.take_of_length_le (by rw [gsL_len]; omega)] at h1
                    rw [← h1]
                    exact hF.bf.out
                  subst hpF
                  have hle : p ≤ 20 := by
                    have h1 := badN_le ((gsL fs a S NA).take j)
                    rw [HP9.out, List.length_take] at h1
                    omega
                  have HLN : Hid ((wsL S NA).length = NA ∧ (gsL fs a S NA).length = NA) := Lib.hid ⟨wsL_len S NA, gsL_len fs a S NA⟩
                  have HWB := wsL_bd hG.fine (by omega) NA
                  obtain ⟨o0, o1, u0, u1, -, -⟩ := hG.fine.bnd
                  have hcu := hF.cu.out
                  obtain ⟨P1, hP1⟩ : ∃ P1 : Int, e + 2 * a = P1 := ⟨_, rfl⟩
                  have hw1 : IntKind.i64.wrap (e + 2 * a) = P1 := by rw [← hP1]; exact wrapI (by omega) (by omega)
                  have hw2 : IntKind.i64.wrap (P1 + cu) = LM := by
                    rw [← hF.lm.out, hcu, hP1]
                    exact wrapI (by omega) (by omega)
                  clear hcu hP1 o0 o1 u0 u1 HP9
                  by_cases hSL : LM < SP
                  · by_cases hFd : (p : Int) ≤ d
                    · skip
                      go_upto_region 30 with (first | (go_at_call 15; ((with_reducible refine (alimit_any m gx gb AF fs.length cf a b c d e fs 700 _ S (by first | exact (hCk.below hE.b) | exact ChipW.drew (hCk.below hE.b)) hG.fine (by omega) LM hF.lm).mono ?_); rintro e' wN ⟨rfl, hbL⟩; (try have hbL := undrew hbL); replace hE := hE.then hbL; (try clear y0 y1 y2 y3 y4); obtain ⟨y0, y1, y2, y3, y4⟩ := cells5 (G4.below hE.b G4.lt))) | (go_at_call 16; ((with_reducible refine (overI_any (some ⟨g1, 0, none⟩) NA c1w _ _ _ hE.r1 hE.b.size (by omega)).mono ?_); rintro e' wN ⟨⟨v9, rfl⟩, hgO⟩; skip)))
                      have HBO : Below w.heap.size w wN := HBW.trans ((hE.b.grown hgO hE.b.size (fun g hg => by cases hg; omega)).mono HBW.size)
                      have hCO : ChipW wN m gx gb AF fs.length cf a b c d e fs S := hCk.below (hE.b.grown hgO hE.b.size (fun g hg => by cases hg; omega))
                      have R2O := own_kept2 hE.r2 hgO (apart_sym hE.ap)
                      have GO := G4.below (hE.b.grown hgO hE.b.size (fun g hg => by cases hg; omega)) G4.lt
                      have HY := cells5 GO
                      obtain ⟨wO, hwO⟩ : ∃ V : World, V = wN := ⟨_, rfl⟩
                      rw [← hwO] at hCO R2O GO HY HBO ⊢
                      clear hwO hgO hE y0 y1 y2 y3 y4
                      have hBo : Below wO.heap.size wO wO := Below.refl _ _
                      refine wp_region_noPanic ?_
                      refine wp_region_held_drew (S := (fun w' => w'.cell? ⟨w.heap.size, 0, none⟩ = some (.int .i64 a) ∧ w'.cell? ⟨w.heap.size, 1, none⟩ = some (.int .i64 b) ∧ w'.cell? ⟨w.heap.size, 2, none⟩ = some (.int .i64 c) ∧ w'.cell? ⟨w.heap.size, 3, none⟩ = some (.int .i64 d) ∧ w'.cell? ⟨w.heap.size, 4, none⟩ = some (.int .i64 e))) (by kernel_rfl) ?_ (fun hHeld => ?_)
                      · (first | exact HY | exact HY2 | exact HY3 | exact HY4 | assumption)
                      refine tk 0 ⟨some 121, .move (.tmp 14), 3, "law.go:62", #[], none⟩ ?_; try simp only [Act.put, pz1, pz2, pz3]
                      refine tk 1 ⟨some 122, .move (.tmp 9), 26, "law.go:62", #[], none⟩ ?_; try simp only [Act.put, pz1, pz2, pz3]
                      refine tk 3 ⟨some 124, .move (.tmp 12), 33, "law.go:62", #[], none⟩ ?_; try simp only [Act.put, pz1, pz2, pz3]
                      refine wpAnyH_ready (rs := [2]) (by kernel_rfl) (by simp) ?_
                      refine AllReadyH.cons (o := ⟨some 123, .call { callee := .value (.func 18), args := #[.tmp 122], argTypes := #[26] }, 32, "law.go:62", #[⟨1, .data⟩], none⟩) rfl (fun K hK => ?_) AllReadyH.nil
                      go_simp
                      (first | (go_at_call 18; ((with_reducible refine (lwears_any m gx gb AF fs.length cf a b c d e fs NA _ S (by first | exact hCO.likeB hBo | exact ChipW.drew (hCO.likeB hBo)) hNA.out).mono ?_); rintro e' wN ⟨⟨A7, c7, rfl, hs7⟩, hb⟩; (try have hb := undrew hb); replace hBo := btr hBo hBo.size hb; have HY2 := cells5 (GO.below hBo GO.lt))) | (go_at_call 17; ((with_reducible refine (rspread_v _ _ NA NA HLN A7 (some ⟨g2, 0, none⟩) c7 c2w _ SP hF.sp hs7 (Sl.of_own (own_belowA R2O hBo)) (by omega) (by omega) HWB).mono ?_); rintro e' wN ⟨rfl, hb⟩; replace hBo := btr hBo hBo.size hb; have HY2 := cells5 (GO.below hBo GO.lt))) | (go_at_call 15; ((with_reducible refine (alimit_any m gx gb AF fs.length cf a b c d e fs 700 _ S (by first | exact hCO.likeB hBo | exact ChipW.drew (hCO.likeB hBo)) hG.fine (by omega) LM hF.lm).mono ?_); rintro e' wN ⟨rfl, hb⟩; (try have hb := undrew hb); replace hBo := btr hBo hBo.size hb; have HY2 := cells5 (GO.below hBo GO.lt))) | (go_at_call 19; ((with_reducible refine (slack_v a b c d e _ HM).mono ?_); rintro e' wN ⟨rfl, hb⟩; (try have hb := undrew hb); replace hBo := btr hBo hBo.size hb; have HY2 := cells5 (GO.below hBo GO.lt))) | (go_at_call 20; ((with_reducible refine (cuts_v m gx gb AF fs.length cf a b c d e fs cu _ S (by first | exact hCO.likeB hBo | exact ChipW.drew (hCO.likeB hBo)) hF.cu).mono ?_); rintro e' wN ⟨rfl, rfl⟩; skip)) | (go_at_call 21; ((with_reducible refine (why_wear m gx gb AF fs.length cf a b c d e fs NA NB 700 acc _ S S1 (by first | exact hCO.likeB hBo | exact ChipW.drew (hCO.likeB hBo)) hG (by omega) hF.b8 hF.on hNA hNB hF.w 0 hF.f (by omega) hF.ok hF.du SP LM hF.sp1 hF.lm1 (by omega) p hF.bf1 (by omega)).mono ?_); rintro e' wN ⟨rfl, -, hT8, -⟩; have G8 := hT8.blk (GO.below hBo GO.lt) hnb; have HY3 := cells5 G8)) | (go_at_call 5; ((with_reducible refine (awake23 _).mono ?_); rintro e' wN ⟨rfl, hbZ⟩; have HY4 := cells5 (G8.below hbZ G8.lt))))
                      go_wp2_with fail
                      refine hK.out _ _ ?_ (fun hNew => ?_)
                      · (first | exact HY | exact HY2 | exact HY3 | exact HY4 | assumption)
                      clear hK K hHeld
                      have hHeld := hNew
                      clear hNew
                      try simp only [Act.put, pz1, pz2, pz3]
                      refine wpAnyH_ready (rs := [4]) (by kernel_rfl) (by simp) ?_
                      refine AllReadyH.cons (o := ⟨some 125, .call { callee := .value (.func 17), args := #[.tmp 123, .tmp 124], argTypes := #[32, 33] }, 3, "law.go:62", #[⟨2, .data⟩, ⟨3, .data⟩, ⟨2, .chain⟩], none⟩) rfl (fun K hK => ?_) AllReadyH.nil
                      go_simp
                      (first | (go_at_call 18; ((with_reducible refine (lwears_any m gx gb AF fs.length cf a b c d e fs NA _ S (by first | exact hCO.likeB hBo | exact ChipW.drew (hCO.likeB hBo)) hNA.out).mono ?_); rintro e' wN ⟨⟨A7, c7, rfl, hs7⟩, hb⟩; (try have hb := undrew hb); replace hBo := btr hBo hBo.size hb; have HY2 := cells5 (GO.below hBo GO.lt))) | (go_at_call 17; ((with_reducible refine (rspread_v _ _ NA NA HLN A7 (some ⟨g2, 0, none⟩) c7 c2w _ SP hF.sp hs7 (Sl.of_own (own_belowA R2O hBo)) (by omega) (by omega) HWB).mono ?_); rintro e' wN ⟨rfl, hb⟩; replace hBo := btr hBo hBo.size hb; have HY2 := cells5 (GO.below hBo GO.lt))) | (go_at_call 15; ((with_reducible refine (alimit_any m gx gb AF fs.length cf a b c d e fs 700 _ S (by first | exact hCO.likeB hBo | exact ChipW.drew (hCO.likeB hBo)) hG.fine (by omega) LM hF.lm).mono ?_); rintro e' wN ⟨rfl, hb⟩; (try have hb := undrew hb); replace hBo := btr hBo hBo.size hb; have HY2 := cells5 (GO.below hBo GO.lt))) | (go_at_call 19; ((with_reducible refine (slack_v a b c d e _ HM).mono ?_); rintro e' wN ⟨rfl, hb⟩; (try have hb := undrew hb); replace hBo := btr hBo hBo.size hb; have HY2 := cells5 (GO.below hBo GO.lt))) | (go_at_call 20; ((with_reducible refine (cuts_v m gx gb AF fs.length cf a b c d e fs cu _ S (by first | exact hCO.likeB hBo | exact ChipW.drew (hCO.likeB hBo)) hF.cu).mono ?_); rintro e' wN ⟨rfl, rfl⟩; skip)) | (go_at_call 21; ((with_reducible refine (why_wear m gx gb AF fs.length cf a b c d e fs NA NB 700 acc _ S S1 (by first | exact hCO.likeB hBo | exact ChipW.drew (hCO.likeB hBo)) hG (by omega) hF.b8 hF.on hNA hNB hF.w 0 hF.f (by omega) hF.ok hF.du SP LM hF.sp1 hF.lm1 (by omega) p hF.bf1 (by omega)).mono ?_); rintro e' wN ⟨rfl, -, hT8, -⟩; have G8 := hT8.blk (GO.below hBo GO.lt) hnb; have HY3 := cells5 G8)) | (go_at_call 5; ((with_reducible refine (awake23 _).mono ?_); rintro e' wN ⟨rfl, hbZ⟩; have HY4 := cells5 (G8.below hbZ G8.lt))))
                      go_wp2_with fail
                      refine hK.out _ _ ?_ (fun hNew => ?_)
                      · (first | exact HY | exact HY2 | exact HY3 | exact HY4 | assumption)
                      clear hK K hHeld
                      have hHeld := hNew
                      clear hNew
                      try simp only [Act.put, pz1, pz2, pz3]
                      refine tk 5 ⟨some 126, .binOp .eql 3 (.tmp 121) (.tmp 125) 3, 4, "law.go:62", #[⟨0, .data⟩, ⟨4, .data⟩], none⟩ ?_; try simp only [Act.put, pz1, pz2, pz3]
                      refine tk 6 ⟨some 127, .move (.tmp 126), 4, "law.go:62", #[⟨5, .data⟩, ⟨4, .chain⟩], none⟩ ?_; try simp only [Act.put, pz1, pz2, pz3]
                      refine tk 7 ⟨some 128, .move (.tmp 9), 26, "law.go:62", #[⟨6, .guard⟩], some (6, true)⟩ ?_; try simp only [Act.put, pz1, pz2, pz3]
                      refine tk 9 ⟨some 130, .fieldAddr 23 (.tmp 4) 4, 0, "law.go:62", #[⟨6, .guard⟩], some (6, true)⟩ ?_; try simp only [Act.put, pz1, pz2, pz3]
                      refine tk 10 ⟨some 131, .load 3 (.tmp 130), 3, "law.go:62", #[⟨9, .data⟩, ⟨6, .guard⟩], some (6, true)⟩ ?_; try simp only [Act.put, pz1, pz2, pz3]
                      refine tk 11 ⟨some 132, .load 23 (.tmp 4), 23, "law.go:62", #[⟨6, .guard⟩], some (6, true)⟩ ?_; try simp only [Act.put, pz1, pz2, pz3]
                      refine tk 14 ⟨some 135, .move (.tmp 9), 26, "law.go:62", #[⟨6, .guard⟩], some (6, true)⟩ ?_; try simp only [Act.put, pz1, pz2, pz3]
                      refine wpAnyH_ready (rs := [8]) (by kernel_rfl) (by simp) ?_
                      refine AllReadyH.cons (o := ⟨some 129, .call { callee := .value (.func 15), args := #[.tmp 128], argTypes := #[26] }, 3, "law.go:62", #[⟨7, .data⟩, ⟨6, .chain⟩, ⟨6, .guard⟩], some (6, true)⟩) rfl (fun K hK => ?_) AllReadyH.nil
                      go_simp
                      (first | (go_at_call 18; ((with_reducible refine (lwears_any m gx gb AF fs.length cf a b c d e fs NA _ S (by first | exact hCO.likeB hBo | exact ChipW.drew (hCO.likeB hBo)) hNA.out).mono ?_); rintro e' wN ⟨⟨A7, c7, rfl, hs7⟩, hb⟩; (try have hb := undrew hb); replace hBo := btr hBo hBo.size hb; have HY2 := cells5 (GO.below hBo GO.lt))) | (go_at_call 17; ((with_reducible refine (rspread_v _ _ NA NA HLN A7 (some ⟨g2, 0, none⟩) c7 c2w _ SP hF.sp hs7 (Sl.of_own (own_belowA R2O hBo)) (by omega) (by omega) HWB).mono ?_); rintro e' wN ⟨rfl, hb⟩; replace hBo := btr hBo hBo.size hb; have HY2 := cells5 (GO.below hBo GO.lt))) | (go_at_call 15; ((with_reducible refine (alimit_any m gx gb AF fs.length cf a b c d e fs 700 _ S (by first | exact hCO.likeB hBo | exact ChipW.drew (hCO.likeB hBo)) hG.fine (by omega) LM hF.lm).mono ?_); rintro e' wN ⟨rfl, hb⟩; (try have hb := undrew hb); replace hBo := btr hBo hBo.size hb; have HY2 := cells5 (GO.below hBo GO.lt))) | (go_at_call 19; ((with_reducible refine (slack_v a b c d e _ HM).mono ?_); rintro e' wN ⟨rfl, hb⟩; (try have hb := undrew hb); replace hBo := btr hBo hBo.size hb; have HY2 := cells5 (GO.below hBo GO.lt))) | (go_at_call 20; ((with_reducible refine (cuts_v m gx gb AF fs.length cf a b c d e fs cu _ S (by first | exact hCO.likeB hBo | exact ChipW.drew (hCO.likeB hBo)) hF.cu).mono ?_); rintro e' wN ⟨rfl, rfl⟩; skip)) | (go_at_call 21; ((with_reducible refine (why_wear m gx gb AF fs.length cf a b c d e fs NA NB 700 acc _ S S1 (by first | exact hCO.likeB hBo | exact ChipW.drew (hCO.likeB hBo)) hG (by omega) hF.b8 hF.on hNA hNB hF.w 0 hF.f (by omega) hF.ok hF.du SP LM hF.sp1 hF.lm1 (by omega) p hF.bf1 (by omega)).mono ?_); rintro e' wN ⟨rfl, -, hT8, -⟩; have G8 := hT8.blk (GO.below hBo GO.lt) hnb; have HY3 := cells5 G8)) | (go_at_call 5; ((with_reducible refine (awake23 _).mono ?_); rintro e' wN ⟨rfl, hbZ⟩; have HY4 := cells5 (G8.below hbZ G8.lt))))
                      go_wp2_with fail
                      refine hK.out _ _ ?_ (fun hNew => ?_)
                      · (first | exact HY | exact HY2 | exact HY3 | exact HY4 | assumption)
                      clear hK K hHeld
                      have hHeld := hNew
                      clear hNew
                      try simp only [Act.put, pz1, pz2, pz3]
                      refine wpAnyH_ready (rs := [12]) (by kernel_rfl) (by simp) ?_
                      refine AllReadyH.cons (o := ⟨some 133, .call { callee := .value (.func 19), args := #[.tmp 132], argTypes := #[23] }, 3, "law.go:62", #[⟨11, .data⟩, ⟨8, .chain⟩, ⟨6, .guard⟩], some (6, true)⟩) rfl (fun K hK => ?_) AllReadyH.nil
                      go_simp
                      (first | (go_at_call 18; ((with_reducible refine (lwears_any m gx gb AF fs.length cf a b c d e fs NA _ S (by first | exact hCO.likeB hBo | exact ChipW.drew (hCO.likeB hBo)) hNA.out).mono ?_); rintro e' wN ⟨⟨A7, c7, rfl, hs7⟩, hb⟩; (try have hb := undrew hb); replace hBo := btr hBo hBo.size hb; have HY2 := cells5 (GO.below hBo GO.lt))) | (go_at_call 17; ((with_reducible refine (rspread_v _ _ NA NA HLN A7 (some ⟨g2, 0, none⟩) c7 c2w _ SP hF.sp hs7 (Sl.of_own (own_belowA R2O hBo)) (by omega) (by omega) HWB).mono ?_); rintro e' wN ⟨rfl, hb⟩; replace hBo := btr hBo hBo.size hb; have HY2 := cells5 (GO.below hBo GO.lt))) | (go_at_call 15; ((with_reducible refine (alimit_any m gx gb AF fs.length cf a b c d e fs 700 _ S (by first | exact hCO.likeB hBo | exact ChipW.drew (hCO.likeB hBo)) hG.fine (by omega) LM hF.lm).mono ?_); rintro e' wN ⟨rfl, hb⟩; (try have hb := undrew hb); replace hBo := btr hBo hBo.size hb; have HY2 := cells5 (GO.below hBo GO.lt))) | (go_at_call 19; ((with_reducible refine (slack_v a b c d e _ HM).mono ?_); rintro e' wN ⟨rfl, hb⟩; (try have hb := undrew hb); replace hBo := btr hBo hBo.size hb; have HY2 := cells5 (GO.below hBo GO.lt))) | (go_at_call 20; ((with_reducible refine (cuts_v m gx gb AF fs.length cf a b c d e fs cu _ S (by first | exact hCO.likeB hBo | exact ChipW.drew (hCO.likeB hBo)) hF.cu).mono ?_); rintro e' wN ⟨rfl, rfl⟩; skip)) | (go_at_call 21; ((with_reducible refine (why_wear m gx gb AF fs.length cf a b c d e fs NA NB 700 acc _ S S1 (by first | exact hCO.likeB hBo | exact ChipW.drew (hCO.likeB hBo)) hG (by omega) hF.b8 hF.on hNA hNB hF.w 0 hF.f (by omega) hF.ok hF.du SP LM hF.sp1 hF.lm1 (by omega) p hF.bf1 (by omega)).mono ?_); rintro e' wN ⟨rfl, -, hT8, -⟩; have G8 := hT8.blk (GO.below hBo GO.lt) hnb; have HY3 := cells5 G8)) | (go_at_call 5; ((with_reducible refine (awake23 _).mono ?_); rintro e' wN ⟨rfl, hbZ⟩; have HY4 := cells5 (G8.below hbZ G8.lt))))
                      go_wp2_with fail
                      refine hK.out _ _ ?_ (fun hNew => ?_)
                      · (first | exact HY | exact HY2 | exact HY3 | exact HY4 | assumption)
                      clear hK K hHeld
                      have hHeld := hNew
                      clear hNew
                      try simp only [Act.put, pz1, pz2, pz3]
                      refine tk 13 ⟨some 134, .binOp .add 3 (.tmp 131) (.tmp 133) 3, 3, "law.go:62", #[⟨10, .data⟩, ⟨12, .data⟩, ⟨6, .guard⟩], some (6, true)⟩ ?_; try simp only [Act.put, pz1, pz2, pz3]
                      refine wpAnyH_ready (rs := [15]) (by kernel_rfl) (by simp) ?_
                      refine AllReadyH.cons (o := ⟨some 136, .call { callee := .value (.func 20), args := #[.tmp 135], argTypes := #[26] }, 3, "law.go:62", #[⟨14, .data⟩, ⟨12, .chain⟩, ⟨6, .guard⟩], some (6, true)⟩) rfl (fun K hK => ?_) AllReadyH.nil
                      go_simp
                      (first | (go_at_call 18; ((with_reducible refine (lwears_any m gx gb AF fs.length cf a b c d e fs NA _ S (by first | exact hCO.likeB hBo | exact ChipW.drew (hCO.likeB hBo)) hNA.out).mono ?_); rintro e' wN ⟨⟨A7, c7, rfl, hs7⟩, hb⟩; (try have hb := undrew hb); replace hBo := btr hBo hBo.size hb; have HY2 := cells5 (GO.below hBo GO.lt))) | (go_at_call 17; ((with_reducible refine (rspread_v _ _ NA NA HLN A7 (some ⟨g2, 0, none⟩) c7 c2w _ SP hF.sp hs7 (Sl.of_own (own_belowA R2O hBo)) (by omega) (by omega) HWB).mono ?_); rintro e' wN ⟨rfl, hb⟩; replace hBo := btr hBo hBo.size hb; have HY2 := cells5 (GO.below hBo GO.lt))) | (go_at_call 15; ((with_reducible refine (alimit_any m gx gb AF fs.length cf a b c d e fs 700 _ S (by first | exact hCO.likeB hBo | exact ChipW.drew (hCO.likeB hBo)) hG.fine (by omega) LM hF.lm).mono ?_); rintro e' wN ⟨rfl, hb⟩; (try have hb := undrew hb); replace hBo := btr hBo hBo.size hb; have HY2 := cells5 (GO.below hBo GO.lt))) | (go_at_call 19; ((with_reducible refine (slack_v a b c d e _ HM).mono ?_); rintro e' wN ⟨rfl, hb⟩; (try have hb := undrew hb); replace hBo := btr hBo hBo.size hb; have HY2 := cells5 (GO.below hBo GO.lt))) | (go_at_call 20; ((with_reducible refine (cuts_v m gx gb AF fs.length cf a b c d e fs cu _ S (by first | exact hCO.likeB hBo | exact ChipW.drew (hCO.likeB hBo)) hF.cu).mono ?_); rintro e' wN ⟨rfl, rfl⟩; skip)) | (go_at_call 21; ((with_reducible refine (why_wear m gx gb AF fs.length cf a b c d e fs NA NB 700 acc _ S S1 (by first | exact hCO.likeB hBo | exact ChipW.drew (hCO.likeB hBo)) hG (by omega) hF.b8 hF.on hNA hNB hF.w 0 hF.f (by omega) hF.ok hF.du SP LM hF.sp1 hF.lm1 (by omega) p hF.bf1 (by omega)).mono ?_); rintro e' wN ⟨rfl, -, hT8, -⟩; have G8 := hT8.blk (GO.below hBo GO.lt) hnb; have HY3 := cells5 G8)) | (go_at_call 5; ((with_reducible refine (awake23 _).mono ?_); rintro e' wN ⟨rfl, hbZ⟩; have HY4 := cells5 (G8.below hbZ G8.lt))))
                      go_wp2_with fail
                      refine hK.out _ _ ?_ (fun hNew => ?_)
                      · (first | exact HY | exact HY2 | exact HY3 | exact HY4 | assumption)
                      clear hK K hHeld
                      have hHeld := hNew
                      clear hNew
                      try simp only [Act.put, pz1, pz2, pz3]
                      refine tk 16 ⟨some 137, .binOp .add 3 (.tmp 134) (.tmp 136) 3, 3, "law.go:62", #[⟨13, .data⟩, ⟨15, .data⟩, ⟨6, .guard⟩], some (6, true)⟩ ?_; try simp only [Act.put, pz1, pz2, pz3]
                      refine tk 17 ⟨some 138, .binOp .eql 3 (.tmp 129) (.tmp 137) 3, 4, "law.go:62", #[⟨8, .data⟩, ⟨16, .data⟩, ⟨6, .guard⟩], some (6, true)⟩ ?_; try simp only [Act.put, pz1, pz2, pz3]
                      refine tk 18 ⟨some 139, .pick (.tmp 127) (.tmp 138) (.const (.bool false)), 4, "law.go:62", #[⟨6, .data⟩, ⟨17, .data⟩], none⟩ ?_; try simp only [Act.put, pz1, pz2, pz3]
                      refine tk 19 ⟨some 140, .move (.tmp 139), 4, "law.go:62", #[⟨18, .data⟩, ⟨15, .chain⟩], none⟩ ?_; try simp only [Act.put, pz1, pz2, pz3]
                      refine tk 20 ⟨some 141, .move (.tmp 9), 26, "law.go:62", #[⟨19, .guard⟩], some (19, true)⟩ ?_; try simp only [Act.put, pz1, pz2, pz3]
                      refine tk 22 ⟨some 143, .move (.tmp 17), 9, "law.go:62", #[⟨19, .guard⟩], some (19, true)⟩ ?_; try simp only [Act.put, pz1, pz2, pz3]
                      refine wpAnyH_ready (rs := [21]) (by kernel_rfl) (by simp) ?_
                      refine AllReadyH.cons (o := ⟨some 142, .call { callee := .value (.func 21), args := #[.tmp 141], argTypes := #[26] }, 9, "law.go:62", #[⟨20, .data⟩, ⟨19, .chain⟩, ⟨19, .guard⟩], some (19, true)⟩) rfl (fun K hK => ?_) AllReadyH.nil
                      go_simp
                      (first | (go_at_call 18; ((with_reducible refine (lwears_any m gx gb AF fs.length cf a b c d e fs NA _ S (by first | exact hCO.likeB hBo | exact ChipW.drew (hCO.likeB hBo)) hNA.out).mono ?_); rintro e' wN ⟨⟨A7, c7, rfl, hs7⟩, hb⟩; (try have hb := undrew hb); replace hBo := btr hBo hBo.size hb; have HY2 := cells5 (GO.below hBo GO.lt))) | (go_at_call 17; ((with_reducible refine (rspread_v _ _ NA NA HLN A7 (some ⟨g2, 0, none⟩) c7 c2w _ SP hF.sp hs7 (Sl.of_own (own_belowA R2O hBo)) (by omega) (by omega) HWB).mono ?_); rintro e' wN ⟨rfl, hb⟩; replace hBo := btr hBo hBo.size hb; have HY2 := cells5 (GO.below hBo GO.lt))) | (go_at_call 15; ((with_reducible refine (alimit_any m gx gb AF fs.length cf a b c d e fs 700 _ S (by first | exact hCO.likeB hBo | exact ChipW.drew (hCO.likeB hBo)) hG.fine (by omega) LM hF.lm).mono ?_); rintro e' wN ⟨rfl, hb⟩; (try have hb := undrew hb); replace hBo := btr hBo hBo.size hb; have HY2 := cells5 (GO.below hBo GO.lt))) | (go_at_call 19; ((with_reducible refine (slack_v a b c d e _ HM).mono ?_); rintro e' wN ⟨rfl, hb⟩; (try have hb := undrew hb); replace hBo := btr hBo hBo.size hb; have HY2 := cells5 (GO.below hBo GO.lt))) | (go_at_call 20; ((with_reducible refine (cuts_v m gx gb AF fs.length cf a b c d e fs cu _ S (by first | exact hCO.likeB hBo | exact ChipW.drew (hCO.likeB hBo)) hF.cu).mono ?_); rintro e' wN ⟨rfl, rfl⟩; skip)) | (go_at_call 21; ((with_reducible refine (why_wear m gx gb AF fs.length cf a b c d e fs NA NB 700 acc _ S S1 (by first | exact hCO.likeB hBo | exact ChipW.drew (hCO.likeB hBo)) hG (by omega) hF.b8 hF.on hNA hNB hF.w 0 hF.f (by omega) hF.ok hF.du SP LM hF.sp1 hF.lm1 (by omega) p hF.bf1 (by omega)).mono ?_); rintro e' wN ⟨rfl, -, hT8, -⟩; have G8 := hT8.blk (GO.below hBo GO.lt) hnb; have HY3 := cells5 G8)) | (go_at_call 5; ((with_reducible refine (awake23 _).mono ?_); rintro e' wN ⟨rfl, hbZ⟩; have HY4 := cells5 (G8.below hbZ G8.lt))))
                      go_wp2_with fail
                      refine hK.out _ _ ?_ (fun hNew => ?_)
                      · (first | exact HY | exact HY2 | exact HY3 | exact HY4 | assumption)
                      clear hK K hHeld
                      have hHeld := hNew
                      clear hNew
                      try simp only [Act.put, pz1, pz2, pz3]
                      refine tk 23 ⟨some 144, .binOp .eql 9 (.tmp 142) (.tmp 143) 9, 4, "law.go:62", #[⟨21, .data⟩, ⟨22, .data⟩, ⟨19, .guard⟩], some (19, true)⟩ ?_; try simp only [Act.put, pz1, pz2, pz3]
                      refine tk 24 ⟨some 145, .pick (.tmp 140) (.tmp 144) (.const (.bool false)), 4, "law.go:62", #[⟨19, .data⟩, ⟨23, .data⟩], none⟩ ?_; try simp only [Act.put, pz1, pz2, pz3]
                      refine tk 25 ⟨some 146, .move (.tmp 145), 4, "law.go:62", #[⟨24, .data⟩, ⟨21, .chain⟩], none⟩ ?_; try simp only [Act.put, pz1, pz2, pz3]
                      refine wpAnyH_ready (rs := [26]) (by kernel_rfl) (by simp) ?_
                      refine AllReadyH.cons (o := ⟨some 147, .call { callee := .value (.func 5), args := #[], argTypes := #[] }, 4, "law.go:62", #[⟨25, .chain⟩, ⟨25, .guard⟩], some (25, true)⟩) rfl (fun K hK => ?_) AllReadyH.nil
                      go_simp
                      (first | (go_at_call 18; ((with_reducible refine (lwears_any m gx gb AF fs.length cf a b c d e fs NA _ S (by first | exact hCO.likeB hBo | exact ChipW.drew (hCO.likeB hBo)) hNA.out).mono ?_); rintro e' wN ⟨⟨A7, c7, rfl, hs7⟩, hb⟩; (try have hb := undrew hb); replace hBo := btr hBo hBo.size hb; have HY2 := cells5 (GO.below hBo GO.lt))) | (go_at_call 17; ((with_reducible refine (rspread_v _ _ NA NA HLN A7 (some ⟨g2, 0, none⟩) c7 c2w _ SP hF.sp hs7 (Sl.of_own (own_belowA R2O hBo)) (by omega) (by omega) HWB).mono ?_); rintro e' wN ⟨rfl, hb⟩; replace hBo := btr hBo hBo.size hb; have HY2 := cells5 (GO.below hBo GO.lt))) | (go_at_call 15; ((with_reducible refine (alimit_any m gx gb AF fs.length cf a b c d e fs 700 _ S (by first | exact hCO.likeB hBo | exact ChipW.drew (hCO.likeB hBo)) hG.fine (by omega) LM hF.lm).mono ?_); rintro e' wN ⟨rfl, hb⟩; (try have hb := undrew hb); replace hBo := btr hBo hBo.size hb; have HY2 := cells5 (GO.below hBo GO.lt))) | (go_at_call 19; ((with_reducible refine (slack_v a b c d e _ HM).mono ?_); rintro e' wN ⟨rfl, hb⟩; (try have hb := undrew hb); replace hBo := btr hBo hBo.size hb; have HY2 := cells5 (GO.below hBo GO.lt))) | (go_at_call 20; ((with_reducible refine (cuts_v m gx gb AF fs.length cf a b c d e fs cu _ S (by first | exact hCO.likeB hBo | exact ChipW.drew (hCO.likeB hBo)) hF.cu).mono ?_); rintro e' wN ⟨rfl, rfl⟩; skip)) | (go_at_call 21; ((with_reducible refine (why_wear m gx gb AF fs.length cf a b c d e fs NA NB 700 acc _ S S1 (by first | exact hCO.likeB hBo | exact ChipW.drew (hCO.likeB hBo)) hG (by omega) hF.b8 hF.on hNA hNB hF.w 0 hF.f (by omega) hF.ok hF.du SP LM hF.sp1 hF.lm1 (by omega) p hF.bf1 (by omega)).mono ?_); rintro e' wN ⟨rfl, -, hT8, -⟩; have G8 := hT8.blk (GO.below hBo GO.lt) hnb; have HY3 := cells5 G8)) | (go_at_call 5; ((with_reducible refine (awake23 _).mono ?_); rintro e' wN ⟨rfl, hbZ⟩; have HY4 := cells5 (G8.below hbZ G8.lt))))
                      go_wp2_with fail
                      refine hK.out _ _ ?_ (fun hNew => ?_)
                      · (first | exact HY | exact HY2 | exact HY3 | exact HY4 | assumption)
                      clear hK K hHeld
                      have hHeld := hNew
                      clear hNew
                      try simp only [Act.put, pz1, pz2, pz3]
                      refine tk 27 ⟨some 148, .pick (.tmp 146) (.tmp 147) (.const (.bool false)), 4, "law.go:62", #[⟨25, .data⟩, ⟨26, .data⟩], none⟩ ?_; try simp only [Act.put, pz1, pz2, pz3]
                      refine tk 28 ⟨some 8, .assign (.tmp 148), 4, "law.go:62", #[⟨27, .data⟩, ⟨26, .chain⟩, ⟨0, .phase⟩, ⟨1, .phase⟩, ⟨2, .phase⟩, ⟨3, .phase⟩, ⟨4, .phase⟩, ⟨5, .phase⟩, ⟨6, .phase⟩, ⟨7, .phase⟩, ⟨8, .phase⟩, ⟨9, .phase⟩, ⟨10, .phase⟩, ⟨11, .phase⟩, ⟨12, .phase⟩, ⟨13, .phase⟩, ⟨14, .phase⟩, ⟨15, .phase⟩, ⟨16, .phase⟩, ⟨17, .phase⟩, ⟨18, .phase⟩, ⟨19, .phase⟩, ⟨20, .phase⟩, ⟨21, .phase⟩, ⟨22, .phase⟩, ⟨23, .phase⟩, ⟨24, .phase⟩, ⟨25, .phase⟩, ⟨26, .phase⟩, ⟨27, .phase⟩], none⟩ ?_; try simp only [Act.put, pz1, pz2, pz3]
                      refine wpAnyH_done (by kernel_rfl) ?_ _
                      refine NoPanic.normal ?_
                      clear hHeld
                      go_wp2_with fail
                      go_ret
                      have hF2 := HBO.trans ((hBo.mono HBO.size).trans (hT8.below (by have := HBO.size; have := hBo.size; omega) (fun g hg => Nat.le_of_lt (hlow g hg))))
                      exact ⟨rfl, btr hF2 hF2.size hbZ⟩
                    · skip
                      go_upto_region 30 with (first | (go_at_call 15; ((with_reducible refine (alimit_any m gx gb AF fs.length cf a b c d e fs 700 _ S (by first | exact (hCk.below hE.b) | exact ChipW.drew (hCk.below hE.b)) hG.fine (by omega) LM hF.lm).mono ?_); rintro e' wN ⟨rfl, hbL⟩; (try have hbL := undrew hbL); replace hE := hE.then hbL; (try clear y0 y1 y2 y3 y4); obtain ⟨y0, y1, y2, y3, y4⟩ := cells5 (G4.below hE.b G4.lt))) | (go_at_call 16; ((with_reducible refine (overI_any (some ⟨g1, 0, none⟩) NA c1w _ _ _ hE.r1 hE.b.size (by omega)).mono ?_); rintro e' wN ⟨⟨v9, rfl⟩, hgO⟩; skip)))
                      have HBO : Below w.heap.size w wN := HBW.trans ((hE.b.grown hgO hE.b.size (fun g hg => by cases hg; omega)).mono HBW.size)
                      have hCO : ChipW wN m gx gb AF fs.length cf a b c d e fs S := hCk.below (hE.b.grown hgO hE.b.size (fun g hg => by cases hg; omega))
                      have R2O := own_kept2 hE.r2 hgO (apart_sym hE.ap)
                      have GO := G4.below (hE.b.grown hgO hE.b.size (fun g hg => by cases hg; omega)) G4.lt
                      have HY := cells5 GO
                      obtain ⟨wO, hwO⟩ : ∃ V : World, V = wN := ⟨_, rfl⟩
                      rw [← hwO] at hCO R2O GO HY HBO ⊢
                      clear hwO hgO hE y0 y1 y2 y3 y4
                      have hBo : Below wO.heap.size wO wO := Below.refl _ _
                      refine wp_region_noPanic ?_
                      refine wp_region_held_drew (S := (fun w' => w'.cell? ⟨w.heap.size, 0, none⟩ = some (.int .i64 a) ∧ w'.cell? ⟨w.heap.size, 1, none⟩ = some (.int .i64 b) ∧ w'.cell? ⟨w.heap.size, 2, none⟩ = some (.int .i64 c) ∧ w'.cell? ⟨w.heap.size, 3, none⟩ = some (.int .i64 d) ∧ w'.cell? ⟨w.heap.size, 4, none⟩ = some (.int .i64 e))) (by kernel_rfl) ?_ (fun hHeld => ?_)
                      · (first | exact HY | exact HY2 | exact HY3 | exact HY4 | assumption)
                      refine tk 0 ⟨some 121, .move (.tmp 14), 3, "law.go:62", #[], none⟩ ?_; try simp only [Act.put, pz1, pz2, pz3]
                      refine tk 1 ⟨some 122, .move (.tmp 9), 26, "law.go:62", #[], none⟩ ?_; try simp only [Act.put, pz1, pz2, pz3]
                      refine tk 3 ⟨some 124, .move (.tmp 12), 33, "law.go:62", #[], none⟩ ?_; try simp only [Act.put, pz1, pz2, pz3]
                      refine wpAnyH_ready (rs := [2]) (by kernel_rfl) (by simp) ?_
                      refine AllReadyH.cons (o := ⟨some 123, .call { callee := .value (.func 18), args := #[.tmp 122], argTypes := #[26] }, 32, "law.go:62", #[⟨1, .data⟩], none⟩) rfl (fun K hK => ?_) AllReadyH.nil
                      go_simp
                      (first | (go_at_call 18; ((with_reducible refine (lwears_any m gx gb AF fs.length cf a b c d e fs NA _ S (by first | exact hCO.likeB hBo | exact ChipW.drew (hCO.likeB hBo)) hNA.out).mono ?_); rintro e' wN ⟨⟨A7, c7, rfl, hs7⟩, hb⟩; (try have hb := undrew hb); replace hBo := btr hBo hBo.size hb; have HY2 := cells5 (GO.below hBo GO.lt))) | (go_at_call 17; ((with_reducible refine (rspread_v _ _ NA NA HLN A7 (some ⟨g2, 0, none⟩) c7 c2w _ SP hF.sp hs7 (Sl.of_own (own_belowA R2O hBo)) (by omega) (by omega) HWB).mono ?_); rintro e' wN ⟨rfl, hb⟩; replace hBo := btr hBo hBo.size hb; have HY2 := cells5 (GO.below hBo GO.lt))) | (go_at_call 15; ((with_reducible refine (alimit_any m gx gb AF fs.length cf a b c d e fs 700 _ S (by first | exact hCO.likeB hBo | exact ChipW.drew (hCO.likeB hBo)) hG.fine (by omega) LM hF.lm).mono ?_); rintro e' wN ⟨rfl, hb⟩; (try have hb := undrew hb); replace hBo := btr hBo hBo.size hb; have HY2 := cells5 (GO.below hBo GO.lt))) | (go_at_call 19; ((with_reducible refine (slack_v a b c d e _ HM).mono ?_); rintro e' wN ⟨rfl, hb⟩; (try have hb := undrew hb); replace hBo := btr hBo hBo.size hb; have HY2 := cells5 (GO.below hBo GO.lt))) | (go_at_call 20; ((with_reducible refine (cuts_v m gx gb AF fs.length cf a b c d e fs cu _ S (by first | exact hCO.likeB hBo | exact ChipW.drew (hCO.likeB hBo)) hF.cu).mono ?_); rintro e' wN ⟨rfl, rfl⟩; skip)) | (go_at_call 21; ((with_reducible refine (why_many m gx gb AF fs.length cf a b c d e fs NA NB 700 acc _ S S1 (by first | exact hCO.likeB hBo | exact ChipW.drew (hCO.likeB hBo)) hG (by omega) hF.b8 hF.on hNA hNB hF.w 0 hF.f (by omega) hF.ok hF.du SP LM hF.sp1 hF.lm1 (by omega) p hF.bf1 (by omega)).mono ?_); rintro e' wN ⟨rfl, -, hT8, -⟩; have G8 := hT8.blk (GO.below hBo GO.lt) hnb; have HY3 := cells5 G8)) | (go_at_call 5; ((with_reducible refine (awake23 _).mono ?_); rintro e' wN ⟨rfl, hbZ⟩; have HY4 := cells5 (G8.below hbZ G8.lt))))
                      go_wp2_with fail
                      refine hK.out _ _ ?_ (fun hNew => ?_)
                      · (first | exact HY | exact HY2 | exact HY3 | exact HY4 | assumption)
                      clear hK K hHeld
                      have hHeld := hNew
                      clear hNew
                      try simp only [Act.put, pz1, pz2, pz3]
                      refine wpAnyH_ready (rs := [4]) (by kernel_rfl) (by simp) ?_
                      refine AllReadyH.cons (o := ⟨some 125, .call { callee := .value (.func 17), args := #[.tmp 123, .tmp 124], argTypes := #[32, 33] }, 3, "law.go:62", #[⟨2, .data⟩, ⟨3, .data⟩, ⟨2, .chain⟩], none⟩) rfl (fun K hK => ?_) AllReadyH.nil
                      go_simp
                      (first | (go_at_call 18; ((with_reducible refine (lwears_any m gx gb AF fs.length cf a b c d e fs NA _ S (by first | exact hCO.likeB hBo | exact ChipW.drew (hCO.likeB hBo)) hNA.out).mono ?_); rintro e' wN ⟨⟨A7, c7, rfl, hs7⟩, hb⟩; (try have hb := undrew hb); replace hBo := btr hBo hBo.size hb; have HY2 := cells5 (GO.below hBo GO.lt))) | (go_at_call 17; ((with_reducible refine (rspread_v _ _ NA NA HLN A7 (some ⟨g2, 0, none⟩) c7 c2w _ SP hF.sp hs7 (Sl.of_own (own_belowA R2O hBo)) (by omega) (by omega) HWB).mono ?_); rintro e' wN ⟨rfl, hb⟩; replace hBo := btr hBo hBo.size hb; have HY2 := cells5 (GO.below hBo GO.lt))) | (go_at_call 15; ((with_reducible refine (alimit_any m gx gb AF fs.length cf a b c d e fs 700 _ S (by first | exact hCO.likeB hBo | exact ChipW.drew (hCO.likeB hBo)) hG.fine (by omega) LM hF.lm).mono ?_); rintro e' wN ⟨rfl, hb⟩; (try have hb := undrew hb); replace hBo := btr hBo hBo.size hb; have HY2 := cells5 (GO.below hBo GO.lt))) | (go_at_call 19; ((with_reducible refine (slack_v a b c d e _ HM).mono ?_); rintro e' wN ⟨rfl, hb⟩; (try have hb := undrew hb); replace hBo := btr hBo hBo.size hb; have HY2 := cells5 (GO.below hBo GO.lt))) | (go_at_call 20; ((with_reducible refine (cuts_v m gx gb AF fs.length cf a b c d e fs cu _ S (by first | exact hCO.likeB hBo | exact ChipW.drew (hCO.likeB hBo)) hF.cu).mono ?_); rintro e' wN ⟨rfl, rfl⟩; skip)) | (go_at_call 21; ((with_reducible refine (why_many m gx gb AF fs.length cf a b c d e fs NA NB 700 acc _ S S1 (by first | exact hCO.likeB hBo | exact ChipW.drew (hCO.likeB hBo)) hG (by omega) hF.b8 hF.on hNA hNB hF.w 0 hF.f (by omega) hF.ok hF.du SP LM hF.sp1 hF.lm1 (by omega) p hF.bf1 (by omega)).mono ?_); rintro e' wN ⟨rfl, -, hT8, -⟩; have G8 := hT8.blk (GO.below hBo GO.lt) hnb; have HY3 := cells5 G8)) | (go_at_call 5; ((with_reducible refine (awake23 _).mono ?_); rintro e' wN ⟨rfl, hbZ⟩; have HY4 := cells5 (G8.below hbZ G8.lt))))
                      go_wp2_with fail
                      refine hK.out _ _ ?_ (fun hNew => ?_)
                      · (first | exact HY | exact HY2 | exact HY3 | exact HY4 | assumption)
                      clear hK K hHeld
                      have hHeld := hNew
                      clear hNew
                      try simp only [Act.put, pz1, pz2, pz3]
                      refine tk 5 ⟨some 126, .binOp .eql 3 (.tmp 121) (.tmp 125) 3, 4, "law.go:62", #[⟨0, .data⟩, ⟨4, .data⟩], none⟩ ?_; try simp only [Act.put, pz1, pz2, pz3]
                      refine tk 6 ⟨some 127, .move (.tmp 126), 4, "law.go:62", #[⟨5, .data⟩, ⟨4, .chain⟩], none⟩ ?_; try simp only [Act.put, pz1, pz2, pz3]
                      refine tk 7 ⟨some 128, .move (.tmp 9), 26, "law.go:62", #[⟨6, .guard⟩], some (6, true)⟩ ?_; try simp only [Act.put, pz1, pz2, pz3]
                      refine tk 9 ⟨some 130, .fieldAddr 23 (.tmp 4) 4, 0, "law.go:62", #[⟨6, .guard⟩], some (6, true)⟩ ?_; try simp only [Act.put, pz1, pz2, pz3]
                      refine tk 10 ⟨some 131, .load 3 (.tmp 130), 3, "law.go:62", #[⟨9, .data⟩, ⟨6, .guard⟩], some (6, true)⟩ ?_; try simp only [Act.put, pz1, pz2, pz3]
                      refine tk 11 ⟨some 132, .load 23 (.tmp 4), 23, "law.go:62", #[⟨6, .guard⟩], some (6, true)⟩ ?_; try simp only [Act.put, pz1, pz2, pz3]
                      refine tk 14 ⟨some 135, .move (.tmp 9), 26, "law.go:62", #[⟨6, .guard⟩], some (6, true)⟩ ?_; try simp only [Act.put, pz1, pz2, pz3]
                      refine wpAnyH_ready (rs := [8]) (by kernel_rfl) (by simp) ?_
                      refine AllReadyH.cons (o := ⟨some 129, .call { callee := .value (.func 15), args := #[.tmp 128], argTypes := #[26] }, 3, "law.go:62", #[⟨7, .data⟩, ⟨6, .chain⟩, ⟨6, .guard⟩], some (6, true)⟩) rfl (fun K hK => ?_) AllReadyH.nil
                      go_simp
                      (first | (go_at_call 18; ((with_reducible refine (lwears_any m gx gb AF fs.length cf a b c d e fs NA _ S (by first | exact hCO.likeB hBo | exact ChipW.drew (hCO.likeB hBo)) hNA.out).mono ?_); rintro e' wN ⟨⟨A7, c7, rfl, hs7⟩, hb⟩; (try have hb := undrew hb); replace hBo := btr hBo hBo.size hb; have HY2 := cells5 (GO.below hBo GO.lt))) | (go_at_call 17; ((with_reducible refine (rspread_v _ _ NA NA HLN A7 (some ⟨g2, 0, none⟩) c7 c2w _ SP hF.sp hs7 (Sl.of_own (own_belowA R2O hBo)) (by omega) (by omega) HWB).mono ?_); rintro e' wN ⟨rfl, hb⟩; replace hBo := btr hBo hBo.size hb; have HY2 := cells5 (GO.below hBo GO.lt))) | (go_at_call 15; ((with_reducible refine (alimit_any m gx gb AF fs.length cf a b c d e fs 700 _ S (by first | exact hCO.likeB hBo | exact ChipW.drew (hCO.likeB hBo)) hG.fine (by omega) LM hF.lm).mono ?_); rintro e' wN ⟨rfl, hb⟩; (try have hb := undrew hb); replace hBo := btr hBo hBo.size hb; have HY2 := cells5 (GO.below hBo GO.lt))) | (go_at_call 19; ((with_reducible refine (slack_v a b c d e _ HM).mono ?_); rintro e' wN ⟨rfl, hb⟩; (try have hb := undrew hb); replace hBo := btr hBo hBo.size hb; have HY2 := cells5 (GO.below hBo GO.lt))) | (go_at_call 20; ((with_reducible refine (cuts_v m gx gb AF fs.length cf a b c d e fs cu _ S (by first | exact hCO.likeB hBo | exact ChipW.drew (hCO.likeB hBo)) hF.cu).mono ?_); rintro e' wN ⟨rfl, rfl⟩; skip)) | (go_at_call 21; ((with_reducible refine (why_many m gx gb AF fs.length cf a b c d e fs NA NB 700 acc _ S S1 (by first | exact hCO.likeB hBo | exact ChipW.drew (hCO.likeB hBo)) hG (by omega) hF.b8 hF.on hNA hNB hF.w 0 hF.f (by omega) hF.ok hF.du SP LM hF.sp1 hF.lm1 (by omega) p hF.bf1 (by omega)).mono ?_); rintro e' wN ⟨rfl, -, hT8, -⟩; have G8 := hT8.blk (GO.below hBo GO.lt) hnb; have HY3 := cells5 G8)) | (go_at_call 5; ((with_reducible refine (awake23 _).mono ?_); rintro e' wN ⟨rfl, hbZ⟩; have HY4 := cells5 (G8.below hbZ G8.lt))))
                      go_wp2_with fail
                      refine hK.out _ _ ?_ (fun hNew => ?_)
                      · (first | exact HY | exact HY2 | exact HY3 | exact HY4 | assumption)
                      clear hK K hHeld
                      have hHeld := hNew
                      clear hNew
                      try simp only [Act.put, pz1, pz2, pz3]
                      refine wpAnyH_ready (rs := [12]) (by kernel_rfl) (by simp) ?_
                      refine AllReadyH.cons (o := ⟨some 133, .call { callee := .value (.func 19), args := #[.tmp 132], argTypes := #[23] }, 3, "law.go:62", #[⟨11, .data⟩, ⟨8, .chain⟩, ⟨6, .guard⟩], some (6, true)⟩) rfl (fun K hK => ?_) AllReadyH.nil
                      go_simp
                      (first | (go_at_call 18; ((with_reducible refine (lwears_any m gx gb AF fs.length cf a b c d e fs NA _ S (by first | exact hCO.likeB hBo | exact ChipW.drew (hCO.likeB hBo)) hNA.out).mono ?_); rintro e' wN ⟨⟨A7, c7, rfl, hs7⟩, hb⟩; (try have hb := undrew hb); replace hBo := btr hBo hBo.size hb; have HY2 := cells5 (GO.below hBo GO.lt))) | (go_at_call 17; ((with_reducible refine (rspread_v _ _ NA NA HLN A7 (some ⟨g2, 0, none⟩) c7 c2w _ SP hF.sp hs7 (Sl.of_own (own_belowA R2O hBo)) (by omega) (by omega) HWB).mono ?_); rintro e' wN ⟨rfl, hb⟩; replace hBo := btr hBo hBo.size hb; have HY2 := cells5 (GO.below hBo GO.lt))) | (go_at_call 15; ((with_reducible refine (alimit_any m gx gb AF fs.length cf a b c d e fs 700 _ S (by first | exact hCO.likeB hBo | exact ChipW.drew (hCO.likeB hBo)) hG.fine (by omega) LM hF.lm).mono ?_); rintro e' wN ⟨rfl, hb⟩; (try have hb := undrew hb); replace hBo := btr hBo hBo.size hb; have HY2 := cells5 (GO.below hBo GO.lt))) | (go_at_call 19; ((with_reducible refine (slack_v a b c d e _ HM).mono ?_); rintro e' wN ⟨rfl, hb⟩; (try have hb := undrew hb); replace hBo := btr hBo hBo.size hb; have HY2 := cells5 (GO.below hBo GO.lt))) | (go_at_call 20; ((with_reducible refine (cuts_v m gx gb AF fs.length cf a b c d e fs cu _ S (by first | exact hCO.likeB hBo | exact ChipW.drew (hCO.likeB hBo)) hF.cu).mono ?_); rintro e' wN ⟨rfl, rfl⟩; skip)) | (go_at_call 21; ((with_reducible refine (why_many m gx gb AF fs.length cf a b c d e fs NA NB 700 acc _ S S1 (by first | exact hCO.likeB hBo | exact ChipW.drew (hCO.likeB hBo)) hG (by omega) hF.b8 hF.on hNA hNB hF.w 0 hF.f (by omega) hF.ok hF.du SP LM hF.sp1 hF.lm1 (by omega) p hF.bf1 (by omega)).mono ?_); rintro e' wN ⟨rfl, -, hT8, -⟩; have G8 := hT8.blk (GO.below hBo GO.lt) hnb; have HY3 := cells5 G8)) | (go_at_call 5; ((with_reducible refine (awake23 _).mono ?_); rintro e' wN ⟨rfl, hbZ⟩; have HY4 := cells5 (G8.below hbZ G8.lt))))
                      go_wp2_with fail
                      refine hK.out _ _ ?_ (fun hNew => ?_)
                      · (first | exact HY | exact HY2 | exact HY3 | exact HY4 | assumption)
                      clear hK K hHeld
                      have hHeld := hNew
                      clear hNew
                      try simp only [Act.put, pz1, pz2, pz3]
                      refine tk 13 ⟨some 134, .binOp .add 3 (.tmp 131) (.tmp 133) 3, 3, "law.go:62", #[⟨10, .data⟩, ⟨12, .data⟩, ⟨6, .guard⟩], some (6, true)⟩ ?_; try simp only [Act.put, pz1, pz2, pz3]
                      refine wpAnyH_ready (rs := [15]) (by kernel_rfl) (by simp) ?_
                      refine AllReadyH.cons (o := ⟨some 136, .call { callee := .value (.func 20), args := #[.tmp 135], argTypes := #[26] }, 3, "law.go:62", #[⟨14, .data⟩, ⟨12, .chain⟩, ⟨6, .guard⟩], some (6, true)⟩) rfl (fun K hK => ?_) AllReadyH.nil
                      go_simp
                      (first | (go_at_call 18; ((with_reducible refine (lwears_any m gx gb AF fs.length cf a b c d e fs NA _ S (by first | exact hCO.likeB hBo | exact ChipW.drew (hCO.likeB hBo)) hNA.out).mono ?_); rintro e' wN ⟨⟨A7, c7, rfl, hs7⟩, hb⟩; (try have hb := undrew hb); replace hBo := btr hBo hBo.size hb; have HY2 := cells5 (GO.below hBo GO.lt))) | (go_at_call 17; ((with_reducible refine (rspread_v _ _ NA NA HLN A7 (some ⟨g2, 0, none⟩) c7 c2w _ SP hF.sp hs7 (Sl.of_own (own_belowA R2O hBo)) (by omega) (by omega) HWB).mono ?_); rintro e' wN ⟨rfl, hb⟩; replace hBo := btr hBo hBo.size hb; have HY2 := cells5 (GO.below hBo GO.lt))) | (go_at_call 15; ((with_reducible refine (alimit_any m gx gb AF fs.length cf a b c d e fs 700 _ S (by first | exact hCO.likeB hBo | exact ChipW.drew (hCO.likeB hBo)) hG.fine (by omega) LM hF.lm).mono ?_); rintro e' wN ⟨rfl, hb⟩; (try have hb := undrew hb); replace hBo := btr hBo hBo.size hb; have HY2 := cells5 (GO.below hBo GO.lt))) | (go_at_call 19; ((with_reducible refine (slack_v a b c d e _ HM).mono ?_); rintro e' wN ⟨rfl, hb⟩; (try have hb := undrew hb); replace hBo := btr hBo hBo.size hb; have HY2 := cells5 (GO.below hBo GO.lt))) | (go_at_call 20; ((with_reducible refine (cuts_v m gx gb AF fs.length cf a b c d e fs cu _ S (by first | exact hCO.likeB hBo | exact ChipW.drew (hCO.likeB hBo)) hF.cu).mono ?_); rintro e' wN ⟨rfl, rfl⟩; skip)) | (go_at_call 21; ((with_reducible refine (why_many m gx gb AF fs.length cf a b c d e fs NA NB 700 acc _ S S1 (by first | exact hCO.likeB hBo | exact ChipW.drew (hCO.likeB hBo)) hG (by omega) hF.b8 hF.on hNA hNB hF.w 0 hF.f (by omega) hF.ok hF.du SP LM hF.sp1 hF.lm1 (by omega) p hF.bf1 (by omega)).mono ?_); rintro e' wN ⟨rfl, -, hT8, -⟩; have G8 := hT8.blk (GO.below hBo GO.lt) hnb; have HY3 := cells5 G8)) | (go_at_call 5; ((with_reducible refine (awake23 _).mono ?_); rintro e' wN ⟨rfl, hbZ⟩; have HY4 := cells5 (G8.below hbZ G8.lt))))
                      go_wp2_with fail
                      refine hK.out _ _ ?_ (fun hNew => ?_)
                      · (first | exact HY | exact HY2 | exact HY3 | exact HY4 | assumption)
                      clear hK K hHeld
                      have hHeld := hNew
                      clear hNew
                      try simp only [Act.put, pz1, pz2, pz3]
                      refine tk 16 ⟨some 137, .binOp .add 3 (.tmp 134) (.tmp 136) 3, 3, "law.go:62", #[⟨13, .data⟩, ⟨15, .data⟩, ⟨6, .guard⟩], some (6, true)⟩ ?_; try simp only [Act.put, pz1, pz2, pz3]
                      refine tk 17 ⟨some 138, .binOp .eql 3 (.tmp 129) (.tmp 137) 3, 4, "law.go:62", #[⟨8, .data⟩, ⟨16, .data⟩, ⟨6, .guard⟩], some (6, true)⟩ ?_; try simp only [Act.put, pz1, pz2, pz3]
                      refine tk 18 ⟨some 139, .pick (.tmp 127) (.tmp 138) (.const (.bool false)), 4, "law.go:62", #[⟨6, .data⟩, ⟨17, .data⟩], none⟩ ?_; try simp only [Act.put, pz1, pz2, pz3]
                      refine tk 19 ⟨some 140, .move (.tmp 139), 4, "law.go:62", #[⟨18, .data⟩, ⟨15, .chain⟩], none⟩ ?_; try simp only [Act.put, pz1, pz2, pz3]
                      refine tk 20 ⟨some 141, .move (.tmp 9), 26, "law.go:62", #[⟨19, .guard⟩], some (19, true)⟩ ?_; try simp only [Act.put, pz1, pz2, pz3]
                      refine tk 22 ⟨some 143, .move (.tmp 17), 9, "law.go:62", #[⟨19, .guard⟩], some (19, true)⟩ ?_; try simp only [Act.put, pz1, pz2, pz3]
                      refine wpAnyH_ready (rs := [21]) (by kernel_rfl) (by simp) ?_
                      refine AllReadyH.cons (o := ⟨some 142, .call { callee := .value (.func 21), args := #[.tmp 141], argTypes := #[26] }, 9, "law.go:62", #[⟨20, .data⟩, ⟨19, .chain⟩, ⟨19, .guard⟩], some (19, true)⟩) rfl (fun K hK => ?_) AllReadyH.nil
                      go_simp
                      (first | (go_at_call 18; ((with_reducible refine (lwears_any m gx gb AF fs.length cf a b c d e fs NA _ S (by first | exact hCO.likeB hBo | exact ChipW.drew (hCO.likeB hBo)) hNA.out).mono ?_); rintro e' wN ⟨⟨A7, c7, rfl, hs7⟩, hb⟩; (try have hb := undrew hb); replace hBo := btr hBo hBo.size hb; have HY2 := cells5 (GO.below hBo GO.lt))) | (go_at_call 17; ((with_reducible refine (rspread_v _ _ NA NA HLN A7 (some ⟨g2, 0, none⟩) c7 c2w _ SP hF.sp hs7 (Sl.of_own (own_belowA R2O hBo)) (by omega) (by omega) HWB).mono ?_); rintro e' wN ⟨rfl, hb⟩; replace hBo := btr hBo hBo.size hb; have HY2 := cells5 (GO.below hBo GO.lt))) | (go_at_call 15; ((with_reducible refine (alimit_any m gx gb AF fs.length cf a b c d e fs 700 _ S (by first | exact hCO.likeB hBo | exact ChipW.drew (hCO.likeB hBo)) hG.fine (by omega) LM hF.lm).mono ?_); rintro e' wN ⟨rfl, hb⟩; (try have hb := undrew hb); replace hBo := btr hBo hBo.size hb; have HY2 := cells5 (GO.below hBo GO.lt))) | (go_at_call 19; ((with_reducible refine (slack_v a b c d e _ HM).mono ?_); rintro e' wN ⟨rfl, hb⟩; (try have hb := undrew hb); replace hBo := btr hBo hBo.size hb; have HY2 := cells5 (GO.below hBo GO.lt))) | (go_at_call 20; ((with_reducible refine (cuts_v m gx gb AF fs.length cf a b c d e fs cu _ S (by first | exact hCO.likeB hBo | exact ChipW.drew (hCO.likeB hBo)) hF.cu).mono ?_); rintro e' wN ⟨rfl, rfl⟩; skip)) | (go_at_call 21; ((with_reducible refine (why_many m gx gb AF fs.length cf a b c d e fs NA NB 700 acc _ S S1 (by first | exact hCO.likeB hBo | exact ChipW.drew (hCO.likeB hBo)) hG (by omega) hF.b8 hF.on hNA hNB hF.w 0 hF.f (by omega) hF.ok hF.du SP LM hF.sp1 hF.lm1 (by omega) p hF.bf1 (by omega)).mono ?_); rintro e' wN ⟨rfl, -, hT8, -⟩; have G8 := hT8.blk (GO.below hBo GO.lt) hnb; have HY3 := cells5 G8)) | (go_at_call 5; ((with_reducible refine (awake23 _).mono ?_); rintro e' wN ⟨rfl, hbZ⟩; have HY4 := cells5 (G8.below hbZ G8.lt))))
                      go_wp2_with fail
                      refine hK.out _ _ ?_ (fun hNew => ?_)
                      · (first | exact HY | exact HY2 | exact HY3 | exact HY4 | assumption)
                      clear hK K hHeld
                      have hHeld := hNew
                      clear hNew
                      try simp only [Act.put, pz1, pz2, pz3]
                      refine tk 23 ⟨some 144, .binOp .eql 9 (.tmp 142) (.tmp 143) 9, 4, "law.go:62", #[⟨21, .data⟩, ⟨22, .data⟩, ⟨19, .guard⟩], some (19, true)⟩ ?_; try simp only [Act.put, pz1, pz2, pz3]
                      refine tk 24 ⟨some 145, .pick (.tmp 140) (.tmp 144) (.const (.bool false)), 4, "law.go:62", #[⟨19, .data⟩, ⟨23, .data⟩], none⟩ ?_; try simp only [Act.put, pz1, pz2, pz3]
                      refine tk 25 ⟨some 146, .move (.tmp 145), 4, "law.go:62", #[⟨24, .data⟩, ⟨21, .chain⟩], none⟩ ?_; try simp only [Act.put, pz1, pz2, pz3]
                      refine wpAnyH_ready (rs := [26]) (by kernel_rfl) (by simp) ?_
                      refine AllReadyH.cons (o := ⟨some 147, .call { callee := .value (.func 5), args := #[], argTypes := #[] }, 4, "law.go:62", #[⟨25, .chain⟩, ⟨25, .guard⟩], some (25, true)⟩) rfl (fun K hK => ?_) AllReadyH.nil
                      go_simp
                      (first | (go_at_call 18; ((with_reducible refine (lwears_any m gx gb AF fs.length cf a b c d e fs NA _ S (by first | exact hCO.likeB hBo | exact ChipW.drew (hCO.likeB hBo)) hNA.out).mono ?_); rintro e' wN ⟨⟨A7, c7, rfl, hs7⟩, hb⟩; (try have hb := undrew hb); replace hBo := btr hBo hBo.size hb; have HY2 := cells5 (GO.below hBo GO.lt))) | (go_at_call 17; ((with_reducible refine (rspread_v _ _ NA NA HLN A7 (some ⟨g2, 0, none⟩) c7 c2w _ SP hF.sp hs7 (Sl.of_own (own_belowA R2O hBo)) (by omega) (by omega) HWB).mono ?_); rintro e' wN ⟨rfl, hb⟩; replace hBo := btr hBo hBo.size hb; have HY2 := cells5 (GO.below hBo GO.lt))) | (go_at_call 15; ((with_reducible refine (alimit_any m gx gb AF fs.length cf a b c d e fs 700 _ S (by first | exact hCO.likeB hBo | exact ChipW.drew (hCO.likeB hBo)) hG.fine (by omega) LM hF.lm).mono ?_); rintro e' wN ⟨rfl, hb⟩; (try have hb := undrew hb); replace hBo := btr hBo hBo.size hb; have HY2 := cells5 (GO.below hBo GO.lt))) | (go_at_call 19; ((with_reducible refine (slack_v a b c d e _ HM).mono ?_); rintro e' wN ⟨rfl, hb⟩; (try have hb := undrew hb); replace hBo := btr hBo hBo.size hb; have HY2 := cells5 (GO.below hBo GO.lt))) | (go_at_call 20; ((with_reducible refine (cuts_v m gx gb AF fs.length cf a b c d e fs cu _ S (by first | exact hCO.likeB hBo | exact ChipW.drew (hCO.likeB hBo)) hF.cu).mono ?_); rintro e' wN ⟨rfl, rfl⟩; skip)) | (go_at_call 21; ((with_reducible refine (why_many m gx gb AF fs.length cf a b c d e fs NA NB 700 acc _ S S1 (by first | exact hCO.likeB hBo | exact ChipW.drew (hCO.likeB hBo)) hG (by omega) hF.b8 hF.on hNA hNB hF.w 0 hF.f (by omega) hF.ok hF.du SP LM hF.sp1 hF.lm1 (by omega) p hF.bf1 (by omega)).mono ?_); rintro e' wN ⟨rfl, -, hT8, -⟩; have G8 := hT8.blk (GO.below hBo GO.lt) hnb; have HY3 := cells5 G8)) | (go_at_call 5; ((with_reducible refine (awake23 _).mono ?_); rintro e' wN ⟨rfl, hbZ⟩; have HY4 := cells5 (G8.below hbZ G8.lt))))
                      go_wp2_with fail
                      refine hK.out _ _ ?_ (fun hNew => ?_)
                      · (first | exact HY | exact HY2 | exact HY3 | exact HY4 | assumption)
                      clear hK K hHeld
                      have hHeld := hNew
                      clear hNew
                      try simp only [Act.put, pz1, pz2, pz3]
                      refine tk 27 ⟨some 148, .pick (.tmp 146) (.tmp 147) (.const (.bool false)), 4, "law.go:62", #[⟨25, .data⟩, ⟨26, .data⟩], none⟩ ?_; try simp only [Act.put, pz1, pz2, pz3]
                      refine tk 28 ⟨some 8, .assign (.tmp 148), 4, "law.go:62", #[⟨27, .data⟩, ⟨26, .chain⟩, ⟨0, .phase⟩, ⟨1, .phase⟩, ⟨2, .phase⟩, ⟨3, .phase⟩, ⟨4, .phase⟩, ⟨5, .phase⟩, ⟨6, .phase⟩, ⟨7, .phase⟩, ⟨8, .phase⟩, ⟨9, .phase⟩, ⟨10, .phase⟩, ⟨11, .phase⟩, ⟨12, .phase⟩, ⟨13, .phase⟩, ⟨14, .phase⟩, ⟨15, .phase⟩, ⟨16, .phase⟩, ⟨17, .phase⟩, ⟨18, .phase⟩, ⟨19, .phase⟩, ⟨20, .phase⟩, ⟨21, .phase⟩, ⟨22, .phase⟩, ⟨23, .phase⟩, ⟨24, .phase⟩, ⟨25, .phase⟩, ⟨26, .phase⟩, ⟨27, .phase⟩], none⟩ ?_; try simp only [Act.put, pz1, pz2, pz3]
                      refine wpAnyH_done (by kernel_rfl) ?_ _
                      refine NoPanic.normal ?_
                      clear hHeld
                      go_wp2_with fail
                      go_ret
                      have hF2 := HBO.trans ((hBo.mono HBO.size).trans (hT8.below (by have := HBO.size; have := hBo.size; omega) (fun g hg => Nat.le_of_lt (hlow g hg))))
                      exact ⟨rfl, btr hF2 hF2.size hbZ⟩
                  · skip
                    go_upto_region 30 with (first | (go_at_call 15; ((with_reducible refine (alimit_any m gx gb AF fs.length cf a b c d e fs 700 _ S (by first | exact (hCk.below hE.b) | exact ChipW.drew (hCk.below hE.b)) hG.fine (by omega) LM hF.lm).mono ?_); rintro e' wN ⟨rfl, hbL⟩; (try have hbL := undrew hbL); replace hE := hE.then hbL; (try clear y0 y1 y2 y3 y4); obtain ⟨y0, y1, y2, y3, y4⟩ := cells5 (G4.below hE.b G4.lt))) | (go_at_call 16; ((with_reducible refine (overI_any (some ⟨g1, 0, none⟩) NA c1w _ _ _ hE.r1 hE.b.size (by omega)).mono ?_); rintro e' wN ⟨⟨v9, rfl⟩, hgO⟩; skip)))
                    have HBO : Below w.heap.size w wN := HBW.trans ((hE.b.grown hgO hE.b.size (fun g hg => by cases hg; omega)).mono HBW.size)
                    have hCO : ChipW wN m gx gb AF fs.length cf a b c d e fs S := hCk.below (hE.b.grown hgO hE.b.size (fun g hg => by cases hg; omega))
                    have R2O := own_kept2 hE.r2 hgO (apart_sym hE.ap)
                    have GO := G4.below (hE.b.grown hgO hE.b.size (fun g hg => by cases hg; omega)) G4.lt
                    have HY := cells5 GO
                    obtain ⟨wO, hwO⟩ : ∃ V : World, V = wN := ⟨_, rfl⟩
                    rw [← hwO] at hCO R2O GO HY HBO ⊢
                    clear hwO hgO hE y0 y1 y2 y3 y4
                    have hBo : Below wO.heap.size wO wO := Below.refl _ _
                    refine wp_region_noPanic ?_
                    refine wp_region_held_drew (S := (fun w' => w'.cell? ⟨w.heap.size, 0, none⟩ = some (.int .i64 a) ∧ w'.cell? ⟨w.heap.size, 1, none⟩ = some (.int .i64 b) ∧ w'.cell? ⟨w.heap.size, 2, none⟩ = some (.int .i64 c) ∧ w'.cell? ⟨w.heap.size, 3, none⟩ = some (.int .i64 d) ∧ w'.cell? ⟨w.heap.size, 4, none⟩ = some (.int .i64 e))) (by kernel_rfl) ?_ (fun hHeld => ?_)
                    · (first | exact HY | exact HY2 | exact HY3 | exact HY4 | assumption)
                    refine tk 0 ⟨some 121, .move (.tmp 14), 3, "law.go:62", #[], none⟩ ?_; try simp only [Act.put, pz1, pz2, pz3]
                    refine tk 1 ⟨some 122, .move (.tmp 9), 26, "law.go:62", #[], none⟩ ?_; try simp only [Act.put, pz1, pz2, pz3]
                    refine tk 3 ⟨some 124, .move (.tmp 12), 33, "law.go:62", #[], none⟩ ?_; try simp only [Act.put, pz1, pz2, pz3]
                    refine wpAnyH_ready (rs := [2]) (by kernel_rfl) (by simp) ?_
                    refine AllReadyH.cons (o := ⟨some 123, .call { callee := .value (.func 18), args := #[.tmp 122], argTypes := #[26] }, 32, "law.go:62", #[⟨1, .data⟩], none⟩) rfl (fun K hK => ?_) AllReadyH.nil
                    go_simp
                    (first | (go_at_call 18; ((with_reducible refine (lwears_any m gx gb AF fs.length cf a b c d e fs NA _ S (by first | exact hCO.likeB hBo | exact ChipW.drew (hCO.likeB hBo)) hNA.out).mono ?_); rintro e' wN ⟨⟨A7, c7, rfl, hs7⟩, hb⟩; (try have hb := undrew hb); replace hBo := btr hBo hBo.size hb; have HY2 := cells5 (GO.below hBo GO.lt))) | (go_at_call 17; ((with_reducible refine (rspread_v _ _ NA NA HLN A7 (some ⟨g2, 0, none⟩) c7 c2w _ SP hF.sp hs7 (Sl.of_own (own_belowA R2O hBo)) (by omega) (by omega) HWB).mono ?_); rintro e' wN ⟨rfl, hb⟩; replace hBo := btr hBo hBo.size hb; have HY2 := cells5 (GO.below hBo GO.lt))) | (go_at_call 15; ((with_reducible refine (alimit_any m gx gb AF fs.length cf a b c d e fs 700 _ S (by first | exact hCO.likeB hBo | exact ChipW.drew (hCO.likeB hBo)) hG.fine (by omega) LM hF.lm).mono ?_); rintro e' wN ⟨rfl, hb⟩; (try have hb := undrew hb); replace hBo := btr hBo hBo.size hb; have HY2 := cells5 (GO.below hBo GO.lt))) | (go_at_call 19; ((with_reducible refine (slack_v a b c d e _ HM).mono ?_); rintro e' wN ⟨rfl, hb⟩; (try have hb := undrew hb); replace hBo := btr hBo hBo.size hb; have HY2 := cells5 (GO.below hBo GO.lt))) | (go_at_call 20; ((with_reducible refine (cuts_v m gx gb AF fs.length cf a b c d e fs cu _ S (by first | exact hCO.likeB hBo | exact ChipW.drew (hCO.likeB hBo)) hF.cu).mono ?_); rintro e' wN ⟨rfl, rfl⟩; skip)) | (go_at_call 21; ((with_reducible refine (why_low m gx gb AF fs.length cf a b c d e fs NA NB 700 acc _ S S1 (by first | exact hCO.likeB hBo | exact ChipW.drew (hCO.likeB hBo)) hG (by omega) hF.b8 hF.on hNA hNB hF.w 0 hF.f (by omega) hF.ok hF.du SP LM hF.sp1 hF.lm1 (by omega)).mono ?_); rintro e' wN ⟨rfl, -, hT8, -⟩; have G8 := hT8.blk (GO.below hBo GO.lt) hnb; have HY3 := cells5 G8)) | (go_at_call 5; ((with_reducible refine (awake23 _).mono ?_); rintro e' wN ⟨rfl, hbZ⟩; have HY4 := cells5 (G8.below hbZ G8.lt))))
                    go_wp2_with fail
                    refine hK.out _ _ ?_ (fun hNew => ?_)
                    · (first | exact HY | exact HY2 | exact HY3 | exact HY4 | assumption)
                    clear hK K hHeld
                    have hHeld := hNew
                    clear hNew
                    try simp only [Act.put, pz1, pz2, pz3]
                    refine wpAnyH_ready (rs := [4]) (by kernel_rfl) (by simp) ?_
                    refine AllReadyH.cons (o := ⟨some 125, .call { callee := .value (.func 17), args := #[.tmp 123, .tmp 124], argTypes := #[32, 33] }, 3, "law.go:62", #[⟨2, .data⟩, ⟨3, .data⟩, ⟨2, .chain⟩], none⟩) rfl (fun K hK => ?_) AllReadyH.nil
                    go_simp
                    (first | (go_at_call 18; ((with_reducible refine (lwears_any m gx gb AF fs.length cf a b c d e fs NA _ S (by first | exact hCO.likeB hBo | exact ChipW.drew (hCO.likeB hBo)) hNA.out).mono ?_); rintro e' wN ⟨⟨A7, c7, rfl, hs7⟩, hb⟩; (try have hb := undrew hb); replace hBo := btr hBo hBo.size hb; have HY2 := cells5 (GO.below hBo GO.lt))) | (go_at_call 17; ((with_reducible refine (rspread_v _ _ NA NA HLN A7 (some ⟨g2, 0, none⟩) c7 c2w _ SP hF.sp hs7 (Sl.of_own (own_belowA R2O hBo)) (by omega) (by omega) HWB).mono ?_); rintro e' wN ⟨rfl, hb⟩; replace hBo := btr hBo hBo.size hb; have HY2 := cells5 (GO.below hBo GO.lt))) | (go_at_call 15; ((with_reducible refine (alimit_any m gx gb AF fs.length cf a b c d e fs 700 _ S (by first | exact hCO.likeB hBo | exact ChipW.drew (hCO.likeB hBo)) hG.fine (by omega) LM hF.lm).mono ?_); rintro e' wN ⟨rfl, hb⟩; (try have hb := undrew hb); replace hBo := btr hBo hBo.size hb; have HY2 := cells5 (GO.below hBo GO.lt))) | (go_at_call 19; ((with_reducible refine (slack_v a b c d e _ HM).mono ?_); rintro e' wN ⟨rfl, hb⟩; (try have hb := undrew hb); replace hBo := btr hBo hBo.size hb; have HY2 := cells5 (GO.below hBo GO.lt))) | (go_at_call 20; ((with_reducible refine (cuts_v m gx gb AF fs.length cf a b c d e fs cu _ S (by first | exact hCO.likeB hBo | exact ChipW.drew (hCO.likeB hBo)) hF.cu).mono ?_); rintro e' wN ⟨rfl, rfl⟩; skip)) | (go_at_call 21; ((with_reducible refine (why_low m gx gb AF fs.length cf a b c d e fs NA NB 700 acc _ S S1 (by first | exact hCO.likeB hBo | exact ChipW.drew (hCO.likeB hBo)) hG (by omega) hF.b8 hF.on hNA hNB hF.w 0 hF.f (by omega) hF.ok hF.du SP LM hF.sp1 hF.lm1 (by omega)).mono ?_); rintro e' wN ⟨rfl, -, hT8, -⟩; have G8 := hT8.blk (GO.below hBo GO.lt) hnb; have HY3 := cells5 G8)) | (go_at_call 5; ((with_reducible refine (awake23 _).mono ?_); rintro e' wN ⟨rfl, hbZ⟩; have HY4 := cells5 (G8.below hbZ G8.lt))))
                    go_wp2_with fail
                    refine hK.out _ _ ?_ (fun hNew => ?_)
                    · (first | exact HY | exact HY2 | exact HY3 | exact HY4 | assumption)
                    clear hK K hHeld
                    have hHeld := hNew
                    clear hNew
                    try simp only [Act.put, pz1, pz2, pz3]
                    refine tk 5 ⟨some 126, .binOp .eql 3 (.tmp 121) (.tmp 125) 3, 4, "law.go:62", #[⟨0, .data⟩, ⟨4, .data⟩], none⟩ ?_; try simp only [Act.put, pz1, pz2, pz3]
                    refine tk 6 ⟨some 127, .move (.tmp 126), 4, "law.go:62", #[⟨5, .data⟩, ⟨4, .chain⟩], none⟩ ?_; try simp only [Act.put, pz1, pz2, pz3]
                    refine tk 7 ⟨some 128, .move (.tmp 9), 26, "law.go:62", #[⟨6, .guard⟩], some (6, true)⟩ ?_; try simp only [Act.put, pz1, pz2, pz3]
                    refine tk 9 ⟨some 130, .fieldAddr 23 (.tmp 4) 4, 0, "law.go:62", #[⟨6, .guard⟩], some (6, true)⟩ ?_; try simp only [Act.put, pz1, pz2, pz3]
                    refine tk 10 ⟨some 131, .load 3 (.tmp 130), 3, "law.go:62", #[⟨9, .data⟩, ⟨6, .guard⟩], some (6, true)⟩ ?_; try simp only [Act.put, pz1, pz2, pz3]
                    refine tk 11 ⟨some 132, .load 23 (.tmp 4), 23, "law.go:62", #[⟨6, .guard⟩], some (6, true)⟩ ?_; try simp only [Act.put, pz1, pz2, pz3]
                    refine tk 14 ⟨some 135, .move (.tmp 9), 26, "law.go:62", #[⟨6, .guard⟩], some (6, true)⟩ ?_; try simp only [Act.put, pz1, pz2, pz3]
                    refine wpAnyH_ready (rs := [8]) (by kernel_rfl) (by simp) ?_
                    refine AllReadyH.cons (o := ⟨some 129, .call { callee := .value (.func 15), args := #[.tmp 128], argTypes := #[26] }, 3, "law.go:62", #[⟨7, .data⟩, ⟨6, .chain⟩, ⟨6, .guard⟩], some (6, true)⟩) rfl (fun K hK => ?_) AllReadyH.nil
                    go_simp
                    (first | (go_at_call 18; ((with_reducible refine (lwears_any m gx gb AF fs.length cf a b c d e fs NA _ S (by first | exact hCO.likeB hBo | exact ChipW.drew (hCO.likeB hBo)) hNA.out).mono ?_); rintro e' wN ⟨⟨A7, c7, rfl, hs7⟩, hb⟩; (try have hb := undrew hb); replace hBo := btr hBo hBo.size hb; have HY2 := cells5 (GO.below hBo GO.lt))) | (go_at_call 17; ((with_reducible refine (rspread_v _ _ NA NA HLN A7 (some ⟨g2, 0, none⟩) c7 c2w _ SP hF.sp hs7 (Sl.of_own (own_belowA R2O hBo)) (by omega) (by omega) HWB).mono ?_); rintro e' wN ⟨rfl, hb⟩; replace hBo := btr hBo hBo.size hb; have HY2 := cells5 (GO.below hBo GO.lt))) | (go_at_call 15; ((with_reducible refine (alimit_any m gx gb AF fs.length cf a b c d e fs 700 _ S (by first | exact hCO.likeB hBo | exact ChipW.drew (hCO.likeB hBo)) hG.fine (by omega) LM hF.lm).mono ?_); rintro e' wN ⟨rfl, hb⟩; (try have hb := undrew hb); replace hBo := btr hBo hBo.size hb; have HY2 := cells5 (GO.below hBo GO.lt))) | (go_at_call 19; ((with_reducible refine (slack_v a b c d e _ HM).mono ?_); rintro e' wN ⟨rfl, hb⟩; (try have hb := undrew hb); replace hBo := btr hBo hBo.size hb; have HY2 := cells5 (GO.below hBo GO.lt))) | (go_at_call 20; ((with_reducible refine (cuts_v m gx gb AF fs.length cf a b c d e fs cu _ S (by first | exact hCO.likeB hBo | exact ChipW.drew (hCO.likeB hBo)) hF.cu).mono ?_); rintro e' wN ⟨rfl, rfl⟩; skip)) | (go_at_call 21; ((with_reducible refine (why_low m gx gb AF fs.length cf a b c d e fs NA NB 700 acc _ S S1 (by first | exact hCO.likeB hBo | exact ChipW.drew (hCO.likeB hBo)) hG (by omega) hF.b8 hF.on hNA hNB hF.w 0 hF.f (by omega) hF.ok hF.du SP LM hF.sp1 hF.lm1 (by omega)).mono ?_); rintro e' wN ⟨rfl, -, hT8, -⟩; have G8 := hT8.blk (GO.below hBo GO.lt) hnb; have HY3 := cells5 G8)) | (go_at_call 5; ((with_reducible refine (awake23 _).mono ?_); rintro e' wN ⟨rfl, hbZ⟩; have HY4 := cells5 (G8.below hbZ G8.lt))))
                    go_wp2_with fail
                    refine hK.out _ _ ?_ (fun hNew => ?_)
                    · (first | exact HY | exact HY2 | exact HY3 | exact HY4 | assumption)
                    clear hK K hHeld
                    have hHeld := hNew
                    clear hNew
                    try simp only [Act.put, pz1, pz2, pz3]
                    refine wpAnyH_ready (rs := [12]) (by kernel_rfl) (by simp) ?_
                    refine AllReadyH.cons (o := ⟨some 133, .call { callee := .value (.func 19), args := #[.tmp 132], argTypes := #[23] }, 3, "law.go:62", #[⟨11, .data⟩, ⟨8, .chain⟩, ⟨6, .guard⟩], some (6, true)⟩) rfl (fun K hK => ?_) AllReadyH.nil
                    go_simp
                    (first | (go_at_call 18; ((with_reducible refine (lwears_any m gx gb AF fs.length cf a b c d e fs NA _ S (by first | exact hCO.likeB hBo | exact ChipW.drew (hCO.likeB hBo)) hNA.out).mono ?_); rintro e' wN ⟨⟨A7, c7, rfl, hs7⟩, hb⟩; (try have hb := undrew hb); replace hBo := btr hBo hBo.size hb; have HY2 := cells5 (GO.below hBo GO.lt))) | (go_at_call 17; ((with_reducible refine (rspread_v _ _ NA NA HLN A7 (some ⟨g2, 0, none⟩) c7 c2w _ SP hF.sp hs7 (Sl.of_own (own_belowA R2O hBo)) (by omega) (by omega) HWB).mono ?_); rintro e' wN ⟨rfl, hb⟩; replace hBo := btr hBo hBo.size hb; have HY2 := cells5 (GO.below hBo GO.lt))) | (go_at_call 15; ((with_reducible refine (alimit_any m gx gb AF fs.length cf a b c d e fs 700 _ S (by first | exact hCO.likeB hBo | exact ChipW.drew (hCO.likeB hBo)) hG.fine (by omega) LM hF.lm).mono ?_); rintro e' wN ⟨rfl, hb⟩; (try have hb := undrew hb); replace hBo := btr hBo hBo.size hb; have HY2 := cells5 (GO.below hBo GO.lt))) | (go_at_call 19; ((with_reducible refine (slack_v a b c d e _ HM).mono ?_); rintro e' wN ⟨rfl, hb⟩; (try have hb := undrew hb); replace hBo := btr hBo hBo.size hb; have HY2 := cells5 (GO.below hBo GO.lt))) | (go_at_call 20; ((with_reducible refine (cuts_v m gx gb AF fs.length cf a b c d e fs cu _ S (by first | exact hCO.likeB hBo | exact ChipW.drew (hCO.likeB hBo)) hF.cu).mono ?_); rintro e' wN ⟨rfl, rfl⟩; skip)) | (go_at_call 21; ((with_reducible refine (why_low m gx gb AF fs.length cf a b c d e fs NA NB 700 acc _ S S1 (by first | exact hCO.likeB hBo | exact ChipW.drew (hCO.likeB hBo)) hG (by omega) hF.b8 hF.on hNA hNB hF.w 0 hF.f (by omega) hF.ok hF.du SP LM hF.sp1 hF.lm1 (by omega)).mono ?_); rintro e' wN ⟨rfl, -, hT8, -⟩; have G8 := hT8.blk (GO.below hBo GO.lt) hnb; have HY3 := cells5 G8)) | (go_at_call 5; ((with_reducible refine (awake23 _).mono ?_); rintro e' wN ⟨rfl, hbZ⟩; have HY4 := cells5 (G8.below hbZ G8.lt))))
                    go_wp2_with fail
                    refine hK.out _ _ ?_ (fun hNew => ?_)
                    · (first | exact HY | exact HY2 | exact HY3 | exact HY4 | assumption)
                    clear hK K hHeld
                    have hHeld := hNew
                    clear hNew
                    try simp only [Act.put, pz1, pz2, pz3]
                    refine tk 13 ⟨some 134, .binOp .add 3 (.tmp 131) (.tmp 133) 3, 3, "law.go:62", #[⟨10, .data⟩, ⟨12, .data⟩, ⟨6, .guard⟩], some (6, true)⟩ ?_; try simp only [Act.put, pz1, pz2, pz3]
                    refine wpAnyH_ready (rs := [15]) (by kernel_rfl) (by simp) ?_
                    refine AllReadyH.cons (o := ⟨some 136, .call { callee := .value (.func 20), args := #[.tmp 135], argTypes := #[26] }, 3, "law.go:62", #[⟨14, .data⟩, ⟨12, .chain⟩, ⟨6, .guard⟩], some (6, true)⟩) rfl (fun K hK => ?_) AllReadyH.nil
                    go_simp
                    (first | (go_at_call 18; ((with_reducible refine (lwears_any m gx gb AF fs.length cf a b c d e fs NA _ S (by first | exact hCO.likeB hBo | exact ChipW.drew (hCO.likeB hBo)) hNA.out).mono ?_); rintro e' wN ⟨⟨A7, c7, rfl, hs7⟩, hb⟩; (try have hb := undrew hb); replace hBo := btr hBo hBo.size hb; have HY2 := cells5 (GO.below hBo GO.lt))) | (go_at_call 17; ((with_reducible refine (rspread_v _ _ NA NA HLN A7 (some ⟨g2, 0, none⟩) c7 c2w _ SP hF.sp hs7 (Sl.of_own (own_belowA R2O hBo)) (by omega) (by omega) HWB).mono ?_); rintro e' wN ⟨rfl, hb⟩; replace hBo := btr hBo hBo.size hb; have HY2 := cells5 (GO.below hBo GO.lt))) | (go_at_call 15; ((with_reducible refine (alimit_any m gx gb AF fs.length cf a b c d e fs 700 _ S (by first | exact hCO.likeB hBo | exact ChipW.drew (hCO.likeB hBo)) hG.fine (by omega) LM hF.lm).mono ?_); rintro e' wN ⟨rfl, hb⟩; (try have hb := undrew hb); replace hBo := btr hBo hBo.size hb; have HY2 := cells5 (GO.below hBo GO.lt))) | (go_at_call 19; ((with_reducible refine (slack_v a b c d e _ HM).mono ?_); rintro e' wN ⟨rfl, hb⟩; (try have hb := undrew hb); replace hBo := btr hBo hBo.size hb; have HY2 := cells5 (GO.below hBo GO.lt))) | (go_at_call 20; ((with_reducible refine (cuts_v m gx gb AF fs.length cf a b c d e fs cu _ S (by first | exact hCO.likeB hBo | exact ChipW.drew (hCO.likeB hBo)) hF.cu).mono ?_); rintro e' wN ⟨rfl, rfl⟩; skip)) | (go_at_call 21; ((with_reducible refine (why_low m gx gb AF fs.length cf a b c d e fs NA NB 700 acc _ S S1 (by first | exact hCO.likeB hBo | exact ChipW.drew (hCO.likeB hBo)) hG (by omega) hF.b8 hF.on hNA hNB hF.w 0 hF.f (by omega) hF.ok hF.du SP LM hF.sp1 hF.lm1 (by omega)).mono ?_); rintro e' wN ⟨rfl, -, hT8, -⟩; have G8 := hT8.blk (GO.below hBo GO.lt) hnb; have HY3 := cells5 G8)) | (go_at_call 5; ((with_reducible refine (awake23 _).mono ?_); rintro e' wN ⟨rfl, hbZ⟩; have HY4 := cells5 (G8.below hbZ G8.lt))))
                    go_wp2_with fail
                    refine hK.out _ _ ?_ (fun hNew => ?_)
                    · (first | exact HY | exact HY2 | exact HY3 | exact HY4 | assumption)
                    clear hK K hHeld
                    have hHeld := hNew
                    clear hNew
                    try simp only [Act.put, pz1, pz2, pz3]
                    refine tk 16 ⟨some 137, .binOp .add 3 (.tmp 134) (.tmp 136) 3, 3, "law.go:62", #[⟨13, .data⟩, ⟨15, .data⟩, ⟨6, .guard⟩], some (6, true)⟩ ?_; try simp only [Act.put, pz1, pz2, pz3]
                    refine tk 17 ⟨some 138, .binOp .eql 3 (.tmp 129) (.tmp 137) 3, 4, "law.go:62", #[⟨8, .data⟩, ⟨16, .data⟩, ⟨6, .guard⟩], some (6, true)⟩ ?_; try simp only [Act.put, pz1, pz2, pz3]
                    refine tk 18 ⟨some 139, .pick (.tmp 127) (.tmp 138) (.const (.bool false)), 4, "law.go:62", #[⟨6, .data⟩, ⟨17, .data⟩], none⟩ ?_; try simp only [Act.put, pz1, pz2, pz3]
                    refine tk 19 ⟨some 140, .move (.tmp 139), 4, "law.go:62", #[⟨18, .data⟩, ⟨15, .chain⟩], none⟩ ?_; try simp only [Act.put, pz1, pz2, pz3]
                    refine tk 20 ⟨some 141, .move (.tmp 9), 26, "law.go:62", #[⟨19, .guard⟩], some (19, true)⟩ ?_; try simp only [Act.put, pz1, pz2, pz3]
                    refine tk 22 ⟨some 143, .move (.tmp 17), 9, "law.go:62", #[⟨19, .guard⟩], some (19, true)⟩ ?_; try simp only [Act.put, pz1, pz2, pz3]
                    refine wpAnyH_ready (rs := [21]) (by kernel_rfl) (by simp) ?_
                    refine AllReadyH.cons (o := ⟨some 142, .call { callee := .value (.func 21), args := #[.tmp 141], argTypes := #[26] }, 9, "law.go:62", #[⟨20, .data⟩, ⟨19, .chain⟩, ⟨19, .guard⟩], some (19, true)⟩) rfl (fun K hK => ?_) AllReadyH.nil
                    go_simp
                    (first | (go_at_call 18; ((with_reducible refine (lwears_any m gx gb AF fs.length cf a b c d e fs NA _ S (by first | exact hCO.likeB hBo | exact ChipW.drew (hCO.likeB hBo)) hNA.out).mono ?_); rintro e' wN ⟨⟨A7, c7, rfl, hs7⟩, hb⟩; (try have hb := undrew hb); replace hBo := btr hBo hBo.size hb; have HY2 := cells5 (GO.below hBo GO.lt))) | (go_at_call 17; ((with_reducible refine (rspread_v _ _ NA NA HLN A7 (some ⟨g2, 0, none⟩) c7 c2w _ SP hF.sp hs7 (Sl.of_own (own_belowA R2O hBo)) (by omega) (by omega) HWB).mono ?_); rintro e' wN ⟨rfl, hb⟩; replace hBo := btr hBo hBo.size hb; have HY2 := cells5 (GO.below hBo GO.lt))) | (go_at_call 15; ((with_reducible refine (alimit_any m gx gb AF fs.length cf a b c d e fs 700 _ S (by first | exact hCO.likeB hBo | exact ChipW.drew (hCO.likeB hBo)) hG.fine (by omega) LM hF.lm).mono ?_); rintro e' wN ⟨rfl, hb⟩; (try have hb := undrew hb); replace hBo := btr hBo hBo.size hb; have HY2 := cells5 (GO.below hBo GO.lt))) | (go_at_call 19; ((with_reducible refine (slack_v a b c d e _ HM).mono ?_); rintro e' wN ⟨rfl, hb⟩; (try have hb := undrew hb); replace hBo := btr hBo hBo.size hb; have HY2 := cells5 (GO.below hBo GO.lt))) | (go_at_call 20; ((with_reducible refine (cuts_v m gx gb AF fs.length cf a b c d e fs cu _ S (by first | exact hCO.likeB hBo | exact ChipW.drew (hCO.likeB hBo)) hF.cu).mono ?_); rintro e' wN ⟨rfl, rfl⟩; skip)) | (go_at_call 21; ((with_reducible refine (why_low m gx gb AF fs.length cf a b c d e fs NA NB 700 acc _ S S1 (by first | exact hCO.likeB hBo | exact ChipW.drew (hCO.likeB hBo)) hG (by omega) hF.b8 hF.on hNA hNB hF.w 0 hF.f (by omega) hF.ok hF.du SP LM hF.sp1 hF.lm1 (by omega)).mono ?_); rintro e' wN ⟨rfl, -, hT8, -⟩; have G8 := hT8.blk (GO.below hBo GO.lt) hnb; have HY3 := cells5 G8)) | (go_at_call 5; ((with_reducible refine (awake23 _).mono ?_); rintro e' wN ⟨rfl, hbZ⟩; have HY4 := cells5 (G8.below hbZ G8.lt))))
                    go_wp2_with fail
                    refine hK.out _ _ ?_ (fun hNew => ?_)
                    · (first | exact HY | exact HY2 | exact HY3 | exact HY4 | assumption)
                    clear hK K hHeld
                    have hHeld := hNew
                    clear hNew
                    try simp only [Act.put, pz1, pz2, pz3]
                    refine tk 23 ⟨some 144, .binOp .eql 9 (.tmp 142) (.tmp 143) 9, 4, "law.go:62", #[⟨21, .data⟩, ⟨22, .data⟩, ⟨19, .guard⟩], some (19, true)⟩ ?_; try simp only [Act.put, pz1, pz2, pz3]
                    refine tk 24 ⟨some 145, .pick (.tmp 140) (.tmp 144) (.const (.bool false)), 4, "law.go:62", #[⟨19, .data⟩, ⟨23, .data⟩], none⟩ ?_; try simp only [Act.put, pz1, pz2, pz3]
                    refine tk 25 ⟨some 146, .move (.tmp 145), 4, "law.go:62", #[⟨24, .data⟩, ⟨21, .chain⟩], none⟩ ?_; try simp only [Act.put, pz1, pz2, pz3]
                    refine wpAnyH_ready (rs := [26]) (by kernel_rfl) (by simp) ?_
                    refine AllReadyH.cons (o := ⟨some 147, .call { callee := .value (.func 5), args := #[], argTypes := #[] }, 4, "law.go:62", #[⟨25, .chain⟩, ⟨25, .guard⟩], some (25, true)⟩) rfl (fun K hK => ?_) AllReadyH.nil
                    go_simp
                    (first | (go_at_call 18; ((with_reducible refine (lwears_any m gx gb AF fs.length cf a b c d e fs NA _ S (by first | exact hCO.likeB hBo | exact ChipW.drew (hCO.likeB hBo)) hNA.out).mono ?_); rintro e' wN ⟨⟨A7, c7, rfl, hs7⟩, hb⟩; (try have hb := undrew hb); replace hBo := btr hBo hBo.size hb; have HY2 := cells5 (GO.below hBo GO.lt))) | (go_at_call 17; ((with_reducible refine (rspread_v _ _ NA NA HLN A7 (some ⟨g2, 0, none⟩) c7 c2w _ SP hF.sp hs7 (Sl.of_own (own_belowA R2O hBo)) (by omega) (by omega) HWB).mono ?_); rintro e' wN ⟨rfl, hb⟩; replace hBo := btr hBo hBo.size hb; have HY2 := cells5 (GO.below hBo GO.lt))) | (go_at_call 15; ((with_reducible refine (alimit_any m gx gb AF fs.length cf a b c d e fs 700 _ S (by first | exact hCO.likeB hBo | exact ChipW.drew (hCO.likeB hBo)) hG.fine (by omega) LM hF.lm).mono ?_); rintro e' wN ⟨rfl, hb⟩; (try have hb := undrew hb); replace hBo := btr hBo hBo.size hb; have HY2 := cells5 (GO.below hBo GO.lt))) | (go_at_call 19; ((with_reducible refine (slack_v a b c d e _ HM).mono ?_); rintro e' wN ⟨rfl, hb⟩; (try have hb := undrew hb); replace hBo := btr hBo hBo.size hb; have HY2 := cells5 (GO.below hBo GO.lt))) | (go_at_call 20; ((with_reducible refine (cuts_v m gx gb AF fs.length cf a b c d e fs cu _ S (by first | exact hCO.likeB hBo | exact ChipW.drew (hCO.likeB hBo)) hF.cu).mono ?_); rintro e' wN ⟨rfl, rfl⟩; skip)) | (go_at_call 21; ((with_reducible refine (why_low m gx gb AF fs.length cf a b c d e fs NA NB 700 acc _ S S1 (by first | exact hCO.likeB hBo | exact ChipW.drew (hCO.likeB hBo)) hG (by omega) hF.b8 hF.on hNA hNB hF.w 0 hF.f (by omega) hF.ok hF.du SP LM hF.sp1 hF.lm1 (by omega)).mono ?_); rintro e' wN ⟨rfl, -, hT8, -⟩; have G8 := hT8.blk (GO.below hBo GO.lt) hnb; have HY3 := cells5 G8)) | (go_at_call 5; ((with_reducible refine (awake23 _).mono ?_); rintro e' wN ⟨rfl, hbZ⟩; have HY4 := cells5 (G8.below hbZ G8.lt))))
                    go_wp2_with fail
                    refine hK.out _ _ ?_ (fun hNew => ?_)
                    · (first | exact HY | exact HY2 | exact HY3 | exact HY4 | assumption)
                    clear hK K hHeld
                    have hHeld := hNew
                    clear hNew
                    try simp only [Act.put, pz1, pz2, pz3]
                    refine tk 27 ⟨some 148, .pick (.tmp 146) (.tmp 147) (.const (.bool false)), 4, "law.go:62", #[⟨25, .data⟩, ⟨26, .data⟩], none⟩ ?_; try simp only [Act.put, pz1, pz2, pz3]
                    refine tk 28 ⟨some 8, .assign (.tmp 148), 4, "law.go:62", #[⟨27, .data⟩, ⟨26, .chain⟩, ⟨0, .phase⟩, ⟨1, .phase⟩, ⟨2, .phase⟩, ⟨3, .phase⟩, ⟨4, .phase⟩, ⟨5, .phase⟩, ⟨6, .phase⟩, ⟨7, .phase⟩, ⟨8, .phase⟩, ⟨9, .phase⟩, ⟨10, .phase⟩, ⟨11, .phase⟩, ⟨12, .phase⟩, ⟨13, .phase⟩, ⟨14, .phase⟩, ⟨15, .phase⟩, ⟨16, .phase⟩, ⟨17, .phase⟩, ⟨18, .phase⟩, ⟨19, .phase⟩, ⟨20, .phase⟩, ⟨21, .phase⟩, ⟨22, .phase⟩, ⟨23, .phase⟩, ⟨24, .phase⟩, ⟨25, .phase⟩, ⟨26, .phase⟩, ⟨27, .phase⟩], none⟩ ?_; try simp only [Act.put, pz1, pz2, pz3]
                    refine wpAnyH_done (by kernel_rfl) ?_ _
                    refine NoPanic.normal ?_
                    clear hHeld
                    go_wp2_with fail
                    go_ret
                    have hF2 := HBO.trans ((hBo.mono HBO.size).trans (hT8.below (by have := HBO.size; have := hBo.size; omega) (fun g hg => Nat.le_of_lt (hlow g hg))))
                    exact ⟨rfl, btr hF2 hF2.size hbZ⟩
  · have hi20 : (20 : Int) < (fs.length : Int) := by omega
    go_enter Try.func3, Try.ntmps3
    go_wp2_with (go_at_call 5; ((with_reducible refine (awake23 _).mono ?_); rintro e' wN ⟨rfl, hbZ⟩; skip))
    go_ret
    exact ⟨rfl, btr HB0 HB0.size hbZ⟩
end Go.Proofs.Ytdfojhkpfbnmgaa
namespace Go.Proofs.Ytdfojhkpfbnmgaa
open Go.ChangeShapes Go.WideShapes Go.ChangeAt Go.RowKit Go.Deep
section
variable {H : Type} {enc : TypeId × Value → H} {P : Program} {w : World} {base : Nat} {spare : Nat → Bool} {held : Bool}
end
end Go.Proofs.Ytdfojhkpfbnmgaa
