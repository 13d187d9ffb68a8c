/- settle: what was written counts. -/
import Derived.Test.YtkpcohfdcilfcaaGreatFn6
import Derived.Test.YtkpcohfdcilfcaaGreatFn5
import Derived.Test.YtkpcohfdcilfcaaGreatFn3
import Derived.LaidEqlPtr
set_option linter.unusedSimpArgs false
set_option linter.unusedVariables false
set_option maxRecDepth 100000
set_option maxHeartbeats 16000000
namespace Go.Proofs.YtkpcohfdcilfcaaGreat
open Go.ChangeShapes Go.WideShapes Go.ChangeAt Go.RowKit
attribute [local go_sem ↓] Go.wp_at_zero Go.wp_at_succ
theorem sl_at {w : World} {B : Nat} {A : Option Addr} {vs : List Value} (h : Sl w B A vs) {k : Nat} {v : Value} (hv : vs[k]? = some v) : ∃ b off, A = some ⟨b, off, none⟩ ∧ w.cell? ⟨b, off + k, none⟩ = some v := by
  rcases h with h | ⟨b, off, hA, hl, hq⟩
  · subst h
    simp at hv
  · exact ⟨b, off, hA, hq k v hv⟩
theorem atf_f (F : FlK) (a b c d e : Int) (fs : List Flt) (L N : Nat) (s : FlS) (k : Nat) (w : World) (hF : FlW w F a b c d e fs L N s) (B : Bool) (hB : hasB s.fA (k : Int) = B) :
    Calls Tryz.prog 113 #[.pointer (some ⟨F.fr, 0, none⟩), .int .i64 (k : Int)] w fun e' w' => (∃ x y : Int, e' = .returned (.tuple #[.agg #[.int .i64 x, .int .i64 y], .bool B]) ∧ (B = true → x = s.fA.getD k (-1) / b ∧ y = s.fA.getD k (-1) % b)) ∧ Below w.heap.size w w' := by
  obtain ⟨W, hM⟩ := hF.fresh
  obtain ⟨l1, l2, -⟩ := hF.bL
  refine (at_any _ _ _ a b c d e L N s.fA W (k : Int) w hM (Lib.hid hF.may) l1 l2).mono ?_
  rintro e' w' ⟨rfl, h⟩
  refine ⟨?_, h⟩
  unfold atT
  rw [hB]
  cases B
  · exact ⟨0, 0, rfl, fun h => by cases h⟩
  · exact ⟨_, _, rfl, fun _ => ⟨rfl, rfl⟩⟩
def stlStep (a b : Int) (s : FlS) (p : Nat) : FlS := { s with kA := putL a b s.kA (p : Int) (s.fA.getD p (-1) / b) (s.fA.getD p (-1) % b), tr := s.tr.set p (!hasF s p), wt := s.wt.set p ⟨0, []⟩, st := s.st.set p false }
def stlF (a b : Int) (s : FlS) (ps : List Nat) : FlS := ps.foldl (stlStep a b) s
theorem stl_fA (a b : Int) : ∀ (ps : List Nat) (s : FlS), (stlF a b s ps).fA = s.fA
  | [], s => rfl
  | p :: ps, s => stl_fA a b ps (stlStep a b s p)
theorem stl_next {a b : Int} {s : FlS} {ps : List Nat} {k p : Nat} (h : ps[k]? = some p) : stlF a b s (ps.take (k + 1)) = stlStep a b (stlF a b s (ps.take k)) p := by
  unfold stlF
  rw [List.take_add_one, h, List.foldl_append]
  rfl
structure FlNx (w : World) (F F' : FlK) : Prop where
  fm : F'.fm = F.fm
  m : F'.m = F.m
  gx : F'.gx = F.gx
  gb : F'.gb = F.gb
  Af : F'.Af = F.Af
  nf : F'.nf = F.nf
  cf : F'.cf = F.cf
  own : ∀ g, FlB F' g → FlB F g ∨ w.heap.size ≤ g
  dat : ∀ g ∈ F'.dat, g ∈ F.dat ∨ w.heap.size ≤ g
theorem FlNx.refl (w : World) (F : FlK) : FlNx w F F := ⟨rfl, rfl, rfl, rfl, rfl, rfl, rfl, fun _ h => Or.inl h, fun _ h => Or.inl h⟩
theorem FlNx.trans {w w' : World} {F F' F'' : FlK} (h : FlNx w F F') (k : FlNx w' F' F'') (hz : w.heap.size ≤ w'.heap.size) : FlNx w F F'' :=
  ⟨k.fm.trans h.fm, k.m.trans h.m, k.gx.trans h.gx, k.gb.trans h.gb, k.Af.trans h.Af, k.nf.trans h.nf, k.cf.trans h.cf, fun g hg => (k.own g hg).elim (h.own g) (fun q => Or.inr (Nat.le_trans hz q)), fun g hg => (k.dat g hg).elim (h.dat g) (fun q => Or.inr (Nat.le_trans hz q))⟩
theorem FlNx.tch {w w1 w2 : World} {F F' : FlK} (h : FlNx w F F') (hT : Tch (FlB F) w w1) (hT2 : Tch (FlB F') w1 w2) : Tch (FlB F) w w2 :=
  ((hT.mono (S' := fun g => FlB F g ∨ FlB F' g) (fun g h => Or.inl h)).trans (hT2.mono (fun g h => Or.inr h))).monoL (fun g hg q => q.elim id (fun q => (h.own g q).elim id (fun q2 => absurd hg (by omega))))
theorem settle_f (F : FlK) (a b c d e : Int) (fs : List Flt) (L N : Nat) (s : FlS) (ps : List Nat) (n : Nat) (hn : ps.length = n) (A : Option Addr) (cA : Nat) (cx cy : Int) (w : World) (hF : FlW w F a b c d e fs L N s) (hSl : Sl w w.heap.size A (ps.map fun (p : Nat) => Value.int .i64 (p : Int))) (hdis : ps ≠ [] → ∀ h o, A = some ⟨h, o, none⟩ → ¬ FlB F h) (hps : ∀ p ∈ ps, p < L ∧ hasB s.fA (p : Int) = true) (n1 : n ≤ 100000) :
    Calls Tryz.prog 80 #[.pointer (some ⟨F.fm, 0, none⟩), .slice A n cA, .agg #[.int .i64 cx, .int .i64 cy]] w fun e' w' => (∃ v, e' = .returned v) ∧ (∃ F', FlW w' F' a b c d e fs L N { stlF a b s ps with fA := List.replicate L (-1), cx := cx, cy := cy, sld := true } ∧ FlNx w F F') ∧ Tch (FlB F) w w' := by
  have HN := Lib.hid hn
  have HPS := Lib.hid hps
  have hm := hF.may
  obtain ⟨lb1, lb2, lb3, lb4⟩ := hF.bL
  have hLN := hF.hL
  have hNN := hF.hN
  have HMB := Lib.hid hm
  have HLG := Lib.hid hLN
  obtain ⟨ha1, ha2, hb1, hb2, -, -, hd1, hd2, -⟩ := may_bd hm
  have hLb : 1 ≤ L := by
    obtain ⟨p1, p2⟩ := prod_bd (x := a - d - 3) (b := b) (by omega) (by omega) hb1 hb2
    have h9 := (may_bd hm).2.2.2.2.2.2.2.2.2.2
    unfold logicalI at hLN h9
    omega
  have hNb : 1 ≤ N := by
    have h := Int.mul_pos (show (0 : Int) < a by omega) (show (0 : Int) < b by omega)
    omega
  have n1L : 1 ≤ L := hLb
  have n2L : L ≤ 1000 := lb1
  have m1N : 1 ≤ N := hNb
  have m2N : N ≤ 1000 := lb2
  clear hn hps hm hLN hLb hNb ha1 ha2 hb1 hb2 hd1 hd2 lb1 lb2 lb3 lb4
  go_enter Tryz.func80, Tryz.ntmps80
  go_upto_region 1 with fail
  obtain ⟨V, hV⟩ : ∃ V : World, V = w.alloc (.cells #[.int .i64 cx, .int .i64 cy] 68) := ⟨_, rfl⟩
  have bV : Below w.heap.size w V := by rw [hV]; exact (Below.refl _ _).alloc (Nat.le_refl _) _
  have BC : Blk V w.heap.size 68 #[.int .i64 cx, .int .i64 cy] := by rw [hV]; exact Blk.new_ _ _ _
  rw [← hV]
  obtain ⟨g5, hg5⟩ : ∃ g, w.heap.size = g := ⟨_, rfl⟩
  have hg5B : ∀ g, FlB F g → ¬ g = g5 := fun g h e => by have := hF.blt h; omega
  rw [hg5] at BC ⊢
  have hGV := hF.below bV
  have hSlV := hSl.next bV
  have hgV : g5 < V.heap.size := BC.lt
  clear hV hg5 hSl
  go_wp2_with fail
  go_loopw [13] (fun i wr => ∃ (k : Nat) (X : List (Option Addr × Nat)), k ≤ n ∧ i = .int .i64 k ∧ Hid (∃ S, stlF a b s (ps.take k) = S ∧ FlW wr { F with wa := X } a b c d e fs L N S) ∧ Tch (FlB F) V wr) (fun i _ => n - (intOf i).toNat)
  case atStart => exact ⟨0, F.wa, by omega, rfl, Lib.hid ⟨s, rfl, hGV⟩, Tch.refl V⟩
  case round =>
    obtain ⟨k, X, hk, rfl, HR, HT⟩ := hrel
    obtain ⟨S, hS, hG⟩ := HR.out
    have HS := Lib.hid hS
    clear HR hS
    by_cases hlt : k < n
    · obtain ⟨p, hp0⟩ : ∃ p, ps[k]? = some p := ⟨_, List.getElem?_eq_getElem (by have := HN.out; omega)⟩
      have hpm := List.mem_of_getElem? hp0
      obtain ⟨hp, hpB⟩ := HPS.out p hpm
      have hne : ps ≠ [] := fun e => by rw [e] at hpm; cases hpm
      obtain ⟨bq, oq, hAq, hcq⟩ := sl_at (slT hSlV HT (Nat.le_refl _) (fun _ => hdis hne)) (k := k) (v := .int .i64 (p : Int)) (by rw [List.getElem?_map, hp0]; rfl)
      subst hAq
      have HB : Hid (hasB S.fA (p : Int) = true) := Lib.hid (by rw [← HS.out, stl_fA]; exact hpB)
      have hst := stl_next (a := a) (b := b) (s := s) hp0
      rw [HS.out] at hst
      have HST := Lib.hid hst
      obtain ⟨T, hT2⟩ : ∃ T, hasF S p = T := ⟨_, rfl⟩
      have HT2 := Lib.hid hT2
      have i0 : (0 : Int) ≤ (k : Int) := by omega
      have i1 : (k : Int) < (n : Int) := by omega
      have p0 : (0 : Int) ≤ (p : Int) := by omega
      have p1 : (p : Int) < (L : Int) := by omega
      have k12 := hG.c12
      clear hst hT2 hpB hpm hp0 hne
      go_upto_region 5 with ((go_at_call 70; go_loud (((with_reducible refine (has_f { F with wa := X } a b c d e fs L N S p _ hG hp _ HT2.out).mono ?_); rintro e' w2 ⟨rfl, b2⟩; have hG2 := hG.below b2))))
      have k12 := hG2.c12
      go_upto_region 6 with ((go_at_call 113; go_loud (((with_reducible refine (atf_f { F with wa := X } a b c d e fs L N S p _ hG2 true HB.out).mono ?_); rintro e' w3 ⟨⟨x, y, rfl, hXY⟩, b3⟩; (obtain ⟨e1, e2⟩ := hXY rfl); have HE := Lib.hid (And.intro e1 e2); clear hXY e1 e2; have hG3 := hG2.below b3))))
      obtain ⟨V9, hV⟩ : ∃ V : World, V = w3.alloc (.cells #[.int .i64 x, .int .i64 y] 68) := ⟨_, rfl⟩
      have bV9 : Below w3.heap.size w3 V9 := by rw [hV]; exact (Below.refl _ _).alloc (Nat.le_refl _) _
      have BX : Blk V9 w3.heap.size 68 #[.int .i64 x, .int .i64 y] := by rw [hV]; exact Blk.new_ _ _ _
      rw [← hV]
      have hG9 := hG3.below bV9
      obtain ⟨g9, hg9⟩ : ∃ g, w3.heap.size = g := ⟨_, rfl⟩
      have hgf : ∀ h, FlB F h → g9 ≠ h := fun h hb e => by
        have := hG3.blt (g := h) hb
        omega
      rw [hg9] at BX ⊢
      have TT9 : Tch (FlB F) V V9 := ((HT.trans (tch_bel b2)).trans (tch_bel b3)).trans (tch_bel bV9)
      clear hV hg9 k12 hcq
      have hGD := hG9.drew_
      have BXD := BX.drew_F
      obtain ⟨o0, o1⟩ : _ ∧ _ := ⟨BXD.cell_ 0, BXD.cell_ 1⟩
      simp at o0 o1
      have QD : V9.drew.cell? ⟨F.fm, 10, none⟩ = some (.pointer (some ⟨F.km, 0, none⟩)) ∧ V9.drew.cell? ⟨g9, 0, none⟩ = some (.int .i64 x) ∧ V9.drew.cell? ⟨g9, 1, none⟩ = some (.int .i64 y) := ⟨hGD.c10, o0, o1⟩
      go_cut [36] (fun v wx => FlW wx { F with wa := X } a b c d e fs L N { S with kA := putL a b S.kA (p : Int) x y } ∧ Tch (FlB F) V9 wx)
      case first =>
        refine wp_region_noPanic ?_
        refine wp_region_held_drew (S := (fun w_ => w_.cell? ⟨F.fm, 10, none⟩ = some (.pointer (some ⟨F.km, 0, none⟩)) ∧ w_.cell? ⟨g9, 0, none⟩ = some (.int .i64 x) ∧ w_.cell? ⟨g9, 1, none⟩ = some (.int .i64 y))) (by kernel_rfl) ?_ (fun hHeld => ?_)
        · (first | with_reducible exact QD | with_reducible exact hNext | assumption)
        refine tk 0 ?_; try simp only [Act.put, pz1, pz2, pz3]
        refine tk 1 ?_; try simp only [Act.put, pz1, pz2, pz3]
        refine tk 2 ?_; try simp only [Act.put, pz1, pz2, pz3]
        refine tk 3 ?_; try simp only [Act.put, pz1, pz2, pz3]
        refine tk 4 ?_; try simp only [Act.put, pz1, pz2, pz3]
        refine tk 5 ?_; try simp only [Act.put, pz1, pz2, pz3]
        refine wpAnyH_ready (rs := [6]) (by kernel_rfl) (by simp) ?_
        refine AllReadyH.cons (o := ⟨some 36, .call { callee := .value (.func 92), args := #[.tmp 33, .tmp 34, .tmp 35], argTypes := #[82, 3, 68] }, 4, "write.go:76", #[⟨3, .data⟩, ⟨4, .data⟩, ⟨5, .data⟩], none⟩) rfl (fun K hK => ?_) AllReadyH.nil
        go_simp
        (go_at_call 92; go_loud (((with_reducible refine (put_f { F with wa := X } a b c d e fs L N S (p : Int) x y _ hGD (putB a b S.kA (p : Int) x y) rfl).mono ?_); rintro e' w5 ⟨rfl, hG5, hT5⟩; have BX5 := hT5.blk BXD (fun h => hgf _ h rfl); have p2 := BX5.cell_ 0; have p3 := BX5.cell_ 1; simp at p2 p3; have hNext : w5.cell? ⟨F.fm, 10, none⟩ = some (.pointer (some ⟨F.km, 0, none⟩)) ∧ w5.cell? ⟨g9, 0, none⟩ = some (.int .i64 x) ∧ w5.cell? ⟨g9, 1, none⟩ = some (.int .i64 y) := ⟨hG5.c10, p2, p3⟩)))
        go_wp2_with fail
        refine hK.out _ _ ?_ (fun hNew => ?_)
        · (first | with_reducible exact QD | with_reducible exact hNext | assumption)
        clear hK K hHeld
        have hHeld := hNew
        clear hNew
        try simp only [Act.put, pz1, pz2, pz3]
        refine wpAnyH_done (by kernel_rfl) ?_ _
        refine NoPanic.normal ?_
        go_wp2_with fail
        go_meet
        exact ⟨hG5, (tch_bel (below_dr V9)).trans hT5⟩
      case rest =>
        obtain ⟨hG7, hT7⟩ := hcut
        have TT7 := TT9.trans hT7
        clear QD hGD BXD BX hG9 o0 o1
        have k11 := hG7.c11
        have fz := RowT.free hG7.tr p
        obtain ⟨tv, htv⟩ := rowB hG7.tr hG7.ltr hp
        have hC := hG7.trSet hp (!T)
        go_upto_region 8 with fail
        obtain ⟨V1, hV⟩ : ∃ V : World, V = wc.setCell ⟨F.gt, p, none⟩ (.bool (!T)) := ⟨_, rfl⟩
        have hGa := hC.1
        have TTa := TT7.trans hC.2
        (try simp only [] at hGa TTa)
        rw [← hV]
        have hGa : FlW V1 { F with wa := X } a b c d e fs L N { S with kA := putL a b S.kA (p : Int) x y, tr := S.tr.set p (!T) } := by rw [hV]; exact hGa
        have TTa : Tch (FlB F) V V1 := by rw [hV]; exact TTa
        clear hV hC k11 fz htv hG7
        have k16 := hGa.c16
        have hvl := wtV_len hGa.lwt hGa.lwa
        obtain ⟨x3, A3, cA3, -, -, y0, y1, -⟩ := hGa.wt_ hp
        have f0 := hGa.wt.free (p * 2)
        have f1 := hGa.wt.free (p * 2 + 1)
        have RT := (hGa.wt.set_ (i := p * 2) (by omega) (.int .i64 0)).set_ (i := p * 2 + 1) (by rw [List.length_set]; omega) (.slice none 0 0)
        have WP := hGa.wtCut hp 0 ((Tch.setm V1 F.gw (p * 2) _).trans (Tch.setm _ F.gw (p * 2 + 1) _)) RT
        clear hvl RT
        go_upto_region 9 with fail
        obtain ⟨V2, hV⟩ : ∃ V : World, V = (V1.setCell ⟨F.gw, p * 2, none⟩ (.int .i64 0)).setCell ⟨F.gw, p * 2 + 1, none⟩ (.slice none 0 0) := ⟨_, rfl⟩
        have hGb : FlW V2 { F with wa := X.set p (none, 0) } a b c d e fs L N { S with kA := putL a b S.kA (p : Int) x y, tr := S.tr.set p (!T), wt := S.wt.set p ⟨0, []⟩ } := by rw [hV]; exact WP.1
        have TTb : Tch (FlB F) V V2 := by rw [hV]; exact TTa.trans WP.2
        rw [← hV]
        clear hV WP k16 y0 y1 f0 f1 hGa
        have k17 := hGb.c17
        have fz := RowT.free hGb.st p
        obtain ⟨tv, htv⟩ := rowB hGb.st hGb.lst hp
        have hC := hGb.stSet hp false
        go_wp2_with fail
        go_roundw
        case rel =>
          refine ⟨k + 1, X.set p (none, 0), by omega, by go_num, Lib.hid ⟨_, ?_, hC.1⟩, TTb.trans hC.2⟩
          rw [HST.out]
          unfold stlStep
          rw [← HE.out.1, ← HE.out.2, HT2.out]
        case measure => simp [intOf]; omega
    · obtain rfl : k = n := by omega
      have hS9 : S = stlF a b s ps := by rw [← HS.out, List.take_of_length_le (by rw [HN.out]; exact Nat.le_refl _)]
      have HS9 := Lib.hid hS9
      obtain ⟨z1, z2, z3, z4, z5⟩ : _ ∧ _ ∧ _ ∧ _ ∧ _ := ⟨hG.c1, hG.c2, hG.c3, hG.c4, hG.c5⟩
      clear hS9 HS
      go_upto_region 12 with ((go_at_call 76; go_loud (((with_reducible refine (new_yes a b c d e L N _ HMB HLG hNN n1L n2L m1N m2N).mono ?_); rintro e' w7 ⟨⟨nm, n1, n2, rfl, hM7, q1, q2, q3⟩, b7⟩; have k12 := (hG.below b7).c12; have f12 := (hG.below b7).free 12; have HNW := hG.newFr b7 hM7 q1 q2 q3))))
      obtain ⟨V1, hV⟩ : ∃ V : World, V = w7.setCell ⟨F.fm, 12, none⟩ (.pointer (some ⟨nm, 0, none⟩)) := ⟨_, rfl⟩
      have hGa : FlW V1 (FlK.newF { F with wa := X } nm n1 n2) a b c d e fs L N { S with fA := List.replicate L (-1) } := by rw [hV]; exact HNW.1
      have TTa : Tch (FlB F) V V1 := by rw [hV]; exact HT.trans HNW.2
      rw [← hV]
      clear hV HNW k12 f12 z1 z2 z3 z4 z5
      have BC1 := TTa.blk BC (fun h => hg5B _ h rfl)
      obtain ⟨o0, o1⟩ : _ ∧ _ := ⟨BC1.cell_ 0, BC1.cell_ 1⟩
      simp at o0 o1
      have k13 : V1.cell? ⟨F.fm, 13, none⟩ = some (.int .i64 S.cx) := hGa.c13
      have k14 : V1.cell? ⟨F.fm, 14, none⟩ = some (.int .i64 S.cy) := hGa.c14
      have k15 : V1.cell? ⟨F.fm, 15, none⟩ = some (.bool S.sld) := hGa.c15
      have f13 : V1.frozen? ⟨F.fm, 13, none⟩ = false := hGa.free 13
      have f14 : V1.frozen? ⟨F.fm, 14, none⟩ = false := hGa.free 14
      have f15 : V1.frozen? ⟨F.fm, 15, none⟩ = false := hGa.free 15
      have hC := hGa.comSet cx cy
      have hzz : w.heap.size ≤ wr.heap.size := Nat.le_trans bV.size HT.size
      have HFX : ∀ g, FlB (FlK.newF { F with wa := X } nm n1 n2) g → FlB F g ∨ w.heap.size ≤ g := fun g h => (flB_newF h).imp (fun h => h) (fun h => by omega)
      have HNX : FlNx w F (FlK.newF { F with wa := X } nm n1 n2) := ⟨rfl, rfl, rfl, rfl, rfl, rfl, rfl, HFX, fun g h => Or.inl h⟩
      have TF : Tch (FlB F) w V1 := (tch_bel bV).trans TTa
      have TFF := HNX.tch TF hC.2
      go_wp2_with fail
      refine bodyPost_end (v := .tuple #[]) (by simp [results, Tryz.results80, go_sem]) rfl ⟨⟨_, rfl⟩, ⟨_, ?_, HNX⟩, TFF⟩
      rw [← HS9.out]
      exact hC.1
end Go.Proofs.YtkpcohfdcilfcaaGreat
namespace Go.Proofs.YtkpcohfdcilfcaaGreat
open Go.ChangeShapes Go.WideShapes Go.ChangeAt Go.RowKit
attribute [local go_sem ↓] Go.wp_at_zero Go.wp_at_succ
structure WrOk (a b : Int) (nd : Nat) (d : Int) (fs : List Flt) (s : FlS) (p : Nat) (s' : FlS) : Prop where
  ex : ∃ (q kb ub ep : Nat) (x : Wt) (n : Int) (S1 : ChS), s.wt[p]? = some x ∧ x.kind = 1 ∧ s.epoch = (ep : Int) ∧ s.seq = (q : Int) ∧ q ≤ 1000000000 ∧ OpenOk a b d fs s.ch kb ∧ (kb : Int) < a ∧ s.ch.ask a (kb : Int) 0 = (ub : Int) ∧ (ub : Int) < b ∧ Bytes8 x.dat ∧ x.dat.length = nd ∧ ep < 16777216 ∧ Fine s.ch n ∧ n ≤ 900000000 ∧ s.ch.progZ a b (nd : Int) fs (kb : Int) (ub : Int) (nd + 16) = 0 ∧ s.ch.progS a b (nd : Int) fs (kb : Int) (ub : Int) (rawB x.dat 1 p (q + 1) ep) = S1 ∧ ({ s with seq := ((q : Int) + 1), ch := S1 } : FlS).over a d fs = false ∧ s' = { s with seq := (q : Int) + 1, ch := S1, degr := false, fA := putL a b s.fA (p : Int) (kb : Int) (ub : Int) }
theorem writePage_w (F : FlK) (a b d e : Int) (fs : List Flt) (L N nd : Nat) (s s' : FlS) (p : Nat) (w : World) (hF : FlW w F a b (nd : Int) d e fs L N s) (h : WrOk a b nd d fs s p s') : Calls Tryz.prog 78 #[.pointer (some ⟨F.fm, 0, none⟩), .int .i64 (p : Int)] w fun e' w' => e' = .returned (.int .i64 0) ∧ FlW w' F a b (nd : Int) d e fs L N s' ∧ Tch (FlB F) w w' := by
  obtain ⟨q, kb, ub, ep, x, n, S1, h1, h2, h3, h4, h5, h6, h7, h8, h9, h10, h11, h12, h13, h14, h15, h16, h17, rfl⟩ := h.ex
  exact writePage_wait F a b d e fs L N s q kb ub p ep nd x n w hF h1 h2 h3 h4 h5 h6 h7 h8 h9 h10 h11 h12 h13 h14 S1 h15 h16 h17
def WChain (a b : Int) (nd : Nat) (d : Int) (fs : List Flt) : FlS → List Nat → FlS → Prop
  | s, [], s' => s = s'
  | s, p :: ps, s' => ∃ s1, WrOk a b nd d fs { s with st := s.st.set p true } p s1 ∧ WChain a b nd d fs s1 ps s'
theorem WChain.next {a b : Int} {nd : Nat} {d : Int} {fs : List Flt} {s s' : FlS} {ps : List Nat} {k p : Nat} (h : WChain a b nd d fs s (ps.drop k) s') (hp : ps[k]? = some p) : ∃ s1, WrOk a b nd d fs { s with st := s.st.set p true } p s1 ∧ WChain a b nd d fs s1 (ps.drop (k + 1)) s' := by
  have hlt := (List.getElem?_eq_some_iff.1 hp).1
  rw [List.drop_eq_getElem_cons hlt] at h
  rw [(List.getElem?_eq_some_iff.1 hp).2] at h
  exact h
theorem WChain.done {a b : Int} {nd : Nat} {d : Int} {fs : List Flt} {s s' : FlS} {ps : List Nat} {k : Nat} (h : WChain a b nd d fs s (ps.drop k) s') (hk : ps.length ≤ k) : s = s' := by
  rw [List.drop_eq_nil_of_le hk] at h
  exact h
theorem row_zero {w : World} {g nd : Nat} (h : RowT w g 5 (madeCells (Value.int .u8 0).cells (nd * 1)).toList) : RowT w g 5 ((List.replicate nd 0).map byteV) := by
  rw [show (madeCells (Value.int .u8 0).cells (nd * 1)).toList = List.replicate (nd * 1) (Value.int .u8 0) from toList_madeCells_one _ _, Nat.mul_one] at h
  rw [List.map_replicate]
  exact h
theorem zero_8 (nd : Nat) : Bytes8 (List.replicate nd 0) := fun x hx => by have := List.eq_of_mem_replicate hx; omega
structure CmOk (a b : Int) (nd : Nat) (d : Int) (fs : List Flt) (s : FlS) (kb ub : Nat) (s' : FlS) : Prop where
  ex : ∃ (q ep : Nat) (n : Int) (S1 : ChS), s.epoch = (ep : Int) ∧ s.seq = (q : Int) ∧ q ≤ 1000000000 ∧ OpenOk a b d fs s.ch kb ∧ (kb : Int) < a ∧ s.ch.ask a (kb : Int) 0 = (ub : Int) ∧ (ub : Int) < b ∧ ep < 16777216 ∧ Fine s.ch n ∧ n ≤ 900000000 ∧ s.ch.progZ a b (nd : Int) fs (kb : Int) (ub : Int) (nd + 16) = 0 ∧ s.ch.progS a b (nd : Int) fs (kb : Int) (ub : Int) (rawB (List.replicate nd 0) 3 0 (q + 1) ep) = S1 ∧ ({ s with seq := ((q : Int) + 1), ch := S1 } : FlS).over a d fs = false ∧ s' = { s with seq := (q : Int) + 1, ch := S1, degr := false }
theorem write_c (F : FlK) (a b d e : Int) (fs : List Flt) (L N nd : Nat) (s s' : FlS) (kb ub : Nat) (ez : Int) (hez : s.epoch = ez) (A : Option Addr) (cA : Nat) (w : World) (hF : FlW w F a b (nd : Int) d e fs L N s) (h : CmOk a b nd d fs s kb ub s') (hSl : Sl w w.heap.size A ((List.replicate nd 0).map byteV)) (hdis : ∀ h o, A = some ⟨h, o, none⟩ → ¬ FlB F h) : Calls Tryz.prog 79 #[.pointer (some ⟨F.fm, 0, none⟩), .agg #[.int .i64 3, .int .i64 0, .int .i64 0, .int .i64 ez], .slice A nd cA] w fun e' w' => e' = .returned (.tuple #[.agg #[.int .i64 (kb : Int), .int .i64 (ub : Int)], .int .i64 0]) ∧ FlW w' F a b (nd : Int) d e fs L N s' ∧ Tch (FlB F) w w' := by
  obtain ⟨q, ep, n, S1, h1, h2, h3, h4, h5, h6, h7, h8, h9, h10, h11, h12, h13, rfl⟩ := h.ex
  rw [h1] at hez
  subst hez
  exact write_n F a b (nd : Int) d e fs L N s q kb ub 3 0 ep nd 0 3 0 rfl rfl (List.replicate nd 0) A cA n w hF h2 h3 h4 h5 h6 h7 hSl (fun _ => hdis) (zero_8 nd) (List.length_replicate ..) rfl (by omega) (by omega) (fun _ => rfl) (by omega) h8 h9 h10 S1 h11 h12 h13
end Go.Proofs.YtkpcohfdcilfcaaGreat
namespace Go.Proofs.YtkpcohfdcilfcaaGreat
open Go.ChangeShapes Go.WideShapes Go.ChangeAt Go.RowKit
attribute [local go_sem ↓] Go.wp_at_zero Go.wp_at_succ
def stlEnd (a b : Int) (L : Nat) (s : FlS) (ps : List Nat) (kb ub : Nat) : FlS := { stlF a b s ps with fA := List.replicate L (-1), cx := (kb : Int), cy := (ub : Int), sld := true }
theorem stl_ch (a b : Int) : ∀ (ps : List Nat) (s : FlS), (stlF a b s ps).ch = s.ch
  | [], s => rfl
  | p :: ps, s => stl_ch a b ps (stlStep a b s p)
theorem gzn {V : World} {F1 : FlK} {a b c d e : Int} {fs : List Flt} {L N : Nat} {s : FlS} (hG : FlW V F1 a b c d e fs L N s) {g : Nat} (hz : V.heap.size ≤ g) : ∀ h o, (some ⟨g, 0, none⟩ : Option Addr) = some ⟨h, o, none⟩ → ¬ FlB F1 h := fun h o e hb => by
  cases e
  have := hG.blt hb
  omega
theorem tend {V V2 wM w5 w6 : World} {F1 : FlK} {g : Nat} (HB : Below V.heap.size V wM) (hA : Below wM.heap.size wM V2) (hT : Tch (FlB F1) V2 w5) (TS : Tch (fun h => h = g) w5 w6) (hg : V.heap.size ≤ g) : Tch (FlB F1) V w6 :=
  (((((tch_bel HB).trans (tch_bel hA)).trans hT).mono (S' := fun h => FlB F1 h ∨ h = g) (fun h q => Or.inl q)).trans (TS.mono (fun h q => Or.inr q))).monoL (fun h hl q => q.elim id (fun e => by omega))
theorem flush_f (F : FlK) (a b d e : Int) (fs : List Flt) (L N nd : Nat) (s S3 S4 : FlS) (eq : Nat) (ps : List Nat) (n : Nat) (hn : ps.length = n) (A : Option Addr) (cA : Nat) (kb ub : Nat) (nb : Int) (w : World) (hF : FlW w F a b (nd : Int) d e fs L N s) (hSl : Sl w w.heap.size A (ps.map fun (p : Nat) => Value.int .i64 (p : Int))) (hdis : ps ≠ [] → ∀ h o, A = some ⟨h, o, none⟩ → ¬ FlB F h) (hnn1 : n ≤ 100000) (hps : ∀ p ∈ ps, p < L ∧ hasB S4.fA (p : Int) = true) (heq : s.epoch = (eq : Int)) (heq2 : eq ≤ 1000000000) (hrb : resB a d fs s.ch 0 = true)
    (hch : WChain a b nd d fs { s with epoch := (eq : Int) + 1, fA := List.replicate L (-1) } ps S3) (hcm : CmOk a b nd d fs S3 kb ub S4) (hns : NoStrand a b fs (stlEnd a b L S4 ps kb ub)) (hbn : S4.ch.Bnd nb) (hnb : nb ≤ 900000000) (hsp : sprI a fs S4.ch ≤ e + 2 * a + S4.ch.cuts) :
    Calls Tryz.prog 50 #[.pointer (some ⟨F.fm, 0, none⟩), .slice A n cA] w fun e' w' => e' = .returned (.int .i64 0) ∧ (∃ F', FlW w' F' a b (nd : Int) d e fs L N (stlEnd a b L S4 ps kb ub) ∧ FlNx w F F') ∧ Tch (FlB F) w w' := by
  have HN := Lib.hid hn
  have HPS := Lib.hid hps
  have HRB := Lib.hid hrb
  have HCH := Lib.hid hch
  have hcm := Lib.hid hcm
  have HNS := Lib.hid hns
  have HBN : Hid ((stlEnd a b L S4 ps kb ub).ch.Bnd nb) := Lib.hid (by
    show ((stlF a b S4 ps).ch).Bnd nb
    rw [stl_ch]
    exact hbn)
  have HSP : Hid (sprI a fs (stlEnd a b L S4 ps kb ub).ch ≤ e + 2 * a + (stlEnd a b L S4 ps kb ub).ch.cuts) := Lib.hid (by
    show sprI a fs (stlF a b S4 ps).ch ≤ e + 2 * a + (stlF a b S4 ps).ch.cuts
    rw [stl_ch]
    exact hsp)
  have HE5 : Hid (S4.epoch = S3.epoch) := Lib.hid (by
    obtain ⟨q, ep, m, S1, -, -, -, -, -, -, -, -, -, -, -, -, -, rfl⟩ := hcm.out.ex
    rfl)
  have hm := hF.may
  obtain ⟨lb1, lb2, lb3, lb4⟩ := hF.bL
  have hLN := hF.hL
  have hNN := hF.hN
  have HMB := Lib.hid hm
  have HLG := Lib.hid hLN
  obtain ⟨ha1, ha2, hb1, hb2, hc1, hc2, hd1, hd2, -⟩ := may_bd hm
  have n1L : 1 ≤ L := by
    obtain ⟨p1, p2⟩ := prod_bd (x := a - d - 3) (b := b) (by omega) (by omega) hb1 hb2
    have h9 := (may_bd hm).2.2.2.2.2.2.2.2.2.2
    unfold logicalI at hLN h9
    omega
  have m1N : 1 ≤ N := by
    have h := Int.mul_pos (show (0 : Int) < a by omega) (show (0 : Int) < b by omega)
    omega
  have n2L : L ≤ 1000 := lb1
  have m2N : N ≤ 1000 := lb2
  have k9 := hF.c9
  rw [heq] at k9
  have f9 := hF.free 9
  have hC := hF.epoSet ((eq : Int) + 1)
  clear hn hps hrb hch hns hbn hsp hm hLN ha1 ha2 hb1 hb2 hd1 hd2 lb1 lb2 lb3 lb4 heq
  go_enter Tryz.func50, Tryz.ntmps50
  go_upto_region 2 with fail
  obtain ⟨V1, hV⟩ : ∃ V : World, V = w.setCell ⟨F.fm, 9, none⟩ (.int .i64 ((eq : Int) + 1)) := ⟨_, rfl⟩
  have hG1 : FlW V1 F a b (nd : Int) d e fs L N { s with epoch := (eq : Int) + 1 } := by rw [hV]; exact hC.1
  have TT1 : Tch (FlB F) w V1 := by rw [hV]; exact hC.2
  rw [← hV]
  clear hV hC k9 f9
  obtain ⟨z1, z2, z3, z4, z5⟩ : _ ∧ _ ∧ _ ∧ _ ∧ _ := ⟨hG1.c1, hG1.c2, hG1.c3, hG1.c4, hG1.c5⟩
  go_upto_region 3 with ((go_at_call 76; go_loud (((with_reducible refine (new_yes a b (nd : Int) d e L N _ HMB HLG hNN n1L n2L m1N m2N).mono ?_); rintro e' w2 ⟨⟨nm, n1, n2, rfl, hM2, q1, q2, q3⟩, b2⟩; have k12 := (hG1.below b2).c12; have f12 := (hG1.below b2).free 12; have HNW := hG1.newFr b2 hM2 q1 q2 q3))))
  obtain ⟨S2, hS2⟩ : ∃ S : FlS, S = { s with epoch := (eq : Int) + 1, fA := List.replicate L (-1) } := ⟨_, rfl⟩
  obtain ⟨F1, hF1⟩ : ∃ G : FlK, G = F.newF nm n1 n2 := ⟨_, rfl⟩
  obtain ⟨V2, hV⟩ : ∃ V : World, V = w2.setCell ⟨F.fm, 12, none⟩ (.pointer (some ⟨nm, 0, none⟩)) := ⟨_, rfl⟩
  have hG2 : FlW V2 F1 a b (nd : Int) d e fs L N S2 := by rw [hV, hF1, hS2]; exact HNW.1
  have TT2 : Tch (FlB F) w V2 := by rw [hV]; exact TT1.trans HNW.2
  rw [← hV]
  have hfm : F1.fm = F.fm := by rw [hF1]; rfl
  have hzV := TT1.size
  have HNX : FlNx w F F1 := by
    rw [hF1]
    exact ⟨rfl, rfl, rfl, rfl, rfl, rfl, rfl, fun g h => (flB_newF h).imp (fun h => h) (fun h => by omega), fun g h => Or.inl h⟩
  have HCH : Hid (WChain a b nd d fs S2 ps S3) := by rw [hS2]; exact HCH
  have HRB : Hid (resB a d fs S2.ch 0 = true) := by rw [hS2]; exact HRB
  have hSl2 : Sl V2 V2.heap.size A (ps.map fun (p : Nat) => Value.int .i64 (p : Int)) := (slT hSl TT2 (Nat.le_refl _) (fun h => hdis (fun e => h (by rw [e]; rfl)))).mono TT2.size
  have hd2 : ps ≠ [] → ∀ h o, A = some ⟨h, o, none⟩ → ¬ FlB F1 h := fun hne h o hA hB => by
    rcases HNX.own h hB with q | q
    · exact hdis hne h o hA q
    · rcases hSl with e | ⟨b', off, hA', hl, -⟩
      · exact hne (List.map_eq_nil_iff.1 e)
      · rw [hA] at hA'
        cases hA'
        omega
  clear hV HNW k12 f12 z1 z2 z3 z4 z5 hF1 hS2 hG1 TT1
  rw [← hfm]
  clear hfm
  go_wp2_with ((go_at_call 77; go_loud (((with_reducible refine (restore_no F1 a b (nd : Int) d e fs L N S2 _ hG2 HRB.out).mono ?_); rintro e' w3 ⟨rfl, b3⟩; have hG3 := hG2.below b3))))
  have TT3 := TT2.trans (tch_bel (S := FlB F) b3)
  have hSl3 := hSl2.next b3
  go_loopw [34] (fun i wr => ∃ k : Nat, k ≤ n ∧ i = .int .i64 k ∧ Hid (∃ S, WChain a b nd d fs S (ps.drop k) S3 ∧ FlW wr F1 a b (nd : Int) d e fs L N S) ∧ Tch (FlB F1) w3 wr) (fun i _ => n - (intOf i).toNat)
  case atStart => exact ⟨0, by omega, rfl, Lib.hid ⟨S2, HCH.out, hG3⟩, Tch.refl w3⟩
  case round =>
    obtain ⟨k, hk, rfl, HR, HT⟩ := hrel
    obtain ⟨S, hS, hG⟩ := HR.out
    have HS := Lib.hid hS
    clear HR hS
    by_cases hlt : k < n
    · obtain ⟨p, hp0⟩ : ∃ p, ps[k]? = some p := ⟨_, List.getElem?_eq_getElem (by have := HN.out; omega)⟩
      have hpm := List.mem_of_getElem? hp0
      obtain ⟨hp, -⟩ := HPS.out p hpm
      have hne : ps ≠ [] := fun e => by rw [e] at hpm; cases hpm
      obtain ⟨bq, oq, hAq, hcq⟩ := sl_at (slT hSl3 HT (Nat.le_refl _) (fun _ => hd2 hne)) (k := k) (v := .int .i64 (p : Int)) (by rw [List.getElem?_map, hp0]; rfl)
      subst hAq
      obtain ⟨s1, hW, hch1⟩ := HS.out.next hp0
      have HW := Lib.hid hW
      have HC1 := Lib.hid hch1
      have i0 : (0 : Int) ≤ (k : Int) := by omega
      have i1 : (k : Int) < (n : Int) := by omega
      have p0 : (0 : Int) ≤ (p : Int) := by omega
      have p1 : (p : Int) < (L : Int) := by omega
      have k17 := hG.c17
      have fz := RowT.free hG.st p
      obtain ⟨tv, htv⟩ := rowB hG.st hG.lst hp
      have hC := hG.stSet hp true
      clear hW hch1 hpm hp0 hne
      go_upto_region 10 with fail
      obtain ⟨V5, hV⟩ : ∃ V : World, V = wr.setCell ⟨F1.gs, p, none⟩ (.bool true) := ⟨_, rfl⟩
      have hGs : FlW V5 F1 a b (nd : Int) d e fs L N { S with st := S.st.set p true } := by rw [hV]; exact hC.1
      have TT5 : Tch (FlB F1) w3 V5 := by rw [hV]; exact HT.trans hC.2
      rw [← hV]
      clear hV hC k17 fz htv hcq
      go_wp2_with ((go_at_call 78; go_loud (((with_reducible refine (writePage_w F1 a b d e fs L N nd _ s1 p _ hGs HW.out).mono ?_); rintro e' w5 ⟨rfl, hG5, hT5⟩; skip))))
      go_roundw
      case rel => exact ⟨k + 1, by omega, by go_num, Lib.hid ⟨s1, HC1.out, hG5⟩, TT5.trans hT5⟩
      case measure => simp [intOf]; omega
    · obtain rfl : n = k := by omega
      have hS9 : S = S3 := HS.out.done (by rw [HN.out]; exact Nat.le_refl _)
      subst hS9
      have hGV := hG
      have bD : Below wr.heap.size wr wr.drew := below_dr wr
      have bA0 : Below wr.heap.size wr (wr.alloc (.cells #[.int .i64 0, .int .i64 0] 68)) := (Below.refl _ _).alloc (Nat.le_refl _) _
      have bA : Below wr.heap.size wr (wr.alloc (.cells #[.int .i64 0, .int .i64 0] 68)).drew := btr bA0 bA0.size (below_dr _)
      have e9 : (wr.alloc (.cells #[.int .i64 0, .int .i64 0] 68)).drew.heap.size = wr.heap.size + 1 := by
        show (wr.heap.push _).size = _
        simp
      have BA := (Blk.new_ wr 68 #[.int .i64 0, .int .i64 0]).drew_F
      have hGD := hGV.below bD
      have hGA := hGV.below bA
      have QD : (wr.drew.cell? ⟨F1.fm, 9, none⟩ = some (.int .i64 S.epoch) ∧ wr.drew.cell? ⟨F1.fm, 3, none⟩ = some (.int .i64 (nd : Int))) := ⟨hGD.c9, hGD.c3⟩
      have QA : ((wr.alloc (.cells #[.int .i64 0, .int .i64 0] 68)).drew.cell? ⟨F1.fm, 9, none⟩ = some (.int .i64 S.epoch) ∧ (wr.alloc (.cells #[.int .i64 0, .int .i64 0] 68)).drew.cell? ⟨F1.fm, 3, none⟩ = some (.int .i64 (nd : Int))) := ⟨hGA.c9, hGA.c3⟩
      clear HS hlt hG
      go_upto_region 14 with fail
      go_cut [9, 10] (fun v9 v10 wx => ∃ g9, v9 = .pointer (some ⟨g9, 0, none⟩) ∧ v10 = .int .i64 0 ∧ FlW wx F1 a b (nd : Int) d e fs L N S4 ∧ Tch (FlB F1) wr wx ∧ Blk wx g9 68 #[.int .i64 (kb : Int), .int .i64 (ub : Int)])
      case first =>
        refine wp_region_noPanic ?_
        refine wp_region_held_drew (S := (fun w_ => (w_.cell? ⟨F1.fm, 9, none⟩ = some (.int .i64 S.epoch) ∧ w_.cell? ⟨F1.fm, 3, none⟩ = some (.int .i64 (nd : Int))))) (by kernel_rfl) ?_ (fun hHeld => ?_)
        · (first | with_reducible exact QNS | with_reducible exact QNM _ | with_reducible exact QN5 _ | exact QN5 _ | with_reducible exact QD | with_reducible exact QA | with_reducible exact hNext | assumption)
        refine tk 0 ?_; try simp only [Act.put, pz1, pz2, pz3]
        refine tk 1 ?_; try simp only [Act.put, pz1, pz2, pz3]
        refine tk 2 ?_; try simp only [Act.put, pz1, pz2, pz3]
        refine tk 3 ?_; try simp only [Act.put, pz1, pz2, pz3]
        refine tk 4 ?_; try simp only [Act.put, pz1, pz2, pz3]
        refine tk 5 ?_; try simp only [Act.put, pz1, pz2, pz3]
        refine tk 6 ?_; try simp only [Act.put, pz1, pz2, pz3]
        refine tk 7 ?_; try simp only [Act.put, pz1, pz2, pz3]
        refine tk 8 ?_; try simp only [Act.put, pz1, pz2, pz3]
        refine tk 9 ?_; try simp only [Act.put, pz1, pz2, pz3]
        refine tk 10 ?_; try simp only [Act.put, pz1, pz2, pz3]
        refine wpAnyH_ready (rs := [11, 16]) (by kernel_rfl) (by simp) ?_
        refine (AllReadyH.cons (o := ⟨some 63, .makeSlice 37 (.tmp 62) (.tmp 62), 37, "write.go:41", #[⟨10, .data⟩, ⟨10, .data⟩], none⟩) rfl (fun K hK => ?_) (AllReadyH.cons (o := ⟨some 9, .alloc 68, 0, "write.go:41", #[], none⟩) rfl (fun K hK => ?_) AllReadyH.nil))
        · obtain ⟨ti0, hi, hz0, hz1, hz2⟩ := info_parts infoByte
          refine wp_make _ (.tmp 62) (.tmp 62) 37 rfl _ 5 ti0 (.int .u8 0) 1 Tryz.underlying37 hi hz0 hz1 .i64 .i64 nd nd nd rfl rfl rfl rfl (by rw [hz2]; omega) (by unfold maxLen; omega) (Nat.le_refl _) ?_
          intro wM hoM hgM
          clear hi hz0 hz1 hz2
          have hbM := (Below.refl _ _).grown hgM (Nat.le_refl _) (fun j hj => by cases hj)
          have hrM := row_zero (RowT.own hoM)
          clear hoM hgM
          first
            | (have HBM : Below wr.heap.size wr wM := btr bD bD.size hbM; change RowT wM wr.heap.size _ _ at hrM; have hgz := gzn hGV (Nat.le_refl wr.heap.size))
            | (have HBM : Below wr.heap.size wr wM := btr bA bA.size hbM; have BAM := BA.below hbM BA.lt; rw [e9] at hrM; have hgz := gzn hGV (Nat.le_succ wr.heap.size))
          have hGM := hGV.below HBM
          have hNext : (wM.cell? ⟨F1.fm, 9, none⟩ = some (.int .i64 S.epoch) ∧ wM.cell? ⟨F1.fm, 3, none⟩ = some (.int .i64 (nd : Int))) := ⟨hGM.c9, hGM.c3⟩
          have QNM : ∀ cs, ((wM.alloc (.cells cs 68)).cell? ⟨F1.fm, 9, none⟩ = some (.int .i64 S.epoch) ∧ (wM.alloc (.cells cs 68)).cell? ⟨F1.fm, 3, none⟩ = some (.int .i64 (nd : Int))) := fun cs => (by have h := hGM.below ((Below.refl _ _).alloc (Nat.le_refl _) (.cells cs 68)); exact ⟨h.c9, h.c3⟩)
          refine hK.out _ _ ?_ (fun hNew => ?_)
          · (first | with_reducible exact QNS | with_reducible exact QNM _ | with_reducible exact QN5 _ | exact QN5 _ | with_reducible exact QD | with_reducible exact QA | with_reducible exact hNext | assumption)
          clear hK K hHeld
          have hHeld := hNew
          clear hNew
          try simp only [Act.put, pz1, pz2, pz3]
          refine wpAnyH_ready (rs := [12, 16]) (by kernel_rfl) (by simp) ?_
          refine (AllReadyH.cons (o := ⟨some 64, .call { callee := .value (.func 79), args := #[.tmp 52, .tmp 57, .tmp 63], argTypes := #[28, 109, 37] }, 106, "write.go:41", #[⟨0, .data⟩, ⟨5, .data⟩, ⟨11, .data⟩], none⟩) rfl (fun K hK => ?_) (AllReadyH.cons (o := ⟨some 9, .alloc 68, 0, "write.go:41", #[], none⟩) rfl (fun K hK => ?_) AllReadyH.nil))
          · go_simp
            (first | (go_at_call 79; go_loud (((with_reducible refine (write_c F1 a b d e fs L N nd S S4 kb ub _ rfl _ _ _ hGM hcm.out hrM.slr hgz).mono ?_); rintro e' w5 ⟨rfl, hG5, hT5⟩; have hNext : (w5.cell? ⟨F1.fm, 9, none⟩ = some (.int .i64 S.epoch) ∧ w5.cell? ⟨F1.fm, 3, none⟩ = some (.int .i64 (nd : Int))) := ⟨HE5.out.symm ▸ hG5.c9, hG5.c3⟩; have QN5 : ∀ cs, ((w5.alloc (.cells cs 68)).cell? ⟨F1.fm, 9, none⟩ = some (.int .i64 S.epoch) ∧ (w5.alloc (.cells cs 68)).cell? ⟨F1.fm, 3, none⟩ = some (.int .i64 (nd : Int))) := fun cs => (by have h := hG5.below ((Below.refl _ _).alloc (Nat.le_refl _) (.cells cs 68)); exact ⟨HE5.out.symm ▸ h.c9, h.c3⟩); have BN5 := hT5.blk BAM (fun h => by have := hGV.blt h; omega); have m0 := BN5.cell_ 0; have m1 := BN5.cell_ 1; simp at m0 m1; have f0 := BN5.free 0; have f1 := BN5.free 1; have TS : Tch (fun g => g = wr.heap.size) w5 ((w5.setCell ⟨wr.heap.size, 0, none⟩ (.int .i64 (kb : Int))).setCell ⟨wr.heap.size, 1, none⟩ (.int .i64 (ub : Int))) := (Tch.setm w5 wr.heap.size 0 _).trans (Tch.setm _ wr.heap.size 1 _); have GS := hG5.far TS (fun g hu e => by have := hGV.lt g hu; have := HBM.size; omega); have BS := (BN5.set_ 0 (.int .i64 (kb : Int))).set_ 1 (.int .i64 (ub : Int)); simp at BS; have QNS : (((w5.setCell ⟨wr.heap.size, 0, none⟩ (.int .i64 (kb : Int))).setCell ⟨wr.heap.size, 1, none⟩ (.int .i64 (ub : Int))).cell? ⟨F1.fm, 9, none⟩ = some (.int .i64 S.epoch) ∧ ((w5.setCell ⟨wr.heap.size, 0, none⟩ (.int .i64 (kb : Int))).setCell ⟨wr.heap.size, 1, none⟩ (.int .i64 (ub : Int))).cell? ⟨F1.fm, 3, none⟩ = some (.int .i64 (nd : Int))) := ⟨HE5.out.symm ▸ GS.c9, GS.c3⟩))) | (go_at_call 79; go_loud (((with_reducible refine (write_c F1 a b d e fs L N nd S S4 kb ub _ rfl _ _ _ hGM hcm.out hrM.slr hgz).mono ?_); rintro e' w5 ⟨rfl, hG5, hT5⟩; have hNext : (w5.cell? ⟨F1.fm, 9, none⟩ = some (.int .i64 S.epoch) ∧ w5.cell? ⟨F1.fm, 3, none⟩ = some (.int .i64 (nd : Int))) := ⟨HE5.out.symm ▸ hG5.c9, hG5.c3⟩; have QN5 : ∀ cs, ((w5.alloc (.cells cs 68)).cell? ⟨F1.fm, 9, none⟩ = some (.int .i64 S.epoch) ∧ (w5.alloc (.cells cs 68)).cell? ⟨F1.fm, 3, none⟩ = some (.int .i64 (nd : Int))) := fun cs => (by have h := hG5.below ((Below.refl _ _).alloc (Nat.le_refl _) (.cells cs 68)); exact ⟨HE5.out.symm ▸ h.c9, h.c3⟩)))) | (go_at_call 79; go_loud (((with_reducible refine (write_c F1 a b d e fs L N nd S S4 kb ub _ rfl _ _ _ (hGM.below ((Below.refl _ _).alloc (Nat.le_refl _) _)) hcm.out (hrM.below ((Below.refl _ _).alloc (Nat.le_refl _) _)).slr hgz).mono ?_); rintro e' w5 ⟨rfl, hG5, hT5⟩; have hNext : (w5.cell? ⟨F1.fm, 9, none⟩ = some (.int .i64 S.epoch) ∧ w5.cell? ⟨F1.fm, 3, none⟩ = some (.int .i64 (nd : Int))) := ⟨HE5.out.symm ▸ hG5.c9, hG5.c3⟩; have QN5 : ∀ cs, ((w5.alloc (.cells cs 68)).cell? ⟨F1.fm, 9, none⟩ = some (.int .i64 S.epoch) ∧ (w5.alloc (.cells cs 68)).cell? ⟨F1.fm, 3, none⟩ = some (.int .i64 (nd : Int))) := fun cs => (by have h := hG5.below ((Below.refl _ _).alloc (Nat.le_refl _) (.cells cs 68)); exact ⟨HE5.out.symm ▸ h.c9, h.c3⟩); have BN5 := hT5.blk (Blk.new_ wM 68 #[.int .i64 0, .int .i64 0]) (fun h => by have := hGV.blt h; have := HBM.size; omega); have m0 := BN5.cell_ 0; have m1 := BN5.cell_ 1; simp at m0 m1; have f0 := BN5.free 0; have f1 := BN5.free 1; have TS : Tch (fun g => g = wM.heap.size) w5 ((w5.setCell ⟨wM.heap.size, 0, none⟩ (.int .i64 (kb : Int))).setCell ⟨wM.heap.size, 1, none⟩ (.int .i64 (ub : Int))) := (Tch.setm w5 wM.heap.size 0 _).trans (Tch.setm _ wM.heap.size 1 _); have GS := hG5.far TS (fun g hu e => by have := hGV.lt g hu; have := HBM.size; omega); have BS := (BN5.set_ 0 (.int .i64 (kb : Int))).set_ 1 (.int .i64 (ub : Int)); simp at BS; have QNS : (((w5.setCell ⟨wM.heap.size, 0, none⟩ (.int .i64 (kb : Int))).setCell ⟨wM.heap.size, 1, none⟩ (.int .i64 (ub : Int))).cell? ⟨F1.fm, 9, none⟩ = some (.int .i64 S.epoch) ∧ ((w5.setCell ⟨wM.heap.size, 0, none⟩ (.int .i64 (kb : Int))).setCell ⟨wM.heap.size, 1, none⟩ (.int .i64 (ub : Int))).cell? ⟨F1.fm, 3, none⟩ = some (.int .i64 (nd : Int))) := ⟨HE5.out.symm ▸ GS.c9, GS.c3⟩))))
            go_wp2_with fail
            refine hK.out _ _ ?_ (fun hNew => ?_)
            · (first | with_reducible exact QNS | with_reducible exact QNM _ | with_reducible exact QN5 _ | exact QN5 _ | with_reducible exact QD | with_reducible exact QA | with_reducible exact hNext | assumption)
            clear hK K hHeld
            have hHeld := hNew
            clear hNew
            try simp only [Act.put, pz1, pz2, pz3]
            refine tk 13 ?_; try simp only [Act.put, pz1, pz2, pz3]
            refine tk 14 ?_; try simp only [Act.put, pz1, pz2, pz3]
            refine tk 15 ?_; try simp only [Act.put, pz1, pz2, pz3]
            refine wpAnyH_ready (rs := [16]) (by kernel_rfl) (by simp) ?_
            refine AllReadyH.cons (o := ⟨some 9, .alloc 68, 0, "write.go:41", #[], none⟩) rfl (fun K hK => ?_) AllReadyH.nil
            go_simp
            skip
            refine hK.out _ _ ?_ (fun hNew => ?_)
            · (first | with_reducible exact QNS | with_reducible exact QNM _ | with_reducible exact QN5 _ | exact QN5 _ | with_reducible exact QD | with_reducible exact QA | with_reducible exact hNext | assumption)
            clear hK K hHeld
            have hHeld := hNew
            clear hNew
            try simp only [Act.put, pz1, pz2, pz3]
            refine wpAnyH_ready (rs := [17]) (by kernel_rfl) (by simp) ?_
            refine AllReadyH.cons (o := ⟨none, .store 68 (.tmp 9) (.tmp 65), 0, "write.go:41", #[⟨16, .data⟩, ⟨14, .data⟩, ⟨12, .chain⟩, ⟨0, .phase⟩, ⟨1, .phase⟩, ⟨2, .phase⟩, ⟨3, .phase⟩, ⟨4, .phase⟩, ⟨5, .phase⟩, ⟨6, .phase⟩, ⟨7, .phase⟩, ⟨8, .phase⟩, ⟨9, .phase⟩, ⟨10, .phase⟩, ⟨11, .phase⟩, ⟨12, .phase⟩, ⟨13, .phase⟩, ⟨14, .phase⟩, { on := 15, ground := Ground.textOnly Departure.lateStores }, ⟨16, .phase⟩], none⟩) rfl (fun K hK => ?_) AllReadyH.nil
            go_simp
            skip
            refine hK.out _ _ ?_ (fun hNew => ?_)
            · (first | with_reducible exact QNS | with_reducible exact QNM _ | with_reducible exact QN5 _ | exact QN5 _ | with_reducible exact QD | with_reducible exact QA | with_reducible exact hNext | assumption)
            clear hK K hHeld
            have hHeld := hNew
            clear hNew
            try simp only [Act.put, pz1, pz2, pz3]
            refine tk 18 ?_; try simp only [Act.put, pz1, pz2, pz3]
            refine wpAnyH_done (by kernel_rfl) ?_ _
            refine NoPanic.normal ?_
            go_wp2_with fail
            go_meet
            first
              | exact ⟨_, rfl, rfl, hG5.below ((Below.refl w5.heap.size w5).alloc (Nat.le_refl _) _), (((tch_bel HBM).trans hT5).trans (tch_bel ((Below.refl w5.heap.size w5).alloc (Nat.le_refl _) _))), Blk.new_ _ _ _⟩
              | exact ⟨_, rfl, rfl, GS, tend HBM (Below.refl _ _) hT5 TS (by omega), BS⟩
              | exact ⟨_, rfl, rfl, GS, tend HBM ((Below.refl _ _).alloc (Nat.le_refl _) _) hT5 TS (by have := HBM.size; omega), BS⟩
          · go_simp
            skip
            refine hK.out _ _ ?_ (fun hNew => ?_)
            · (first | with_reducible exact QNS | with_reducible exact QNM _ | with_reducible exact QN5 _ | exact QN5 _ | with_reducible exact QD | with_reducible exact QA | with_reducible exact hNext | assumption)
            clear hK K hHeld
            have hHeld := hNew
            clear hNew
            try simp only [Act.put, pz1, pz2, pz3]
            refine wpAnyH_ready (rs := [12]) (by kernel_rfl) (by simp) ?_
            refine AllReadyH.cons (o := ⟨some 64, .call { callee := .value (.func 79), args := #[.tmp 52, .tmp 57, .tmp 63], argTypes := #[28, 109, 37] }, 106, "write.go:41", #[⟨0, .data⟩, ⟨5, .data⟩, ⟨11, .data⟩], none⟩) rfl (fun K hK => ?_) AllReadyH.nil
            go_simp
            (first | (go_at_call 79; go_loud (((with_reducible refine (write_c F1 a b d e fs L N nd S S4 kb ub _ rfl _ _ _ hGM hcm.out hrM.slr hgz).mono ?_); rintro e' w5 ⟨rfl, hG5, hT5⟩; have hNext : (w5.cell? ⟨F1.fm, 9, none⟩ = some (.int .i64 S.epoch) ∧ w5.cell? ⟨F1.fm, 3, none⟩ = some (.int .i64 (nd : Int))) := ⟨HE5.out.symm ▸ hG5.c9, hG5.c3⟩; have QN5 : ∀ cs, ((w5.alloc (.cells cs 68)).cell? ⟨F1.fm, 9, none⟩ = some (.int .i64 S.epoch) ∧ (w5.alloc (.cells cs 68)).cell? ⟨F1.fm, 3, none⟩ = some (.int .i64 (nd : Int))) := fun cs => (by have h := hG5.below ((Below.refl _ _).alloc (Nat.le_refl _) (.cells cs 68)); exact ⟨HE5.out.symm ▸ h.c9, h.c3⟩); have BN5 := hT5.blk BAM (fun h => by have := hGV.blt h; omega); have m0 := BN5.cell_ 0; have m1 := BN5.cell_ 1; simp at m0 m1; have f0 := BN5.free 0; have f1 := BN5.free 1; have TS : Tch (fun g => g = wr.heap.size) w5 ((w5.setCell ⟨wr.heap.size, 0, none⟩ (.int .i64 (kb : Int))).setCell ⟨wr.heap.size, 1, none⟩ (.int .i64 (ub : Int))) := (Tch.setm w5 wr.heap.size 0 _).trans (Tch.setm _ wr.heap.size 1 _); have GS := hG5.far TS (fun g hu e => by have := hGV.lt g hu; have := HBM.size; omega); have BS := (BN5.set_ 0 (.int .i64 (kb : Int))).set_ 1 (.int .i64 (ub : Int)); simp at BS; have QNS : (((w5.setCell ⟨wr.heap.size, 0, none⟩ (.int .i64 (kb : Int))).setCell ⟨wr.heap.size, 1, none⟩ (.int .i64 (ub : Int))).cell? ⟨F1.fm, 9, none⟩ = some (.int .i64 S.epoch) ∧ ((w5.setCell ⟨wr.heap.size, 0, none⟩ (.int .i64 (kb : Int))).setCell ⟨wr.heap.size, 1, none⟩ (.int .i64 (ub : Int))).cell? ⟨F1.fm, 3, none⟩ = some (.int .i64 (nd : Int))) := ⟨HE5.out.symm ▸ GS.c9, GS.c3⟩))) | (go_at_call 79; go_loud (((with_reducible refine (write_c F1 a b d e fs L N nd S S4 kb ub _ rfl _ _ _ hGM hcm.out hrM.slr hgz).mono ?_); rintro e' w5 ⟨rfl, hG5, hT5⟩; have hNext : (w5.cell? ⟨F1.fm, 9, none⟩ = some (.int .i64 S.epoch) ∧ w5.cell? ⟨F1.fm, 3, none⟩ = some (.int .i64 (nd : Int))) := ⟨HE5.out.symm ▸ hG5.c9, hG5.c3⟩; have QN5 : ∀ cs, ((w5.alloc (.cells cs 68)).cell? ⟨F1.fm, 9, none⟩ = some (.int .i64 S.epoch) ∧ (w5.alloc (.cells cs 68)).cell? ⟨F1.fm, 3, none⟩ = some (.int .i64 (nd : Int))) := fun cs => (by have h := hG5.below ((Below.refl _ _).alloc (Nat.le_refl _) (.cells cs 68)); exact ⟨HE5.out.symm ▸ h.c9, h.c3⟩)))) | (go_at_call 79; go_loud (((with_reducible refine (write_c F1 a b d e fs L N nd S S4 kb ub _ rfl _ _ _ (hGM.below ((Below.refl _ _).alloc (Nat.le_refl _) _)) hcm.out (hrM.below ((Below.refl _ _).alloc (Nat.le_refl _) _)).slr hgz).mono ?_); rintro e' w5 ⟨rfl, hG5, hT5⟩; have hNext : (w5.cell? ⟨F1.fm, 9, none⟩ = some (.int .i64 S.epoch) ∧ w5.cell? ⟨F1.fm, 3, none⟩ = some (.int .i64 (nd : Int))) := ⟨HE5.out.symm ▸ hG5.c9, hG5.c3⟩; have QN5 : ∀ cs, ((w5.alloc (.cells cs 68)).cell? ⟨F1.fm, 9, none⟩ = some (.int .i64 S.epoch) ∧ (w5.alloc (.cells cs 68)).cell? ⟨F1.fm, 3, none⟩ = some (.int .i64 (nd : Int))) := fun cs => (by have h := hG5.below ((Below.refl _ _).alloc (Nat.le_refl _) (.cells cs 68)); exact ⟨HE5.out.symm ▸ h.c9, h.c3⟩); have BN5 := hT5.blk (Blk.new_ wM 68 #[.int .i64 0, .int .i64 0]) (fun h => by have := hGV.blt h; have := HBM.size; omega); have m0 := BN5.cell_ 0; have m1 := BN5.cell_ 1; simp at m0 m1; have f0 := BN5.free 0; have f1 := BN5.free 1; have TS : Tch (fun g => g = wM.heap.size) w5 ((w5.setCell ⟨wM.heap.size, 0, none⟩ (.int .i64 (kb : Int))).setCell ⟨wM.heap.size, 1, none⟩ (.int .i64 (ub : Int))) := (Tch.setm w5 wM.heap.size 0 _).trans (Tch.setm _ wM.heap.size 1 _); have GS := hG5.far TS (fun g hu e => by have := hGV.lt g hu; have := HBM.size; omega); have BS := (BN5.set_ 0 (.int .i64 (kb : Int))).set_ 1 (.int .i64 (ub : Int)); simp at BS; have QNS : (((w5.setCell ⟨wM.heap.size, 0, none⟩ (.int .i64 (kb : Int))).setCell ⟨wM.heap.size, 1, none⟩ (.int .i64 (ub : Int))).cell? ⟨F1.fm, 9, none⟩ = some (.int .i64 S.epoch) ∧ ((w5.setCell ⟨wM.heap.size, 0, none⟩ (.int .i64 (kb : Int))).setCell ⟨wM.heap.size, 1, none⟩ (.int .i64 (ub : Int))).cell? ⟨F1.fm, 3, none⟩ = some (.int .i64 (nd : Int))) := ⟨HE5.out.symm ▸ GS.c9, GS.c3⟩))))
            go_wp2_with fail
            refine hK.out _ _ ?_ (fun hNew => ?_)
            · (first | with_reducible exact QNS | with_reducible exact QNM _ | with_reducible exact QN5 _ | exact QN5 _ | with_reducible exact QD | with_reducible exact QA | with_reducible exact hNext | assumption)
            clear hK K hHeld
            have hHeld := hNew
            clear hNew
            try simp only [Act.put, pz1, pz2, pz3]
            refine tk 13 ?_; try simp only [Act.put, pz1, pz2, pz3]
            refine tk 14 ?_; try simp only [Act.put, pz1, pz2, pz3]
            refine tk 15 ?_; try simp only [Act.put, pz1, pz2, pz3]
            refine wpAnyH_ready (rs := [17]) (by kernel_rfl) (by simp) ?_
            refine AllReadyH.cons (o := ⟨none, .store 68 (.tmp 9) (.tmp 65), 0, "write.go:41", #[⟨16, .data⟩, ⟨14, .data⟩, ⟨12, .chain⟩, ⟨0, .phase⟩, ⟨1, .phase⟩, ⟨2, .phase⟩, ⟨3, .phase⟩, ⟨4, .phase⟩, ⟨5, .phase⟩, ⟨6, .phase⟩, ⟨7, .phase⟩, ⟨8, .phase⟩, ⟨9, .phase⟩, ⟨10, .phase⟩, ⟨11, .phase⟩, ⟨12, .phase⟩, ⟨13, .phase⟩, ⟨14, .phase⟩, { on := 15, ground := Ground.textOnly Departure.lateStores }, ⟨16, .phase⟩], none⟩) rfl (fun K hK => ?_) AllReadyH.nil
            go_simp
            skip
            refine hK.out _ _ ?_ (fun hNew => ?_)
            · (first | with_reducible exact QNS | with_reducible exact QNM _ | with_reducible exact QN5 _ | exact QN5 _ | with_reducible exact QD | with_reducible exact QA | with_reducible exact hNext | assumption)
            clear hK K hHeld
            have hHeld := hNew
            clear hNew
            try simp only [Act.put, pz1, pz2, pz3]
            refine tk 18 ?_; try simp only [Act.put, pz1, pz2, pz3]
            refine wpAnyH_done (by kernel_rfl) ?_ _
            refine NoPanic.normal ?_
            go_wp2_with fail
            go_meet
            first
              | exact ⟨_, rfl, rfl, hG5.below ((Below.refl w5.heap.size w5).alloc (Nat.le_refl _) _), (((tch_bel HBM).trans hT5).trans (tch_bel ((Below.refl w5.heap.size w5).alloc (Nat.le_refl _) _))), Blk.new_ _ _ _⟩
              | exact ⟨_, rfl, rfl, GS, tend HBM (Below.refl _ _) hT5 TS (by omega), BS⟩
              | exact ⟨_, rfl, rfl, GS, tend HBM ((Below.refl _ _).alloc (Nat.le_refl _) _) hT5 TS (by have := HBM.size; omega), BS⟩
        · go_simp
          skip
          refine hK.out _ _ ?_ (fun hNew => ?_)
          · (first | with_reducible exact QNS | with_reducible exact QNM _ | with_reducible exact QN5 _ | exact QN5 _ | with_reducible exact QD | with_reducible exact QA | with_reducible exact hNext | assumption)
          clear hK K hHeld
          have hHeld := hNew
          clear hNew
          try simp only [Act.put, pz1, pz2, pz3]
          refine wpAnyH_ready (rs := [11]) (by kernel_rfl) (by simp) ?_
          refine AllReadyH.cons (o := ⟨some 63, .makeSlice 37 (.tmp 62) (.tmp 62), 37, "write.go:41", #[⟨10, .data⟩, ⟨10, .data⟩], none⟩) rfl (fun K hK => ?_) AllReadyH.nil
          obtain ⟨ti0, hi, hz0, hz1, hz2⟩ := info_parts infoByte
          refine wp_make _ (.tmp 62) (.tmp 62) 37 rfl _ 5 ti0 (.int .u8 0) 1 Tryz.underlying37 hi hz0 hz1 .i64 .i64 nd nd nd rfl rfl rfl rfl (by rw [hz2]; omega) (by unfold maxLen; omega) (Nat.le_refl _) ?_
          intro wM hoM hgM
          clear hi hz0 hz1 hz2
          have hbM := (Below.refl _ _).grown hgM (Nat.le_refl _) (fun j hj => by cases hj)
          have hrM := row_zero (RowT.own hoM)
          clear hoM hgM
          first
            | (have HBM : Below wr.heap.size wr wM := btr bD bD.size hbM; change RowT wM wr.heap.size _ _ at hrM; have hgz := gzn hGV (Nat.le_refl wr.heap.size))
            | (have HBM : Below wr.heap.size wr wM := btr bA bA.size hbM; have BAM := BA.below hbM BA.lt; rw [e9] at hrM; have hgz := gzn hGV (Nat.le_succ wr.heap.size))
          have hGM := hGV.below HBM
          have hNext : (wM.cell? ⟨F1.fm, 9, none⟩ = some (.int .i64 S.epoch) ∧ wM.cell? ⟨F1.fm, 3, none⟩ = some (.int .i64 (nd : Int))) := ⟨hGM.c9, hGM.c3⟩
          have QNM : ∀ cs, ((wM.alloc (.cells cs 68)).cell? ⟨F1.fm, 9, none⟩ = some (.int .i64 S.epoch) ∧ (wM.alloc (.cells cs 68)).cell? ⟨F1.fm, 3, none⟩ = some (.int .i64 (nd : Int))) := fun cs => (by have h := hGM.below ((Below.refl _ _).alloc (Nat.le_refl _) (.cells cs 68)); exact ⟨h.c9, h.c3⟩)
          refine hK.out _ _ ?_ (fun hNew => ?_)
          · (first | with_reducible exact QNS | with_reducible exact QNM _ | with_reducible exact QN5 _ | exact QN5 _ | with_reducible exact QD | with_reducible exact QA | with_reducible exact hNext | assumption)
          clear hK K hHeld
          have hHeld := hNew
          clear hNew
          try simp only [Act.put, pz1, pz2, pz3]
          refine wpAnyH_ready (rs := [12]) (by kernel_rfl) (by simp) ?_
          refine AllReadyH.cons (o := ⟨some 64, .call { callee := .value (.func 79), args := #[.tmp 52, .tmp 57, .tmp 63], argTypes := #[28, 109, 37] }, 106, "write.go:41", #[⟨0, .data⟩, ⟨5, .data⟩, ⟨11, .data⟩], none⟩) rfl (fun K hK => ?_) AllReadyH.nil
          go_simp
          (first | (go_at_call 79; go_loud (((with_reducible refine (write_c F1 a b d e fs L N nd S S4 kb ub _ rfl _ _ _ hGM hcm.out hrM.slr hgz).mono ?_); rintro e' w5 ⟨rfl, hG5, hT5⟩; have hNext : (w5.cell? ⟨F1.fm, 9, none⟩ = some (.int .i64 S.epoch) ∧ w5.cell? ⟨F1.fm, 3, none⟩ = some (.int .i64 (nd : Int))) := ⟨HE5.out.symm ▸ hG5.c9, hG5.c3⟩; have QN5 : ∀ cs, ((w5.alloc (.cells cs 68)).cell? ⟨F1.fm, 9, none⟩ = some (.int .i64 S.epoch) ∧ (w5.alloc (.cells cs 68)).cell? ⟨F1.fm, 3, none⟩ = some (.int .i64 (nd : Int))) := fun cs => (by have h := hG5.below ((Below.refl _ _).alloc (Nat.le_refl _) (.cells cs 68)); exact ⟨HE5.out.symm ▸ h.c9, h.c3⟩); have BN5 := hT5.blk BAM (fun h => by have := hGV.blt h; omega); have m0 := BN5.cell_ 0; have m1 := BN5.cell_ 1; simp at m0 m1; have f0 := BN5.free 0; have f1 := BN5.free 1; have TS : Tch (fun g => g = wr.heap.size) w5 ((w5.setCell ⟨wr.heap.size, 0, none⟩ (.int .i64 (kb : Int))).setCell ⟨wr.heap.size, 1, none⟩ (.int .i64 (ub : Int))) := (Tch.setm w5 wr.heap.size 0 _).trans (Tch.setm _ wr.heap.size 1 _); have GS := hG5.far TS (fun g hu e => by have := hGV.lt g hu; have := HBM.size; omega); have BS := (BN5.set_ 0 (.int .i64 (kb : Int))).set_ 1 (.int .i64 (ub : Int)); simp at BS; have QNS : (((w5.setCell ⟨wr.heap.size, 0, none⟩ (.int .i64 (kb : Int))).setCell ⟨wr.heap.size, 1, none⟩ (.int .i64 (ub : Int))).cell? ⟨F1.fm, 9, none⟩ = some (.int .i64 S.epoch) ∧ ((w5.setCell ⟨wr.heap.size, 0, none⟩ (.int .i64 (kb : Int))).setCell ⟨wr.heap.size, 1, none⟩ (.int .i64 (ub : Int))).cell? ⟨F1.fm, 3, none⟩ = some (.int .i64 (nd : Int))) := ⟨HE5.out.symm ▸ GS.c9, GS.c3⟩))) | (go_at_call 79; go_loud (((with_reducible refine (write_c F1 a b d e fs L N nd S S4 kb ub _ rfl _ _ _ hGM hcm.out hrM.slr hgz).mono ?_); rintro e' w5 ⟨rfl, hG5, hT5⟩; have hNext : (w5.cell? ⟨F1.fm, 9, none⟩ = some (.int .i64 S.epoch) ∧ w5.cell? ⟨F1.fm, 3, none⟩ = some (.int .i64 (nd : Int))) := ⟨HE5.out.symm ▸ hG5.c9, hG5.c3⟩; have QN5 : ∀ cs, ((w5.alloc (.cells cs 68)).cell? ⟨F1.fm, 9, none⟩ = some (.int .i64 S.epoch) ∧ (w5.alloc (.cells cs 68)).cell? ⟨F1.fm, 3, none⟩ = some (.int .i64 (nd : Int))) := fun cs => (by have h := hG5.below ((Below.refl _ _).alloc (Nat.le_refl _) (.cells cs 68)); exact ⟨HE5.out.symm ▸ h.c9, h.c3⟩)))) | (go_at_call 79; go_loud (((with_reducible refine (write_c F1 a b d e fs L N nd S S4 kb ub _ rfl _ _ _ (hGM.below ((Below.refl _ _).alloc (Nat.le_refl _) _)) hcm.out (hrM.below ((Below.refl _ _).alloc (Nat.le_refl _) _)).slr hgz).mono ?_); rintro e' w5 ⟨rfl, hG5, hT5⟩; have hNext : (w5.cell? ⟨F1.fm, 9, none⟩ = some (.int .i64 S.epoch) ∧ w5.cell? ⟨F1.fm, 3, none⟩ = some (.int .i64 (nd : Int))) := ⟨HE5.out.symm ▸ hG5.c9, hG5.c3⟩; have QN5 : ∀ cs, ((w5.alloc (.cells cs 68)).cell? ⟨F1.fm, 9, none⟩ = some (.int .i64 S.epoch) ∧ (w5.alloc (.cells cs 68)).cell? ⟨F1.fm, 3, none⟩ = some (.int .i64 (nd : Int))) := fun cs => (by have h := hG5.below ((Below.refl _ _).alloc (Nat.le_refl _) (.cells cs 68)); exact ⟨HE5.out.symm ▸ h.c9, h.c3⟩); have BN5 := hT5.blk (Blk.new_ wM 68 #[.int .i64 0, .int .i64 0]) (fun h => by have := hGV.blt h; have := HBM.size; omega); have m0 := BN5.cell_ 0; have m1 := BN5.cell_ 1; simp at m0 m1; have f0 := BN5.free 0; have f1 := BN5.free 1; have TS : Tch (fun g => g = wM.heap.size) w5 ((w5.setCell ⟨wM.heap.size, 0, none⟩ (.int .i64 (kb : Int))).setCell ⟨wM.heap.size, 1, none⟩ (.int .i64 (ub : Int))) := (Tch.setm w5 wM.heap.size 0 _).trans (Tch.setm _ wM.heap.size 1 _); have GS := hG5.far TS (fun g hu e => by have := hGV.lt g hu; have := HBM.size; omega); have BS := (BN5.set_ 0 (.int .i64 (kb : Int))).set_ 1 (.int .i64 (ub : Int)); simp at BS; have QNS : (((w5.setCell ⟨wM.heap.size, 0, none⟩ (.int .i64 (kb : Int))).setCell ⟨wM.heap.size, 1, none⟩ (.int .i64 (ub : Int))).cell? ⟨F1.fm, 9, none⟩ = some (.int .i64 S.epoch) ∧ ((w5.setCell ⟨wM.heap.size, 0, none⟩ (.int .i64 (kb : Int))).setCell ⟨wM.heap.size, 1, none⟩ (.int .i64 (ub : Int))).cell? ⟨F1.fm, 3, none⟩ = some (.int .i64 (nd : Int))) := ⟨HE5.out.symm ▸ GS.c9, GS.c3⟩))))
          go_wp2_with fail
          refine hK.out _ _ ?_ (fun hNew => ?_)
          · (first | with_reducible exact QNS | with_reducible exact QNM _ | with_reducible exact QN5 _ | exact QN5 _ | with_reducible exact QD | with_reducible exact QA | with_reducible exact hNext | assumption)
          clear hK K hHeld
          have hHeld := hNew
          clear hNew
          try simp only [Act.put, pz1, pz2, pz3]
          refine tk 13 ?_; try simp only [Act.put, pz1, pz2, pz3]
          refine tk 14 ?_; try simp only [Act.put, pz1, pz2, pz3]
          refine tk 15 ?_; try simp only [Act.put, pz1, pz2, pz3]
          refine wpAnyH_ready (rs := [17]) (by kernel_rfl) (by simp) ?_
          refine AllReadyH.cons (o := ⟨none, .store 68 (.tmp 9) (.tmp 65), 0, "write.go:41", #[⟨16, .data⟩, ⟨14, .data⟩, ⟨12, .chain⟩, ⟨0, .phase⟩, ⟨1, .phase⟩, ⟨2, .phase⟩, ⟨3, .phase⟩, ⟨4, .phase⟩, ⟨5, .phase⟩, ⟨6, .phase⟩, ⟨7, .phase⟩, ⟨8, .phase⟩, ⟨9, .phase⟩, ⟨10, .phase⟩, ⟨11, .phase⟩, ⟨12, .phase⟩, ⟨13, .phase⟩, ⟨14, .phase⟩, { on := 15, ground := Ground.textOnly Departure.lateStores }, ⟨16, .phase⟩], none⟩) rfl (fun K hK => ?_) AllReadyH.nil
          go_simp
          skip
          refine hK.out _ _ ?_ (fun hNew => ?_)
          · (first | with_reducible exact QNS | with_reducible exact QNM _ | with_reducible exact QN5 _ | exact QN5 _ | with_reducible exact QD | with_reducible exact QA | with_reducible exact hNext | assumption)
          clear hK K hHeld
          have hHeld := hNew
          clear hNew
          try simp only [Act.put, pz1, pz2, pz3]
          refine tk 18 ?_; try simp only [Act.put, pz1, pz2, pz3]
          refine wpAnyH_done (by kernel_rfl) ?_ _
          refine NoPanic.normal ?_
          go_wp2_with fail
          go_meet
          first
            | exact ⟨_, rfl, rfl, hG5.below ((Below.refl w5.heap.size w5).alloc (Nat.le_refl _) _), (((tch_bel HBM).trans hT5).trans (tch_bel ((Below.refl w5.heap.size w5).alloc (Nat.le_refl _) _))), Blk.new_ _ _ _⟩
            | exact ⟨_, rfl, rfl, GS, tend HBM (Below.refl _ _) hT5 TS (by omega), BS⟩
            | exact ⟨_, rfl, rfl, GS, tend HBM ((Below.refl _ _).alloc (Nat.le_refl _) _) hT5 TS (by have := HBM.size; omega), BS⟩
      case rest =>
        obtain ⟨g9, rfl, rfl, hG6, hT6, BX⟩ := hcut
        have TT6 := HT.trans hT6
        have hSl6 : Sl wc wc.heap.size A (ps.map fun (p : Nat) => Value.int .i64 (p : Int)) := (slT hSl3 TT6 (Nat.le_refl _) (fun h => hd2 (fun e => h (by rw [e]; rfl)))).mono TT6.size
        have hd6 : ps ≠ [] → ∀ h o, A = some ⟨h, o, none⟩ → ¬ FlB F1 h := hd2
        obtain ⟨o0, o1⟩ : _ ∧ _ := ⟨BX.cell_ 0, BX.cell_ 1⟩
        simp at o0 o1
        clear QD QA bD bA0 bA BA hGD hGA
        go_wp2_with (first | (go_at_call 80; go_loud (((with_reducible refine (settle_f F1 a b (nd : Int) d e fs L N S4 ps n HN.out A cA (kb : Int) (ub : Int) _ hG6 hSl6 hd6 HPS.out hnn1).mono ?_); rintro e' w7 ⟨⟨v7, rfl⟩, ⟨F2, hG7, HNX2⟩, hT7⟩; have hG7 : FlW w7 F2 a b (nd : Int) d e fs L N (stlEnd a b L S4 ps kb ub) := hG7; have hfm2 := HNX2.fm; rw [← hfm2]; clear hfm2))) | (go_at_call 81; go_loud (((with_reducible refine (rescue_no F2 a b (nd : Int) d e fs L N (stlEnd a b L S4 ps kb ub) _ hG7 HNS.out).mono ?_); rintro e' w8 ⟨rfl, b8⟩; have hG8 := hG7.below b8))) | (go_at_call 64; go_loud (((with_reducible refine (even_no F2 a b (nd : Int) d e fs L N (stlEnd a b L S4 ps kb ub) nb _ hG8 HBN.out hnb HSP.out).mono ?_); rintro e' w9 ⟨rfl, b9⟩; have hG9 := hG8.below b9))))
        go_ret
        have T9 := HNX2.tch hT7 ((tch_bel (S := FlB F2) b8).trans (tch_bel b9))
        have HXX := HNX.trans HNX2 (w' := wc) (by have := TT3.size; have := TT6.size; omega)
        have HTT := HNX.tch TT3 (TT6.trans T9)
        first
          | exact ⟨rfl, ⟨F2, hG9, HXX⟩, HTT⟩
          | exact ⟨⟨F2, hG9, HXX⟩, HTT⟩
end Go.Proofs.YtkpcohfdcilfcaaGreat
namespace Go.Proofs.YtkpcohfdcilfcaaGreat
open Go.ChangeShapes Go.WideShapes Go.ChangeAt Go.RowKit
attribute [local go_sem ↓] Go.wp_at_zero Go.wp_at_succ
theorem own_ints {w : World} {base : Nat} {v : Value} {l : List Int} {ps : List Nat} (h : w.ownsRow base 3 1 v l.length (l.map (Value.int .i64))) (hl : l = ps.map fun (p : Nat) => (p : Int)) : ∃ (A : Option Addr) (cA : Nat), v = .slice A ps.length cA ∧ Sl w w.heap.size A (ps.map fun (p : Nat) => Value.int .i64 (p : Int)) ∧ ∀ g o, A = some ⟨g, o, none⟩ → base ≤ g := by
  obtain ⟨A, c, hv, hs, -, -⟩ := own_sl h
  subst hl
  rw [List.length_map] at hv
  rw [List.map_map] at hs
  refine ⟨A, c, hv, hs, fun g o hA => ?_⟩
  subst hA
  rcases h with ⟨-, ⟨h1, -⟩ | ⟨g', cap, cur, h1, h2, -⟩⟩
  · rw [hv] at h1
    injection h1 with q1
    cases q1
  · rw [hv] at h1
    injection h1 with q1
    injection q1 with q1
    injection q1 with q1
    omega
theorem flush_ok (F : FlK) (a b d e : Int) (fs : List Flt) (L N nd : Nat) (s S3 S4 : FlS) (eq : Nat) (ps : List Nat) (kb ub : Nat) (nb : Int) (w : World) (hF : FlW w F a b (nd : Int) d e fs L N s) (hon : s.ch.on = true) (hc : s.ch.cuts = s.cuts) (hd : s.degr = false) (hl : chgL s L = ps.map fun (p : Nat) => (p : Int)) (hne : 0 < ps.length) (hn1 : ps.length ≤ 100000) (hps : ∀ p ∈ ps, p < L ∧ hasB S4.fA (p : Int) = true) (heq : s.epoch = (eq : Int)) (heq2 : eq ≤ 1000000000) (hrb : resB a d fs s.ch 0 = true)
    (hch : WChain a b nd d fs { s with epoch := (eq : Int) + 1, fA := List.replicate L (-1) } ps S3) (hcm : CmOk a b nd d fs S3 kb ub S4) (hns : NoStrand a b fs (stlEnd a b L S4 ps kb ub)) (hbn : S4.ch.Bnd nb) (hnb : nb ≤ 900000000) (hsp : sprI a fs S4.ch ≤ e + 2 * a + S4.ch.cuts) :
    Calls Tryz.prog 20 #[.pointer (some ⟨F.fm, 0, none⟩)] w fun e' w' => e' = .returned (.int .i64 0) ∧ (∃ F', FlW w' F' a b (nd : Int) d e fs L N (stlEnd a b L S4 ps kb ub) ∧ FlNx w F F') ∧ Tch (FlB F) w w' := by
  have HL := Lib.hid hl
  have HCH := Lib.hid hch
  have HCM := Lib.hid hcm
  have HNS := Lib.hid hns
  have hne2 : decide ((ps.length : Int) = 0) = false := decide_eq_false (by omega)
  clear hl hch hcm hns
  go_enter Tryz.func20, Tryz.ntmps20
  go_wp2_with (first | (go_at_call 46; go_loud (((with_reducible refine (off_no F a b (nd : Int) d e fs L N s _ hF hon hc).mono ?_); rintro e' w1 ⟨rfl, b1⟩; have hG := hF.below b1; have k7 := hG.c7; rw [hd] at k7))) | (go_at_call 49; go_loud (((with_reducible refine (changed_f F a b (nd : Int) d e fs L N s _ hG _ rfl).mono ?_); rintro e' w2 ⟨⟨v2, rfl, ho2⟩, b2⟩; (obtain ⟨A, cA, hv, hSl, hAB⟩ := own_ints ho2 HL.out); subst hv; have hG2 := hG.below b2; have B2 := btr b1 b1.size b2))) | (go_at_call 50; go_loud (((with_reducible refine (flush_f F a b d e fs L N nd s S3 S4 eq ps _ rfl A cA kb ub nb _ hG2 hSl (fun _ h o e hb => by have q1 := hAB h o e; have q2 := hF.blt hb; have q3 := b1.size; omega) hn1 hps heq heq2 hrb HCH.out HCM.out HNS.out hbn hnb hsp).mono ?_); rintro e' w3 ⟨rfl, ⟨F2, hG3, hNX⟩, hT3⟩; skip))))
  go_ret
  have hNX : FlNx w F F2 := (FlNx.refl w F).trans hNX (w' := w2) B2.size
  have hTT : Tch (FlB F) w w3 := (tch_bel B2).trans hT3
  first
    | exact ⟨rfl, ⟨F2, hG3, hNX⟩, hTT⟩
    | exact ⟨⟨F2, hG3, hNX⟩, hTT⟩
end Go.Proofs.YtkpcohfdcilfcaaGreat
namespace Go.Proofs.YtkpcohfdcilfcaaGreat
open Go.ChangeShapes Go.WideShapes Go.ChangeAt Go.RowKit
def kA0 : List Int := List.replicate 24 0
def kA1 : List Int := (kA0.set 0 1).set 2 1
def kA2 : List Int := (kA1.set 0 2).set 2 2
def dN (n k : Nat) : List Nat := (List.range k).map fun i => (n + i) % 256
theorem dN_8 (n k : Nat) : Bytes8 (dN n k) := fun x hx => by
  obtain ⟨i, -, rfl⟩ := List.mem_map.1 hx
  exact Nat.mod_lt _ (by omega)
theorem dN_len (n k : Nat) : (dN n k).length = k := by simp [dN]
def rw1 : List Nat := rawB (dN 9 32) 1 2 1 1
def rw2 : List Nat := rawB (List.replicate 32 0) 3 0 2 1
theorem k0_open {s : ChS} (h : s.K = kA0) : OpenOk 8 4 0 [] s 0 := by
  obtain ⟨X, K, ops, cuts, on, armed, turn, cop, cby, fill⟩ := s
  obtain rfl : K = kA0 := h
  exact Or.inr ⟨by kernel_rfl, by kernel_rfl, by kernel_rfl⟩
theorem k0_res {s : ChS} (h : s.K = kA0) : resB 8 0 [] s 0 = true := by
  obtain ⟨X, K, ops, cuts, on, armed, turn, cop, cby, fill⟩ := s
  obtain rfl : K = kA0 := h
  kernel_rfl
theorem k0_ask {s : ChS} (h : s.K = kA0) : s.ask 8 (0 : Nat) 0 = (0 : Nat) := by
  obtain ⟨X, K, ops, cuts, on, armed, turn, cop, cby, fill⟩ := s
  obtain rfl : K = kA0 := h
  kernel_rfl
theorem k1_ask {s : ChS} (h : s.K = kA1) : s.ask 8 (0 : Nat) 0 = (1 : Nat) := by
  obtain ⟨X, K, ops, cuts, on, armed, turn, cop, cby, fill⟩ := s
  obtain rfl : K = kA1 := h
  kernel_rfl
theorem k1_open {s : ChS} (h : s.K = kA1) : OpenOk 8 4 0 [] s 0 := by
  obtain ⟨X, K, ops, cuts, on, armed, turn, cop, cby, fill⟩ := s
  obtain rfl : K = kA1 := h
  exact Or.inl (by kernel_rfl)
theorem k0_spr {s : ChS} (h : s.K = kA0) : sprI 8 [] s = 0 := by
  obtain ⟨X, K, ops, cuts, on, armed, turn, cop, cby, fill⟩ := s
  obtain rfl : K = kA0 := h
  kernel_rfl
theorem k2_spr {s : ChS} (h : s.K = kA2) : sprI 8 [] s = 0 := by
  obtain ⟨X, K, ops, cuts, on, armed, turn, cop, cby, fill⟩ := s
  obtain rfl : K = kA2 := h
  kernel_rfl
theorem k_over {s : ChS} (f : FlS) (hd : f.degr = false) (h : f.ch = s) (hK : s.K = kA0 ∨ s.K = kA1 ∨ s.K = kA2) : f.over 8 0 [] = false := by
  unfold FlS.over
  rw [hd, h]
  obtain ⟨X, K, ops, cuts, on, armed, turn, cop, cby, fill⟩ := s
  rcases hK with hK | hK | hK
  · obtain rfl : K = kA0 := hK
    kernel_rfl
  · obtain rfl : K = kA1 := hK
    kernel_rfl
  · obtain rfl : K = kA2 := hK
    kernel_rfl
theorem good_nil (a : Int) (s : ChS) (B : Int) : goodB a [] s B = true := by
  unfold goodB
  rw [failed_none]
  rfl
theorem layD : LayOk (dN 9 32) 1 2 1 1 := ⟨by decide, by decide, by omega, by omega, by omega, by omega, by omega, by omega, dN_8 9 32⟩
theorem layZ : LayOk (List.replicate 32 0) 3 0 2 1 := ⟨by simp, by simp, by omega, by omega, by omega, by omega, by omega, by omega, fun x hx => by have := List.eq_of_mem_replicate hx; omega⟩
theorem rw1_len : rw1.length = 48 := by unfold rw1; rw [rawB_len]; rfl
theorem rw2_len : rw2.length = 48 := by unfold rw2; rw [rawB_len, List.length_replicate]
theorem rw1_8 : Bytes8 rw1 := rawB_8 layD.2.2.2.2.2.2.2.2 (by omega)
theorem rw2_8 : Bytes8 rw2 := rawB_8 layZ.2.2.2.2.2.2.2.2 (by omega)
theorem rw1_st : readSt rw1 = 1 := raw_valid layD
theorem rw2_st : readSt rw2 = 1 := raw_valid layZ
theorem rw1_lk : Lk rw1 (dN 9 32) 32 1 2 1 1 1 := by
  have h := raw_drop (dN 9 32) 1 2 1 1
  rw [show (dN 9 32).length = 32 from by decide] at h
  refine ⟨?_, by decide, ?_, rw1_st⟩
  · unfold lkD
    rw [if_pos rw1_st, rw1_len]
    unfold rw1
    rw [raw_tail]
    exact List.take_left' (by decide)
  · unfold lkT
    rw [if_pos rw1_st, rw1_len, show 48 - 16 = 32 from rfl]
    unfold rw1
    rw [h, tail_tK, tail_tP (by omega), tail_tS (by omega), tail_tE (by omega)]
theorem rw2_tag : lkT rw2 = (3, 0, 2, 1) := by
  have h := raw_drop (List.replicate 32 0) 3 0 2 1
  rw [List.length_replicate] at h
  unfold lkT
  rw [if_pos rw2_st, rw2_len, show 48 - 16 = 32 from rfl]
  unfold rw2
  rw [h, tail_tK, tail_tP (by omega), tail_tS (by omega), tail_tE (by omega)]
end Go.Proofs.YtkpcohfdcilfcaaGreat
namespace Go.Proofs.YtkpcohfdcilfcaaGreat
open Go.ChangeShapes Go.WideShapes Go.ChangeAt Go.RowKit
attribute [local go_sem ↓] Go.wp_at_zero Go.wp_at_succ
theorem fds_row2 {w : World} {F : FlK} {base : Nat} {A : Option Addr} {n c : Nat} {L : List Fd} (h : RowFd w base (.slice A n c) L) (hb : ∀ g, FlU F g → g < base ∨ w.heap.size ≤ g) : FdsAt w F A L := by
  obtain ⟨A', c', hv, hs, -, -⟩ := h.sl
  cases hv
  by_cases hn : L = []
  · exact Or.inl hn
  · obtain ⟨b, off, hA, hl, hq⟩ := hs.at_ (List.length_pos_iff.2 hn)
    subst hA
    have hlt := World.ownsRow.lt h b rfl
    exact Or.inr ⟨b, off, rfl, hl, fun hu => by have := hb _ hu; omega, hq⟩
def learnF (L : Nat) (a b : Int) (fds L1 L2 : List Fd) (s : FlS) : FlS := comF (lastZ fds) ((staleZ fds).foldl (staStep L) (L2.foldl (datStep L) (L1.foldl (putStep a b) { s with seq := seqF fds s.seq, epoch := epoF fds s.epoch }))) fds
theorem mountn_nil (w : World) : Calls Tryz.prog 23 #[.pointer none] w fun e' w' => e' = .returned (.tuple #[.pointer none, .int .i64 1]) ∧ w = w' := by
  go_enter Tryz.func23, Tryz.ntmps23
  go_wp2_with fail
  go_ret2
  exact ⟨rfl, rfl⟩
theorem apart9 {w w1 : World} {m gx gb : Nat} {Af : Option Addr} {nf cf : Nat} {a b c d e : Int} {fs : List Flt} {s S1 : ChS} (hC : ChipW w m gx gb Af nf cf a b c d e fs s) (hC1 : ChipW w1 m gx gb Af nf cf a b c d e fs S1) (hT : Tch (chB m gx gb) w w1) {F : FlK} (hAp : ∀ g, FlB F g → chB m gx gb g ∨ w1.heap.size ≤ g) (hD : ∀ g ∈ F.dat, fs ≠ [] ∧ ∃ off, Af = some ⟨g, off, none⟩) : ∀ g, FlU F g → g < w.heap.size ∨ w1.heap.size ≤ g := by
  intro g hg
  obtain ⟨l1, l2, l3⟩ := hC.lt
  rcases hg with hg | hg
  · rcases hAp g hg with h | h
    · rcases h with rfl | rfl | rfl
      · exact Or.inl l1
      · exact Or.inl l2
      · exact Or.inl l3
    · exact Or.inr h
  · obtain ⟨h1, off, h2⟩ := hD g hg
    rcases hC.flt with h | ⟨g', off', hA, hl, -⟩
    · exact absurd h h1
    · rw [h2] at hA
      cases hA
      exact Or.inl hl
theorem FlW.to {w : World} {F : FlK} {a b c d e : Int} {fs : List Flt} {L N : Nat} {s s' : FlS} (hF : FlW w F a b c d e fs L N s) (h : s = s') : FlW w F a b c d e fs L N s' := h ▸ hF
theorem mount_ok (m gx gb : Nat) (Af : Option Addr) (nf cf : Nat) (a b c d e : Int) (fs : List Flt) (NA NB : Nat) (n0 : Int) (acc : List Vis) (s S1 : ChS) (L N : Nat) (SL : FlS) (n : Nat) (w : World) (hC : ChipW w m gx gb Af nf cf a b c d e fs s) (hg : Good s n0) (hn0 : n0 ≤ 800000000) (h8 : Bytes8 s.X) (hNA : (NA : Int) = a) (hNB : (NB : Int) = b) (hon : s.on = true) (hR : Hid (walkF a b c NB fs (NA * NB) 0 s [] = (0, acc, S1))) (HN : Hid ((fdsOf acc).length = n)) (hn1 : n ≤ 100000) (hL : logicalI a b d = (L : Int)) (hN : (N : Int) = a * b) (hok : ∀ x ∈ fdsOf acc, FdOk x)
    (hsl : ∀ L1 L2 : List Fd, IsAll (trimL (fdsOf acc)) L1 → IsAll (fdsOf acc) L2 → learnF L a b (fdsOf acc) L1 L2 (blankS S1 L) = SL) (hal : ∀ x ∈ fdsOf acc, needB a b SL x.b x.g = true → Alone a fs SL.ch (fdsOf acc) x) (hch : SL.ch = S1) (hover : SL.over a d fs = false) (hsp : sprI a fs SL.ch ≤ e + 2 * a + SL.ch.cuts) :
    Calls Tryz.prog 23 #[.pointer (some ⟨m, 0, none⟩)] w fun e' w' => (∃ F : FlK, e' = .returned (.tuple #[.pointer (some ⟨F.fm, 0, none⟩), .int .i64 0]) ∧ FlW w' F a b c d e fs L N { SL with degr := false } ∧ (F.m = m ∧ F.gx = gx ∧ F.gb = gb ∧ F.Af = Af ∧ F.nf = nf ∧ F.cf = cf) ∧ (∀ g, FlB F g → chB m gx gb g ∨ w.heap.size ≤ g) ∧ (∀ g ∈ F.dat, fs ≠ [] ∧ ∃ off, Af = some ⟨g, off, none⟩)) ∧ Tch (chB m gx gb) w w' ∧ Good S1 (n0 + 1000) := by
  have HSL : Hid (∀ L1 L2 : List Fd, IsAll (trimL (fdsOf acc)) L1 → IsAll (fdsOf acc) L2 → learnF L a b (fdsOf acc) L1 L2 (blankS S1 L) = SL) := Lib.hid hsl
  have HCH := Lib.hid hch
  have HON := Lib.hid hon
  clear hsl hch hon
  go_enter Tryz.func23, Tryz.ntmps23
  go_wp2_with (first | (go_at_call 58; go_loud (((with_reducible refine (on_any m gx gb Af nf cf a b c d e fs _ s hC).mono ?_); rintro e' w0 ⟨rfl, rfl⟩; rw [HON.out]))) | (go_at_call 59; go_loud (((with_reducible refine (scan_ok m gx gb Af nf cf a b c d e fs NA NB n0 acc s S1 _ hC hg hn0 h8 hNA hNB hR n HN).mono ?_); rintro e' w1 ⟨⟨A1, c1, rfl, hR1⟩, hC1, hT1, hg1, h81⟩; have z1 := hT1.size))) | (go_at_call 60; go_loud (((with_reducible refine (blank_any m gx gb Af nf cf a b c d e fs S1 L N _ hC1 hL hN).mono ?_); rintro e' w2 ⟨⟨F, rfl, hF2, hEq, hAp, hDat⟩, b2⟩; have hFds : FdsAt w2 F A1 (fdsOf acc) := (fds_row2 hR1 (apart9 hC hC1 hT1 hAp hDat)).tch (tch_bel b2); have z2 := b2.size))) | (go_at_call 61; go_loud (((with_reducible refine (learn_f F a b c d e fs L N _ (fdsOf acc) n HN.out A1 c1 _ hF2 hFds hn1 hok).mono ?_); rintro e' w3 ⟨⟨v3, rfl⟩, ⟨L1, L2, hI1, hI2, hF3⟩, hT3⟩; have hF3 := hF3.to (HSL.out L1 L2 hI1 hI2); have hFds3 := hFds.tch hT3))) | (go_at_call 62; go_loud (((with_reducible refine (prefer_same F a b c d e fs L N SL (fdsOf acc) n HN.out A1 c1 _ hF3 hFds3 hn1 hal).mono ?_); rintro e' w4 ⟨rfl, b4⟩; have hF4 := hF3.below b4))) | (go_at_call 63; go_loud (((with_reducible refine (overdue_any F a b c d e fs L N SL _ hF4 false hover).mono ?_); rintro e' w5 ⟨rfl, hF5, hT5⟩; skip))) | (go_at_call 64; go_loud (((with_reducible refine (even_no F a b c d e fs L N { SL with degr := false } (n0 + 1000) _ hF5 (by show ChS.Bnd _ _; rw [HCH.out]; exact hg1.fine.bnd) (by omega) hsp).mono ?_); rintro e' w6 ⟨rfl, b6⟩; have hF6 := hF5.below b6))))
  go_ret2
  refine ⟨⟨F, rfl, hF6, hEq, fun g h => (hAp g h).imp id (fun h => Nat.le_trans z1 h), hDat⟩, ?_, hg1⟩
  obtain ⟨e1, e2, e3, -⟩ := hEq
  have hAp' : ∀ g, g < w1.heap.size → FlB F g → chB m gx gb g := fun g hl h => (hAp g h).elim id (fun h2 => absurd h2 (by omega))
  exact hT1.trans (((((tch_bel b2).trans hT3).trans (tch_bel b4)).trans hT5).trans (tch_bel b6) |>.monoL hAp')
end Go.Proofs.YtkpcohfdcilfcaaGreat
namespace Go.Proofs.YtkpcohfdcilfcaaGreat
open Go.ChangeShapes Go.WideShapes Go.ChangeAt Go.RowKit
theorem prog_eq {s : ChS} (h : Liv s) {kb ub N : Nat} {bs : List Nat} (hl : bs.length = 48) (ht : thereB 8 4 (kb : Int) (ub : Int) = true) (hu : s.k (kb : Int) 0 = (ub : Int)) (hN : ((kb : Int) * 4 + (ub : Int)).toNat = N) : s.progZ 8 4 ((32 : Nat) : Int) [] (kb : Int) (ub : Int) (32 + 16) = 0 ∧ s.progS 8 4 ((32 : Nat) : Int) [] (kb : Int) (ub : Int) bs = s.prog kb N 48 bs := by
  have hw : s.wrong 8 [] kb ub = 0 := wrong_next hu
  unfold ChS.progZ ChS.progS
  rw [h.on, ht, hl, h.cut, hN]
  refine ⟨?_, ?_⟩
  · rw [if_pos rfl, if_pos (by decide), if_neg (by decide)]
    exact hw
  · rw [if_pos (by decide)]
    have hw2 : s.wrong 8 [] (kb : Int).toNat (ub : Int).toNat = 0 := hw
    rw [if_pos hw2, if_neg (by decide)]
    rfl
theorem prog_K0 {s : ChS} (hK : s.K = kA0) (N : Nat) (bs : List Nat) : (s.prog 0 N 48 bs).K = kA1 := by
  unfold ChS.prog ChS.inc ChS.k
  dsimp only
  rw [tick_K, hK]
  kernel_rfl
theorem prog_K1 {s : ChS} (hK : s.K = kA1) (N : Nat) (bs : List Nat) : (s.prog 0 N 48 bs).K = kA2 := by
  unfold ChS.prog ChS.inc ChS.k
  dsimp only
  rw [tick_K, hK]
  kernel_rfl
theorem prog_liv {s : ChS} (h : Liv s) (k N RW : Nat) {bs : List Nat} (hb : Bytes8 bs) : Liv (s.prog k N RW bs) := by
  have ht := h.tick
  exact ⟨ht.on, ht.ar, by
    show Bytes8 (putX s.X (N * RW) bs)
    exact putX_8 h.b8 hb⟩
theorem prog_cuts {s : ChS} (h : Liv s) (k N RW : Nat) (bs : List Nat) : (s.prog k N RW bs).cuts = s.cuts := by
  have := (prog_on (s := s) k N RW bs).2.2.2.2.1
  rw [this, tick_nc h.cut]
theorem prog_fine {s : ChS} {n : Int} (h : Fine s n) (k N RW : Nat) (bs : List Nat) : Fine (s.prog k N RW bs) (n + 3) := by
  refine ⟨prog_bnd h.bnd k N RW bs, ?_, ?_⟩
  · have h1 := h.cby
    unfold ChS.prog ChS.inc ChS.tick
    split <;> exact h1
  · have h1 := h.fill
    unfold ChS.prog ChS.inc ChS.tick
    split <;> exact h1
theorem walk0 (n : Int) : ∃ S1, walkF 8 4 32 4 [] (8 * 4) 0 ((ChS.new 1536 8).at_ n) [] = (0, visF 4 48 [] (List.replicate 1536 255) 32 0, S1) ∧ ∃ m, S1 = (ChS.new 1536 8).at_ m := by
  have hL : Liv ((ChS.new 1536 8).at_ n) := (Liv.new 1536 8).at_ n
  obtain ⟨S1, h1, h2, h3⟩ := walkF_liv (a := 8) (b := 4) (c := 32) (NA := 8) (NB := 4) (RW := 48) (fs := []) rfl rfl rfl (by omega) 32 0 ((ChS.new 1536 8).at_ n) [] (by omega) hL
  rw [List.nil_append] at h1
  refine ⟨S1, h1, ?_⟩
  obtain ⟨m, hm⟩ := walkF_at 32 0 _ [] hL _ _ _ h1
  exact ⟨m, by rw [hm]; rfl⟩
theorem vis0 : fdsOf (visF 4 48 [] (List.replicate 1536 255) 32 0) = [] :=
  (vis_blank 32 0 (fun t h1 h2 => by rw [pg_rep (by omega)]; exact st_blank (by omega) (by omega))).1
def xP : List Nat := putX (putX (List.replicate 1536 255) (0 * 48) rw1) (1 * 48) rw2
def fdl : List Fd := [⟨0, 0, 1, 2, 1, 1⟩, ⟨0, 1, 3, 0, 2, 1⟩]
theorem pg0 : pg xP 48 0 = rw1 := by
  unfold xP
  rw [pg_far (by rw [rw2_len]; rw [putX_len (by rw [rw1_len, List.length_replicate]; omega), List.length_replicate]; omega) (Or.inl (by omega)), pg_at (by rw [rw1_len, List.length_replicate]; omega) rw1_len]
theorem pg1 : pg xP 48 1 = rw2 := by
  unfold xP
  rw [pg_at (by rw [rw2_len, putX_len (by rw [rw1_len, List.length_replicate]; omega), List.length_replicate]; omega) rw2_len]
theorem pg2 {t : Nat} (h : 2 ≤ t) (h2 : t < 32) : pg xP 48 t = List.replicate 48 255 := by
  unfold xP
  rw [pg_far (by rw [rw2_len]; rw [putX_len (by rw [rw1_len, List.length_replicate]; omega), List.length_replicate]; omega) (Or.inr (by rw [rw2_len]; omega)), pg_far (by rw [rw1_len, List.length_replicate]; omega) (Or.inr (by rw [rw1_len]; omega)), pg_rep (by omega)]
theorem fd0 : fdOf (0, 0, rw1) = [⟨0, 0, 1, 2, 1, 1⟩] := by rw [fdOf_lk rw1_lk]; rfl
theorem fd1 : fdOf (0, 1, rw2) = [⟨0, 1, 3, 0, 2, 1⟩] := by
  unfold fdOf
  dsimp only
  rw [if_pos rw2_st, rw2_tag]
  rfl
theorem visP : fdsOf (visF 4 48 [] xP 32 0) = fdl := by
  rw [show (32 : Nat) = 2 + 30 from rfl, visF_add, fds_app, (vis_blank 30 (0 + 2) (fun t h1 h2 => by rw [pg2 (by omega) (by omega)]; exact st_blank (by omega) (by omega))).1, List.append_nil, visF_nil, visF_nil, fds_cons, fds_cons, pg0, pg1]
  rw [show (0 / 4, 0 % 4, rw1) = (0, 0, rw1) from rfl, show ((0 + 1) / 4, (0 + 1) % 4, rw2) = (0, 1, rw2) from rfl, fd0, fd1]
  rfl
theorem walkP {s : ChS} (h : Liv s) (hX : s.X = xP) : ∃ S1, walkF 8 4 32 4 [] (8 * 4) 0 s [] = (0, visF 4 48 [] xP 32 0, S1) ∧ ∃ m, S1 = s.at_ m := by
  obtain ⟨S1, h1, h2, h3⟩ := walkF_liv (a := 8) (b := 4) (c := 32) (NA := 8) (NB := 4) (RW := 48) (fs := []) rfl rfl rfl (by omega) 32 0 s [] (by omega) h
  rw [List.nil_append, hX] at h1
  exact ⟨S1, h1, walkF_at 32 0 _ [] h _ _ _ h1⟩
theorem fdl_ok : ∀ x ∈ fdl, FdOk x := by
  intro x hx
  unfold fdl at hx
  rcases List.mem_cons.1 hx with rfl | hx
  · unfold FdOk i64in; decide
  · rcases List.mem_cons.1 hx with rfl | hx
    · unfold FdOk i64in; decide
    · cases hx
theorem fdl_all {L : List Fd} (h : IsAll fdl L) : L = [⟨0, 0, 1, 2, 1, 1⟩] := by
  refine IsAll.unique h ⟨List.pairwise_singleton .., fun x => ⟨fun hx => ?_, fun hx => ?_⟩⟩
  · obtain rfl := List.mem_singleton.1 hx
    exact ⟨by kernel_rfl, rfl⟩
  · obtain ⟨h1, -⟩ := newestZ_some hx.1
    unfold fdl at h1
    rcases List.mem_cons.1 h1 with rfl | h1
    · exact List.mem_singleton.2 rfl
    · rcases List.mem_cons.1 h1 with rfl | h1
      · exact absurd hx.2 (by decide)
      · cases h1
def slP (s : ChS) : FlS := ⟨s, s.cuts, false, 2, 1, (List.replicate 8 (-1)).set 2 0, List.replicate 8 (-1), List.replicate 8 false, 0, 1, true, List.replicate 8 ⟨0, []⟩, List.replicate 8 false⟩
theorem learnP (s : ChS) (L1 L2 : List Fd) (h1 : IsAll (trimL fdl) L1) (h2 : IsAll fdl L2) : learnF 8 8 4 fdl L1 L2 (blankS s 8) = slP s := by
  have h1 : IsAll fdl L1 := h1
  obtain rfl := fdl_all h1
  obtain rfl := fdl_all h2
  have hq : learnF 8 8 4 fdl [⟨0, 0, 1, 2, 1, 1⟩] [⟨0, 0, 1, 2, 1, 1⟩] (blankS s 8) = slP s := by kernel_rfl
  exact hq
theorem learn0 (s : ChS) (L1 L2 : List Fd) (h1 : IsAll (trimL []) L1) (h2 : IsAll [] L2) : learnF 8 8 4 [] L1 L2 (blankS s 8) = blankS s 8 := by
  have hn : IsAll [] [] := ⟨List.Pairwise.nil, fun x => ⟨fun h => (by cases h), fun h => (by cases h.1)⟩⟩
  have h1 : IsAll [] L1 := h1
  rw [IsAll.unique h1 hn, IsAll.unique h2 hn]
  rfl
theorem aloneP (s : ChS) : ∀ x ∈ fdl, Alone 8 [] s fdl x := by
  intro x hx y hy
  unfold fdl at hx hy
  rcases List.mem_cons.1 hx with rfl | hx <;> rcases List.mem_cons.1 hy with rfl | hy
  · exact Or.inr (Or.inr ⟨rfl, rfl⟩)
  · rcases List.mem_cons.1 hy with rfl | hy
    · exact Or.inr (Or.inl rfl)
    · cases hy
  · rcases List.mem_cons.1 hx with rfl | hx
    · exact Or.inr (Or.inl rfl)
    · cases hx
  · rcases List.mem_cons.1 hx with rfl | hx
    · rcases List.mem_cons.1 hy with rfl | hy
      · exact Or.inr (Or.inr ⟨rfl, rfl⟩)
      · cases hy
    · cases hx
end Go.Proofs.YtkpcohfdcilfcaaGreat
namespace Go.Proofs.YtkpcohfdcilfcaaGreat
open Go.ChangeShapes Go.WideShapes Go.ChangeAt Go.RowKit
attribute [local go_sem ↓] Go.wp_at_zero Go.wp_at_succ
theorem small14 (w : World) : Calls Tryz.prog 45 #[] w fun e' w' => e' = .returned (.agg #[.int .i64 8, .int .i64 4, .int .i64 32, .int .i64 0, .int .i64 2]) ∧ Below w.heap.size w w' := by
  go_enter Tryz.func45, Tryz.ntmps45
  go_wp2
  refine bodyPost_ret (v := .agg #[.int .i64 8, .int .i64 4, .int .i64 32, .int .i64 0, .int .i64 2]) (by simp [results, Tryz.results45, go_sem]) rfl ⟨rfl, ?_⟩
  exact (Below.refl _ _).alloc (Nat.le_refl _) _
theorem new14 (w : World) : Calls Tryz.prog 28 #[.agg #[.int .i64 8, .int .i64 4, .int .i64 32, .int .i64 0, .int .i64 2], .slice none 0 0] w fun e' w' => (∃ m gx gb AF cf, e' = .returned (.pointer (some ⟨m, 0, none⟩)) ∧ ChipW w' m gx gb AF 0 cf 8 4 32 0 2 [] (ChS.new 1536 8) ∧ w.heap.size ≤ m ∧ w.heap.size ≤ gx ∧ w.heap.size ≤ gb) ∧ Below w.heap.size w w' :=
  newF_yes 8 4 32 0 2 [] none 0 1536 8 w (Or.inl rfl) (Nat.le_refl _) (Nat.zero_le _) (by simp) (Lib.hid (by decide)) (by decide) rfl (by omega) (by omega) (by omega)
theorem dN_at {n k j : Nat} (h : j < k) : (dN n k)[j]? = some ((n + j) % 256) := by
  unfold dN
  rw [List.getElem?_map, List.getElem?_range h]
  rfl
theorem wrapB (n j : Nat) : (((n : Int) + (j : Int)) % 256) = (((n + j) % 256 : Nat) : Int) := by
  omega
theorem data_n (n k : Nat) (w : World) (hn : n < 256) (hk : k ≤ 1000) : Calls Tryz.prog 19 #[.int .u8 (n : Nat), .int .i64 (k : Nat)] w fun e' w' => (∃ g, e' = .returned (.slice (some ⟨g, 0, none⟩) k k) ∧ RowT w' g 5 ((dN n k).map byteV) ∧ w.heap.size ≤ g) ∧ Below w.heap.size w w' := by
  go_enter Tryz.func19, Tryz.ntmps19
  go_wp2_with (at_make; go_loud (obtain ⟨ti0, hi, hz0, hz1, hz2⟩ := info_parts infoByte; refine wpList_make_full _ rfl _ _ 37 rfl w.heap.size 5 ti0 (.int .u8 0) 1 Tryz.underlying37 hi hz0 hz1 _ _ _ _ k rfl rfl rfl rfl (by rw [hz2]; omega) (by unfold maxLen; omega) (Nat.le_refl _) ?_; intro w1 hown1 hgrow1; clear hi hz0 hz1 hz2))
  have hB1 : Below w.heap.size w w1 := (Below.refl _ _).grown hgrow1 (Nat.le_refl _) (fun j hj => by cases hj)
  have hR1 : RowT w1 w.heap.size 5 ((dN n k).map byteV |>.take 0 |>.append (List.replicate (k - 0) (.int .u8 0))) := by
    have h := RowT.own hown1
    rw [show (madeCells (Value.int .u8 0).cells (k * 1)).toList = List.replicate (k * 1) (Value.int .u8 0) from toList_madeCells_one _ _, Nat.mul_one] at h
    simpa using h
  have HLN : Hid (((dN n k).map byteV).length = k) := Lib.hid (by rw [List.length_map, dN_len])
  clear hown1 hgrow1
  obtain ⟨g, hg⟩ : ∃ g, w.heap.size = g := ⟨_, rfl⟩
  have HGG := Lib.hid hg
  rw [hg] at hR1 ⊢
  have hBg : Below g w w1 := by rw [← hg]; exact hB1
  clear hg
  go_loopw [6] (fun i wr => ∃ j : Nat, j ≤ k ∧ i = .int .i64 j ∧ RowT wr g 5 (((dN n k).map byteV).take j ++ List.replicate (k - j) (.int .u8 0)) ∧ Below g w wr) (fun i _ => k - (intOf i).toNat)
  case atStart => exact ⟨0, by omega, rfl, hR1, hBg⟩
  case round =>
    obtain ⟨j, hj, rfl, hR, HB⟩ := hrel
    by_cases hlt : j < k
    · have i0 : (0 : Int) ≤ (j : Int) := by omega
      have i1 : (j : Int) < (k : Int) := by omega
      have HAT := Lib.hid (fill_at (z := Value.int .u8 0) HLN.out hlt)
      have HNX : Hid ((((dN n k).map byteV).take j ++ List.replicate (k - j) (Value.int .u8 0)).set j (.int .u8 ((((n : Int) + (j : Int)) % 256))) = ((dN n k).map byteV).take (j + 1) ++ List.replicate (k - (j + 1)) (.int .u8 0)) := Lib.hid (fill_next HLN.out (by
        rw [List.getElem?_map, dN_at hlt, wrapB]
        rfl))
      have HLL : Hid (j < (((dN n k).map byteV).take j ++ List.replicate (k - j) (Value.int .u8 0)).length) := Lib.hid (by
        have := HLN.out
        rw [List.length_append, List.length_take, List.length_replicate]
        omega)
      obtain ⟨xs, hxs⟩ : ∃ xs, ((dN n k).map byteV).take j ++ List.replicate (k - j) (Value.int .u8 0) = xs := ⟨_, rfl⟩
      rw [hxs] at hR HAT HNX HLL
      have c0 := hR.cell_ HAT.out
      have f0 := hR.free j
      have hS := hR.set_ HLL.out (.int .u8 ((((n : Int) + (j : Int)) % 256)))
      have hgl : g ≤ g := Nat.le_refl g
      have HB2 := HB.setCell (p := ⟨g, j, none⟩) hgl (.int .u8 ((((n : Int) + (j : Int)) % 256)))
      clear hxs
      go_wp2_with fail
      go_roundw
      case rel => exact ⟨j + 1, by omega, by go_num, by rw [← HNX.out]; exact hS, HB2⟩
      case measure => simp [intOf]; omega
    · obtain rfl : k = j := by omega
      have hR9 : RowT wr g 5 ((dN n k).map byteV) := by
        have h := hR
        rw [List.take_of_length_le (by rw [HLN.out]; exact Nat.le_refl _), Nat.sub_self, List.replicate_zero, List.append_nil] at h
        exact h
      go_wp2_with fail
      go_ret
      have HB9 : Below w.heap.size w wr := by rw [HGG.out]; exact HB
      exact ⟨⟨g, rfl, hR9, by rw [HGG.out]; exact Nat.le_refl _⟩, HB9⟩
theorem data_9 (w : World) : Calls Tryz.prog 19 #[.int .u8 9, .int .i64 32] w fun e' w' => (∃ g, e' = .returned (.slice (some ⟨g, 0, none⟩) 32 32) ∧ RowT w' g 5 ((dN 9 32).map byteV) ∧ w.heap.size ≤ g) ∧ Below w.heap.size w w' := data_n 9 32 w (by omega) (by omega)
end Go.Proofs.YtkpcohfdcilfcaaGreat
namespace Go.Proofs.YtkpcohfdcilfcaaGreat
open Go.ChangeShapes Go.WideShapes Go.ChangeAt Go.RowKit
attribute [local go_sem ↓] Go.wp_at_zero Go.wp_at_succ
def fsW (s : ChS) : FlS := (blankS s 8).put 2 ⟨1, dN 9 32⟩
def fs2 (s : ChS) : FlS := { fsW s with epoch := (0 : Nat) + 1, fA := List.replicate 8 (-1), st := (fsW s).st.set 2 true }
def fs3 (s p : ChS) : FlS := { fs2 s with seq := ((0 : Nat) : Int) + 1, ch := p, degr := false, fA := putL 8 4 (List.replicate 8 (-1)) ((2 : Nat) : Int) ((0 : Nat) : Int) ((0 : Nat) : Int) }
def fs4 (s p q : ChS) : FlS := { fs3 s p with seq := ((1 : Nat) : Int) + 1, ch := q, degr := false }
theorem k_k0 {s : ChS} (h : s.K = kA0) : s.k ((0 : Nat) : Int) 0 = ((0 : Nat) : Int) := by unfold ChS.k; rw [h]; kernel_rfl
theorem k_k1 {s : ChS} (h : s.K = kA1) : s.k ((0 : Nat) : Int) 0 = ((1 : Nat) : Int) := by unfold ChS.k; rw [h]; kernel_rfl
theorem step1 {s : ChS} (h : Liv s) (hK : s.K = kA0) : s.progZ 8 4 ((32 : Nat) : Int) [] ((0 : Nat) : Int) ((0 : Nat) : Int) (32 + 16) = 0 ∧ s.progS 8 4 ((32 : Nat) : Int) [] ((0 : Nat) : Int) ((0 : Nat) : Int) rw1 = s.prog 0 0 48 rw1 := prog_eq h (kb := 0) (ub := 0) (N := 0) rw1_len (by decide) (k_k0 hK) (by decide)
theorem step2 {s : ChS} (h : Liv s) (hK : s.K = kA1) : s.progZ 8 4 ((32 : Nat) : Int) [] ((0 : Nat) : Int) ((1 : Nat) : Int) (32 + 16) = 0 ∧ s.progS 8 4 ((32 : Nat) : Int) [] ((0 : Nat) : Int) ((1 : Nat) : Int) rw2 = s.prog 0 1 48 rw2 := prog_eq h (kb := 0) (ub := 1) (N := 1) rw2_len (by decide) (k_k1 hK) (by decide)
theorem wrA {s : ChS} (h : Liv s) (hK : s.K = kA0) (hf : Fine s 1020) : WrOk 8 4 32 0 [] (fs2 s) 2 (fs3 s (s.prog 0 0 48 rw1)) :=
  ⟨⟨0, 0, 0, 1, ⟨1, dN 9 32⟩, 1020, s.prog 0 0 48 rw1, rfl, rfl, rfl, rfl, by omega, k0_open hK, by decide, k0_ask hK, by decide, dN_8 9 32, dN_len 9 32, by omega, hf, by omega, (step1 h hK).1, (step1 h hK).2, k_over _ rfl rfl (Or.inr (Or.inl (prog_K0 hK 0 rw1))), rfl⟩⟩
theorem cmA {s p : ChS} (h : Liv p) (hK : p.K = kA1) (hf : Fine p 1023) : CmOk 8 4 32 0 [] (fs3 s p) 0 1 (fs4 s p (p.prog 0 1 48 rw2)) :=
  ⟨⟨1, 1, 1023, p.prog 0 1 48 rw2, rfl, rfl, by omega, k1_open hK, by decide, k1_ask hK, by decide, by omega, hf, by omega, (step2 h hK).1, (step2 h hK).2, k_over _ rfl rfl (Or.inr (Or.inr (prog_K1 hK 1 rw2))), rfl⟩⟩
theorem flushA (F : FlK) (s : ChS) (hL : Liv s) (hK : s.K = kA0) (hf : Fine s 1020) (h0 : s.cuts = 0) (w : World) (hF : FlW w F 8 4 32 0 2 [] 8 32 (fsW s)) :
    Calls Tryz.prog 20 #[.pointer (some ⟨F.fm, 0, none⟩)] w fun e' w' => e' = .returned (.int .i64 0) ∧ (∃ F' sE, FlW w' F' 8 4 32 0 2 [] 8 32 sE ∧ sE.ch = (s.prog 0 0 48 rw1).prog 0 1 48 rw2 ∧ FlNx w F F') ∧ Tch (FlB F) w w' := by
  have hL1 := prog_liv hL 0 0 48 rw1_8
  have hK1 := prog_K0 hK 0 rw1
  have hf1 := prog_fine hf 0 0 48 rw1
  have hK2 := prog_K1 hK1 1 rw2
  have hf2 := prog_fine hf1 0 1 48 rw2
  refine (flush_ok F 8 4 0 2 [] 8 32 32 (fsW s) (fs3 s (s.prog 0 0 48 rw1)) (fs4 s (s.prog 0 0 48 rw1) ((s.prog 0 0 48 rw1).prog 0 1 48 rw2)) 0 [2] 0 1 1026 w hF hL.on rfl rfl (by kernel_rfl) (by decide) (by decide) (fun p hp => ?_) rfl (by omega) (k0_res hK) ⟨_, wrA hL hK hf, rfl⟩ (cmA hL1 hK1 hf1) (fun k i _ _ hg => ?_) hf2.bnd (by omega) ?_).mono ?_
  · obtain rfl := List.mem_singleton.1 hp
    exact ⟨by omega, by kernel_rfl⟩
  · rw [good_nil] at hg
    cases hg
  · have e1 : (fs4 s (s.prog 0 0 48 rw1) ((s.prog 0 0 48 rw1).prog 0 1 48 rw2)).ch = (s.prog 0 0 48 rw1).prog 0 1 48 rw2 := rfl
    rw [e1, k2_spr hK2, prog_cuts hL1, prog_cuts hL, h0]
    decide
  · rintro e' w' ⟨rfl, ⟨F', hG, hN⟩, hT⟩
    exact ⟨rfl, ⟨F', _, hG, stl_ch 8 4 [2] _, hN⟩, hT⟩
theorem logA : logicalI 8 4 0 = ((8 : Nat) : Int) := by decide
theorem mountA (m gx gb : Nat) (AF : Option Addr) (cf : Nat) (w : World) (hC : ChipW w m gx gb AF 0 cf 8 4 32 0 2 [] (ChS.new 1536 8)) :
    Calls Tryz.prog 23 #[.pointer (some ⟨m, 0, none⟩)] w fun e' w' => (∃ F : FlK, e' = .returned (.tuple #[.pointer (some ⟨F.fm, 0, none⟩), .int .i64 0]) ∧ (∃ n, FlW w' F 8 4 32 0 2 [] 8 32 (blankS ((ChS.new 1536 8).at_ n) 8) ∧ Good ((ChS.new 1536 8).at_ n) 1020) ∧ (F.m = m ∧ F.gx = gx ∧ F.gb = gb ∧ F.Af = AF ∧ F.nf = 0 ∧ F.cf = cf) ∧ (∀ g, FlB F g → chB m gx gb g ∨ w.heap.size ≤ g) ∧ F.dat = []) ∧ Tch (chB m gx gb) w w' := by
  obtain ⟨S1, h1, n, rfl⟩ := walk0 0
  have hfd := vis0
  refine (mount_ok m gx gb AF 0 cf 8 4 32 0 2 [] 8 4 20 _ (ChS.new 1536 8) _ 8 32 (blankS ((ChS.new 1536 8).at_ n) 8) 0 w hC (good_new 1536 8) (by omega) (Liv.new 1536 8).b8 rfl rfl rfl (Lib.hid h1) (Lib.hid (by rw [hfd]; rfl)) (by omega) logA rfl (fun x hx => by rw [hfd] at hx; cases hx) (fun L1 L2 i1 i2 => ?_) (fun x hx => by rw [hfd] at hx; cases hx) rfl (k_over _ rfl rfl (Or.inl rfl)) ?_).mono ?_
  · rw [hfd] at i1 i2 ⊢
    exact learn0 _ L1 L2 i1 i2
  · rw [show (blankS ((ChS.new 1536 8).at_ n) 8).ch = (ChS.new 1536 8).at_ n from rfl, k0_spr rfl, show ((ChS.new 1536 8).at_ n).cuts = 0 from rfl]
    decide
  · rintro e' w' ⟨⟨F, rfl, hG, hE, hO, hD⟩, hT, hg⟩
    refine ⟨⟨F, rfl, ⟨n, hG, hg⟩, hE, hO, ?_⟩, hT⟩
    exact List.eq_nil_iff_forall_not_mem.2 (fun g hg => (hD g hg).1 rfl)
theorem mountB (m gx gb : Nat) (AF : Option Addr) (cf : Nat) (p : ChS) (w : World) (hC : ChipW w m gx gb AF 0 cf 8 4 32 0 2 [] p) (hL : Liv p) (hX : p.X = xP) (hK : p.K = kA2) (hgd : Good p 1100) (h0 : p.cuts = 0) :
    Calls Tryz.prog 23 #[.pointer (some ⟨m, 0, none⟩)] w fun e' w' => (∃ F : FlK, e' = .returned (.tuple #[.pointer (some ⟨F.fm, 0, none⟩), .int .i64 0]) ∧ (∃ n, FlW w' F 8 4 32 0 2 [] 8 32 (slP (p.at_ n)) ∧ Good (p.at_ n) 2100) ∧ (F.m = m ∧ F.gx = gx ∧ F.gb = gb ∧ F.Af = AF ∧ F.nf = 0 ∧ F.cf = cf) ∧ (∀ g, FlB F g → chB m gx gb g ∨ w.heap.size ≤ g) ∧ F.dat = []) ∧ Tch (chB m gx gb) w w' := by
  obtain ⟨S1, h1, n, rfl⟩ := walkP hL hX
  have hfd := visP
  have hK1 : (p.at_ n).K = kA2 := hK
  refine (mount_ok m gx gb AF 0 cf 8 4 32 0 2 [] 8 4 1100 _ p _ 8 32 (slP (p.at_ n)) 2 w hC hgd (by omega) hL.b8 rfl rfl hL.on (Lib.hid h1) (Lib.hid (by rw [hfd]; rfl)) (by omega) logA rfl (fun x hx => by rw [hfd] at hx; exact fdl_ok x hx) (fun L1 L2 i1 i2 => ?_) (fun x hx _ => by rw [hfd] at hx ⊢; exact aloneP _ x hx) rfl (k_over _ rfl rfl (Or.inr (Or.inr hK1))) ?_).mono ?_
  · rw [hfd] at i1 i2 ⊢
    exact learnP _ L1 L2 i1 i2
  · rw [show (slP (p.at_ n)).ch = p.at_ n from rfl, k2_spr hK1, show (p.at_ n).cuts = p.cuts from rfl, h0]
    decide
  · rintro e' w' ⟨⟨F, rfl, hG, hE, hO, hD⟩, hT, hg⟩
    refine ⟨⟨F, rfl, ⟨n, hG, hg⟩, hE, hO, ?_⟩, hT⟩
    exact List.eq_nil_iff_forall_not_mem.2 (fun g hg => (hD g hg).1 rfl)
theorem writeA (F : FlK) (s : ChS) (gD cp : Nat) (w : World) (hF : FlW w F 8 4 32 0 2 [] 8 32 (blankS s 8)) (hon : s.on = true) (hR : RowT w gD 5 ((dN 9 32).map byteV)) :
    Calls Tryz.prog 16 #[.pointer (some ⟨F.fm, 0, none⟩), .int .i64 2, .slice (some ⟨gD, 0, none⟩) 32 cp] w fun e' w' => e' = .returned (.int .i64 0) ∧ (∃ g' c', FlW w' (F.put 2 g' c') 8 4 32 0 2 [] 8 32 (fsW s) ∧ w.heap.size ≤ g') ∧ Tch (FlB F) w w' := by
  have h := write_yes F 8 4 0 2 [] 8 32 (blankS s 8) 2 gD 0 cp (dN 9 32) w (by rw [dN_len]; exact hF) hon rfl (by omega) rfl (Rd.of_sl hR.slr (by rw [List.length_map])) hR.lt
  rw [dN_len] at h
  exact h
theorem readA (F : FlK) (p : ChS) (w : World) (hF : FlW w F 8 4 32 0 2 [] 8 32 (slP p)) (hL : Liv p) (hX : p.X = xP) (n0 : Int) (hs : Fine p n0) (hn0 : n0 ≤ 900000000) :
    Calls Tryz.prog 34 #[.pointer (some ⟨F.fm, 0, none⟩), .int .i64 2] w fun e' w' => (∃ A' c', e' = .returned (.tuple #[.slice A' 32 c', .int .i64 0]) ∧ w'.ownsRow w.heap.size 5 1 (.slice A' 32 c') 32 ((dN 9 32).map byteV)) ∧ FlW w' F 8 4 32 0 2 [] 8 32 { slP p with ch := p.readS 8 4 0 0 } ∧ Tch (FlB F) w w' := by
  have h1 := live_read (a := 8) (b := 4) (c := 32) (NA := 8) (NB := 4) (RW := 48) (i := 0) hL rfl rfl rfl (by omega) (by omega)
  rw [hX, pg0] at h1
  exact read_kept F 8 4 32 0 2 [] 8 32 (slP p) 2 ⟨0, []⟩ n0 w hF hL.on rfl hs hn0 rfl rfl (by kernel_rfl) (by kernel_rfl) 0 0 (by kernel_rfl) (by kernel_rfl) (dN 9 32) 32 1 2 1 1 _ rw1 rw1_8 (by rw [rw1_len]; omega) (Lib.hid ⟨h1.1, h1.2, rfl⟩) (Lib.hid rw1_lk)
end Go.Proofs.YtkpcohfdcilfcaaGreat
namespace Go.Proofs.YtkpcohfdcilfcaaGreat
open Go.ChangeShapes Go.WideShapes Go.ChangeAt Go.RowKit
attribute [local go_sem ↓] Go.wp_at_zero Go.wp_at_succ
theorem good_two {s : ChS} {n : Int} (h : Good s n) (hL : Liv s) (hK : s.K = kA0) : Good ((s.prog 0 0 48 rw1).prog 0 1 48 rw2) (n + 6) := by
  have h1 : (s.prog 0 0 48 rw1).Wt := by
    have := Wt.prog h.wt 8 4 32 [] ((0 : Nat) : Int) ((0 : Nat) : Int) rw1
    have e := (step1 hL hK).2
    rw [show ((32 : Nat) : Int) = 32 from rfl] at e
    rwa [e] at this
  have h2 : ((s.prog 0 0 48 rw1).prog 0 1 48 rw2).Wt := by
    have := Wt.prog h1 8 4 32 [] ((0 : Nat) : Int) ((1 : Nat) : Int) rw2
    have e := (step2 (prog_liv hL 0 0 48 rw1_8) (prog_K0 hK 0 rw1)).2
    rw [show ((32 : Nat) : Int) = 32 from rfl] at e
    rwa [e] at this
  exact ⟨(prog_fine (prog_fine h.fine 0 0 48 rw1) 0 1 48 rw2).mono (by omega), h2⟩
theorem two_X {s : ChS} (hX : s.X = List.replicate 1536 255) : ((s.prog 0 0 48 rw1).prog 0 1 48 rw2).X = xP := by
  rw [(prog_on (s := s.prog 0 0 48 rw1) 0 1 48 rw2).2.2.2.2.2.1, (prog_on (s := s) 0 0 48 rw1).2.2.2.2.2.1, hX]
  rfl
theorem sl_int1 (w : World) (x : Int) {g : Nat} (hg : g = w.heap.size) : Sl (w.alloc (.cells #[.int .i64 x] 3)) (w.alloc (.cells #[.int .i64 x] 3)).heap.size (some ⟨g, 0, none⟩) ([x].map (Value.int .i64)) := by
  subst hg
  refine Or.inr ⟨w.heap.size, 0, rfl, (Blk.new_ w _ _).lt, fun k u hk => ?_⟩
  match k, hk with
  | 0, hk => cases hk; exact (Blk.new_ w _ _).cell_ 0
  | k + 1, hk => simp at hk
theorem lowC {z : Nat} {w1 : World} {m gx gb : Nat} (h : z ≤ w1.heap.size) (h1 : w1.heap.size ≤ m) (h2 : w1.heap.size ≤ gx) (h3 : w1.heap.size ≤ gb) : ∀ g, chB m gx gb g → z ≤ g := by
  rintro g (rfl | rfl | rfl) <;> omega
theorem chip6 {w6 : World} {F F5 F6 : FlK} {sE : FlS} {m gx gb cf : Nat} {AF : Option Addr} {p : ChS} {w5 : World} (hF : FlW w6 F6 8 4 32 0 2 [] 8 32 sE) (hN : FlNx w5 F5 F6) (h5 : F5.m = F.m ∧ F5.gx = F.gx ∧ F5.gb = F.gb ∧ F5.Af = F.Af ∧ F5.nf = F.nf ∧ F5.cf = F.cf) (h : F.m = m ∧ F.gx = gx ∧ F.gb = gb ∧ F.Af = AF ∧ F.nf = 0 ∧ F.cf = cf) (hp : sE.ch = p) : ChipW w6 m gx gb AF 0 cf 8 4 32 0 2 [] p := by
  have hc := hF.chip
  obtain ⟨a1, a2, a3, a4, a5, a6⟩ := h5
  obtain ⟨b1, b2, b3, b4, b5, b6⟩ := h
  rw [hN.m, hN.gx, hN.gb, hN.Af, hN.nf, hN.cf, a1, a2, a3, a4, a5, a6, b1, b2, b3, b4, b5, b6, hp] at hc
  exact hc
theorem at_X (p : ChS) (n : Int) : (p.at_ n).X = p.X := rfl
theorem pgA (p : ChS) : upTo (hasF { slP p with ch := p.readS 8 4 0 0 }) 8 = [2] := by kernel_rfl
theorem onA {p : ChS} (h : Liv p) : (p.readS 8 4 0 0).on = true := (h.read 8 4 0 0).on
theorem cutsA {p : ChS} (h : Liv p) : (p.readS 8 4 0 0).cuts = p.cuts := by
  obtain ⟨n, hn⟩ := readS_at h 8 4 0 0
  rw [hn]
  rfl
theorem readN (F : FlK) (p : ChS) (w : World) (hF : FlW w F 8 4 32 0 2 [] 8 32 { slP p with ch := p.readS 8 4 0 0 }) (hL : Liv p) : Calls Tryz.prog 34 #[.pointer (some ⟨F.fm, 0, none⟩), .int .i64 3] w fun e' w' => e' = .returned (.tuple #[.slice none 0 0, .int .i64 4]) ∧ Below w.heap.size w w' :=
  rdf_none F 8 4 32 0 2 [] 8 32 { slP p with ch := p.readS 8 4 0 0 } 3 w hF (onA hL) (cutsA hL) (by omega) (by kernel_rfl)
theorem logN (F : FlK) (s : FlS) (w : World) (hF : FlW w F 8 4 32 0 2 [] 8 32 s) : Calls Tryz.prog 18 #[.pointer (some ⟨F.fm, 0, none⟩)] w fun e' w' => e' = .returned (.int .i64 8) ∧ w = w' := logical_f F 8 4 32 0 2 [] 8 32 s w hF
@[local go_sem] theorem ptr_chip (m : Nat) (w : World) : (binOp BinOp.eql 27 (.pointer (some ⟨m, 0, none⟩)) (.pointer (some ⟨m, 0, none⟩))).run Tryz.prog w = .ok (.bool true) w := by
  have h : (Tryz.prog.info? 81).isSome = true := by kernel_rfl
  obtain ⟨j, hj⟩ := Option.isSome_iff_exists.1 h
  exact run_eql_ptr_same w ⟨m, 0, none⟩ (te := 81) (by kernel_rfl) hj
theorem awake14 (w : World) : Calls Tryz.prog 12 #[] w fun e' w' => e' = .returned (.bool true) ∧ Below w.heap.size w w' := by
  go_enter Tryz.func12, Tryz.ntmps12
  go_wp2_with (first
    | (go_at_call 45; go_loud (((with_reducible refine (small14 _).mono ?_); rintro e' w1 ⟨rfl, b1⟩; have H1 : Below w.heap.size w w1 := b1)))
    | (go_at_call 28; go_loud (((with_reducible refine (new14 _).mono ?_); rintro e' w2 ⟨⟨m, gx, gb, AF, cf, rfl, hC, hm, hgx, hgb⟩, b2⟩; have H2 := btr H1 H1.size b2; have hlow : ∀ g, chB m gx gb g → w.heap.size ≤ g := lowC H1.size hm hgx hgb)))
    | (go_at_call 23; go_loud (((with_reducible refine (mountA m gx gb AF cf _ hC).mono ?_); rintro e' w3 ⟨⟨F, rfl, ⟨n1, hF, hg1⟩, hE, hO, hD⟩, hT3⟩; have HE := Lib.hid hE; have hL1 : Liv ((ChS.new 1536 8).at_ n1) := (Liv.new 1536 8).at_ n1; clear hE; have H3 := H2.trans (hT3.below H2.size hlow); have hFO : ∀ g, FlB F g → w.heap.size ≤ g := fun g h => (hO g h).elim (hlow g) (Nat.le_trans H2.size))))
    | (go_at_call 19; go_loud (((with_reducible refine (data_9 _).mono ?_); rintro e' w4 ⟨⟨gD, rfl, hRD, hgD⟩, b4⟩; have hF4 := hF.below b4; have H4 := btr H3 H3.size b4)))
    | (go_at_call 16; go_loud (((with_reducible refine (writeA F _ gD 32 _ hF4 rfl hRD).mono ?_); rintro e' w5 ⟨rfl, ⟨g5, c5, hF5, hg5⟩, hT5⟩; (obtain ⟨F5, hF5e⟩ : ∃ G : FlK, G = F.put 2 g5 c5 := ⟨_, rfl⟩); rw [← hF5e] at hF5; have hfm5 : F5.fm = F.fm := (by rw [hF5e]; rfl); have HE5 : Hid (F5.m = F.m ∧ F5.gx = F.gx ∧ F5.gb = F.gb ∧ F5.Af = F.Af ∧ F5.nf = F.nf ∧ F5.cf = F.cf) := Lib.hid (by rw [hF5e]; exact ⟨rfl, rfl, rfl, rfl, rfl, rfl⟩); have H5 := H4.trans (hT5.below H4.size hFO); have hFO5 : ∀ g, FlB F5 g → w.heap.size ≤ g := (by rw [hF5e]; exact hFO); rw [← hfm5]; clear hfm5 hF5e)))
    | (go_at_call 20; go_loud (((with_reducible refine (flushA F5 ((ChS.new 1536 8).at_ n1) hL1 rfl hg1.fine rfl _ hF5).mono ?_); rintro e' w6 ⟨rfl, ⟨F6, sE, hF6, hch, hN⟩, hT6⟩; have hC6 := chip6 hF6 hN HE5.out HE.out hch; have hLp := prog_liv (prog_liv hL1 0 0 48 rw1_8) 0 1 48 rw2_8; have hXp := two_X (s := (ChS.new 1536 8).at_ n1) rfl; have hKp : (((((ChS.new 1536 8).at_ n1).prog 0 0 48 rw1).prog 0 1 48 rw2)).K = kA2 := prog_K1 (prog_K0 rfl 0 rw1) 1 rw2; have hgp := (good_two hg1 hL1 rfl).mono (show (1020 : Int) + 6 ≤ 1100 by omega); have h0p : (((((ChS.new 1536 8).at_ n1).prog 0 0 48 rw1).prog 0 1 48 rw2)).cuts = 0 := (prog_cuts (prog_liv hL1 0 0 48 rw1_8) 0 1 48 rw2).trans (prog_cuts hL1 0 0 48 rw1); (obtain ⟨p, hp⟩ : ∃ p, (((ChS.new 1536 8).at_ n1).prog 0 0 48 rw1).prog 0 1 48 rw2 = p := ⟨_, rfl⟩); rw [hp] at hC6 hLp hXp hKp hgp h0p; have HXp := Lib.hid hXp; have HKp := Lib.hid hKp; have H0p := Lib.hid h0p; clear hp hXp hKp h0p hch; have H6 := H5.trans (hT6.below H5.size hFO5))))
    | (go_at_call 23; go_loud (((with_reducible refine (mountB m gx gb AF cf p _ hC6 hLp HXp.out HKp.out hgp H0p.out).mono ?_); rintro e' w7 ⟨⟨G, rfl, ⟨n2, hG, hg2⟩, hGE, hGO, hGD⟩, hT7⟩; have hL2 : Liv (p.at_ n2) := hLp.at_ n2; have hGm := hGE.1; clear hGE; have H7 := H6.trans (hT7.below H6.size hlow); have hGO2 : ∀ g, FlB G g → w.heap.size ≤ g := fun g h => (hGO g h).elim (hlow g) (Nat.le_trans H6.size))))
    | (go_at_call 34; go_loud (((with_reducible refine (readA G (p.at_ n2) _ hG hL2 ((at_X p n2).trans HXp.out) 2100 hg2.fine (by omega)).mono ?_); rintro e' w8 ⟨⟨A8, c8, rfl, ho8⟩, hG8, hT8⟩; (obtain ⟨A8b, c8b, hv8, hSl8, -, -⟩ := own_sl ho8); cases hv8; have H8 := H7.trans (hT8.below H7.size hGO2))))
    | (go_at_call 34; go_loud (((with_reducible refine (readN G (p.at_ n2) _ hG8 hL2).mono ?_); rintro e' w9 ⟨rfl, b9⟩; have hG9 := hG8.below b9; have hSl9 := hSl8.next b9; have H9 := btr H8 H8.size b9)))
    | (go_at_call 19; go_loud (((with_reducible refine (data_9 _).mono ?_); rintro e' w10 ⟨⟨gD2, rfl, hRD2, hgD2⟩, b10⟩; have hG10 := hG9.below b10; have hSl10 := hSl9.next b10; have hSlD := hRD2.slr; have H10 := btr H9 H9.size b10)))
    | (go_at_call 37; go_loud (((with_reducible refine (sameB_b true (dN 9 32) (dN 9 32) 32 32 (dN_len 9 32) (dN_len 9 32) (by simp) A8 (some ⟨gD2, 0, none⟩) c8 32 _ hSl10 hSlD (by omega) (by omega)).mono ?_); rintro e' w11 ⟨rfl, b11⟩; have hG11 := hG10.below b11; have H11 := btr H10 H10.size b11)))
    | (go_at_call 18; go_loud (((with_reducible refine (logN G _ _ hG11).mono ?_); rintro e' w12 ⟨rfl, rfl⟩; skip)))
    | (go_at_call 41; go_loud (((with_reducible refine (pages_f G 8 4 32 0 2 [] 8 32 _ _ hG11 [2] (pgA (p.at_ n2))).mono ?_); rintro e' w13 ⟨⟨v13, rfl, ho13⟩, b13⟩; (obtain ⟨A13, c13, hv13, hSl13, -, -⟩ := own_sl ho13); subst hv13; have hG13 := hG11.below b13; have H13 := btr H11 H11.size b13)))
    | (go_at_call 42; go_loud (((with_reducible refine (sameI_b true [2] [2] 1 1 rfl rfl (by decide) A13 _ c13 1 _ (hSl13.next ((Below.refl _ _).alloc (Nat.le_refl _) _)) (sl_int1 _ 2 rfl) (by omega) (by omega)).mono ?_); rintro e' w14 ⟨rfl, b14⟩; have hG14 := (hG13.below ((Below.refl _ _).alloc (Nat.le_refl _) _)).below b14; have H14 := btr (H13.alloc H13.size _) (H13.alloc H13.size _).size b14)))
    | (go_at_call 40; go_loud (((with_reducible refine (chipf_f G 8 4 32 0 2 [] 8 32 _ _ hG14).mono ?_); rintro e' w15 ⟨rfl, rfl⟩; rw [hGm]))))
  go_ret
  exact ⟨rfl, H14⟩
end Go.Proofs.YtkpcohfdcilfcaaGreat
namespace Go.Proofs.YtkpcohfdcilfcaaGreat
open Go.ChangeShapes Go.WideShapes Go.ChangeAt Go.RowKit
attribute [local go_sem ↓] Go.wp_at_zero Go.wp_at_succ
theorem logical_nil (w : World) : Calls Tryz.prog 18 #[.pointer none] w fun e' w' => e' = .returned (.int .i64 0) ∧ w = w' := by
  go_enter Tryz.func18, Tryz.ntmps18
  go_wp2
  go_ret
  exact ⟨rfl, rfl⟩
theorem pages_nil (w : World) : Calls Tryz.prog 41 #[.pointer none] w fun e' w' => e' = .returned (.slice none 0 0) ∧ w = w' := by
  go_enter Tryz.func41, Tryz.ntmps41
  go_wp2_with ((go_at_call 18; go_loud (((with_reducible refine (logical_nil _).mono ?_); rintro e' w1 ⟨rfl, rfl⟩; skip))))
  go_loop [3, 7] (fun p i => p = .slice none 0 0 ∧ i = .int .i64 0) (fun _ _ => 0)
  case atStart => exact ⟨rfl, rfl⟩
  case round =>
    obtain ⟨rfl, rfl⟩ := hrel
    go_wp2_with fail
    go_ret
    exact ⟨rfl, rfl⟩
theorem none_walk (x : Int) (w : World) (_ : i64in x) : Calls Tryz.prog 7 #[.int .i64 x] w fun e' w' => e' = .returned (.bool true) ∧ Below w.heap.size w w' := by
  go_enter Tryz.func7, Tryz.ntmps7
  go_wp2_with (first
    | (go_at_call 34; go_loud (((with_reducible refine (rdf_nil _ _).mono ?_); rintro e' w1 ⟨rfl, rfl⟩; skip)))
    | (go_at_call 23; go_loud (((with_reducible refine (mountn_nil _).mono ?_); rintro e' w1 ⟨rfl, rfl⟩; skip)))
    | (go_at_call 16; go_loud (((with_reducible refine (write_nil _ _ _ _ _).mono ?_); rintro e' w1 ⟨rfl, rfl⟩; skip)))
    | (go_at_call 32; go_loud (((with_reducible refine (trim_nil _ _).mono ?_); rintro e' w1 ⟨rfl, rfl⟩; skip)))
    | (go_at_call 20; go_loud (((with_reducible refine (flush_nil _).mono ?_); rintro e' w1 ⟨rfl, rfl⟩; skip)))
    | (go_at_call 25; go_loud (((with_reducible refine (degr_nil _).mono ?_); rintro e' w1 ⟨rfl, rfl⟩; skip)))
    | (go_at_call 40; go_loud (((with_reducible refine (chipf_nil _).mono ?_); rintro e' w1 ⟨rfl, rfl⟩; skip)))
    | (go_at_call 18; go_loud (((with_reducible refine (logical_nil _).mono ?_); rintro e' w1 ⟨rfl, rfl⟩; skip)))
    | (go_at_call 41; go_loud (((with_reducible refine (pages_nil _).mono ?_); rintro e' w1 ⟨rfl, rfl⟩; skip)))
    | (go_at_call 12; go_loud (((with_reducible refine (awake14 _).mono ?_); rintro e' w1 ⟨rfl, b1⟩; skip))))
  go_ret
  exact ⟨rfl, b1⟩
end Go.Proofs.YtkpcohfdcilfcaaGreat
