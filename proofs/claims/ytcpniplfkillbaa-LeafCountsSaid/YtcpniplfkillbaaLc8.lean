/- Chapter 9's both: a chip and chapter 7's own, with pages programmed. -/
import Derived.Test.YtcpniplfkillbaaLc6
import Derived.Test.YtcpniplfkillbaaLc7
import Derived.Test.YtcpniplfkillbaaLc2
import Derived.Test.YtcpniplfkillbaaLc1
import Derived.Deep.Slices
set_option linter.unusedSimpArgs false
set_option linter.unusedVariables false
set_option maxRecDepth 100000
set_option maxHeartbeats 16000000
namespace Go.Proofs.Ytcpniplfkillbaa
open Go.ChangeShapes Go.WideShapes Go.ChangeAt Go.RowKit
attribute [local go_sem ↓] Go.wp_at_zero Go.wp_at_succ
theorem SlF.drew_ {w : World} {A : Option Addr} {fs : List Flt} (h : SlF w w.heap.size A fs) : SlF w.drew w.drew.heap.size A fs := h
theorem two_start {w1 w2 : World} {m gx gb : Nat} {Af : Option Addr} {nf cf mR gB gN gW gD : Nat} {AfR : Option Addr} {nfR cfR : Nat} {a b c d e : Int} {fs : List Flt} {s : ChS} (hC : ChipW w1 m gx gb Af nf cf a b c d e fs s) (hR : RefW w2 mR gB gN gW gD w1.heap.size AfR nfR cfR a b c d e fs s) (hb : Below w1.heap.size w1 w2) : Two w2 w1.heap.size m gx gb Af nf cf mR gB gN gW gD AfR nfR cfR a b c d e fs s s := by
  have hlt := hC.lt
  refine ⟨⟨hC.below hb, fun g hg => ?_, ?_⟩, hR⟩
  · rcases hg with rfl | rfl | rfl
    · exact hlt.1
    · exact hlt.2.1
    · exact hlt.2.2
  · rcases hC.flt with h1 | ⟨g, off, e, hl, _⟩
    · exact Or.inl h1
    · exact Or.inr ⟨g, off, e, hl⟩
theorem two_startE {w1 w2 : World} {m gx gb : Nat} {Af : Option Addr} {nf cf mR gB gN gW gD : Nat} {AfR : Option Addr} {nfR cfR : Nat} {a b c d e : Int} {fs : List Flt} {s : ChS} (hC : ChipW w1 m gx gb Af nf cf a b c d e fs s) (hR : RefW w2 mR gB gN gW gD w1.heap.size AfR nfR cfR a b c d e fs s) (hb : Below w1.heap.size w1 w2) : ∃ L, Two w2 L m gx gb Af nf cf mR gB gN gW gD AfR nfR cfR a b c d e fs s s := ⟨_, two_start hC hR hb⟩
theorem put_cells {e : List Value} (h : Flat [some .i64, some .i64, some .u8, some .i64, some .i64, some .i64, some .i64, some .i64] e) : ∃ (px py : Int) (nn : Nat) (k p s f torn : Int), e = [.int .i64 px, .int .i64 py, .int .u8 (nn : Int), .int .i64 k, .int .i64 p, .int .i64 s, .int .i64 f, .int .i64 torn] ∧ nn < 256 := by
  obtain ⟨x0, r0, rfl, h0, h⟩ := h.int
  obtain ⟨x1, r1, rfl, h1, h⟩ := h.int
  obtain ⟨x2, r2, rfl, h2, h⟩ := h.int
  obtain ⟨x3, r3, rfl, h3, h⟩ := h.int
  obtain ⟨x4, r4, rfl, h4, h⟩ := h.int
  obtain ⟨x5, r5, rfl, h5, h⟩ := h.int
  obtain ⟨x6, r6, rfl, h6, h⟩ := h.int
  obtain ⟨x7, r7, rfl, h7, h⟩ := h.int
  obtain rfl := h.nil
  have e1 : IntKind.u8.min = 0 := rfl
  have e2 : IntKind.u8.max = 255 := rfl
  simp only [Lit.wf, Bool.and_eq_true, decide_eq_true_eq, e1, e2] at h2
  refine ⟨x0, x1, x2.toNat, x3, x4, x5, x6, x7, ?_, by omega⟩
  rw [Int.toNat_of_nonneg h2.1]
theorem two_low {w2 : World} {m gx gb mR gB gN gW gD : Nat} {AfR : Option Addr} {nfR cfR : Nat} {a b c d e : Int} {fs : List Flt} {s : ChS} {K w0s w1s : Nat} (hA : K + 1 ≤ w0s) (hB : K + 1 ≤ w1s) (hm : w0s ≤ m) (hgx : w0s ≤ gx) (hgb : w0s ≤ gb) (hR : RefW w2 mR gB gN gW gD w1s AfR nfR cfR a b c d e fs s) : ∀ g, twB m gx gb mR gB gN gW gD g → K < g := by
  intro g hg
  rcases hg with hg | hg
  · rcases hg with rfl | rfl | rfl <;> omega
  · have := hR.ge g hg
    omega
theorem good_new (NX NB : Nat) : Good (ChS.new NX NB) 20 := by
  have hz : ∀ i, (List.replicate (3 * NB) (0 : Int)).getD i 0 = 0 := by
    intro i
    rw [List.getD_eq_getElem?_getD, List.getElem?_replicate]
    split <;> rfl
  exact ⟨⟨⟨by simp [ChS.new], by simp [ChS.new], by simp [ChS.new], by simp [ChS.new], fun i => by show 0 ≤ (List.replicate (3 * NB) (0 : Int)).getD i 0; rw [hz]; omega, fun i => by show (List.replicate (3 * NB) (0 : Int)).getD i 0 ≤ 20; rw [hz]; omega⟩, by simp [ChS.new], by simp [ChS.new]⟩, ⟨fun h => by simp [ChS.new] at h, fun h => by simp [ChS.new] at h⟩⟩
structure Liv (s : ChS) : Prop where
  on : s.on = true
  ar : s.armed = false
  b8 : Bytes8 s.X
theorem Liv.cut {s : ChS} (h : Liv s) : s.cutB = false := by unfold ChS.cutB; rw [h.ar]; rfl
theorem Liv.tick {s : ChS} (h : Liv s) : Liv s.tick := by
  unfold ChS.tick
  rw [h.cut]
  exact ⟨h.on, h.ar, h.b8⟩
theorem Liv.new (NX NB : Nat) : Liv (ChS.new NX NB) := ⟨rfl, rfl, fun x hx => by
  have := List.eq_of_mem_replicate hx
  omega⟩
theorem putX_8 {X vs : List Nat} {F : Nat} (h : Bytes8 X) (hv : Bytes8 vs) : Bytes8 (putX X F vs) := by
  intro x hx
  unfold putX at hx
  rcases List.mem_append.1 hx with hx | hx
  · rcases List.mem_append.1 hx with hx | hx
    · exact h x (List.mem_of_mem_take hx)
    · exact hv x hx
  · exact h x (List.mem_of_mem_drop hx)
theorem Liv.prog {s : ChS} (h : Liv s) (a b c : Int) (fs : List Flt) (x y : Int) {bs : List Nat} (hb : Bytes8 bs) : Liv (s.progS a b c fs x y bs) := by
  unfold ChS.progS
  split
  · split
    · rw [h.cut]
      have ht := h.tick
      exact ⟨ht.on, ht.ar, putX_8 h.b8 hb⟩
    · exact h.tick
  · exact h
theorem Liv.read {s : ChS} (h : Liv s) (a b x y : Int) : Liv (s.readS a b x y) := by
  unfold ChS.readS
  split
  · exact h.tick
  · exact h
theorem RowT.like_ {w : World} {g : Nat} {t : TypeId} {xs : List Value} (h : RowT w g t xs) : RowT w.drew g t xs := h
theorem tw_progR (L m gx gb : Nat) (Af : Option Addr) (nf cf mR gB gN gW gD : Nat) (AfR : Option Addr) (nfR cfR : Nat) (a b c d e : Int) (fs : List Flt) (x y : Int) (bs : List Nat) (gA cA Q : Nat) (n : Int) (w : World) (s t : ChS) (h : Two w L m gx gb Af nf cf mR gB gN gW gD AfR nfR cfR a b c d e fs s t) (hs : Fine s n) (hn : n ≤ 900000000) (hQ : bs.length = Q) (hR : RowT w gA 5 (bs.map byteV)) (hgn : ¬ chB m gx gb gA) (hcA : Q ≤ cA) (hcA2 : cA ≤ maxLen) (Z : Int) (S : ChS) (hZ : Hid (s.progZ a b c fs x y Q = Z ∧ s.progS a b c fs x y bs = S)) :
    Calls Try.prog 30 #[.pointer (some ⟨m, 0, none⟩), .agg #[.int .i64 x, .int .i64 y], .slice (some ⟨gA, 0, none⟩) Q cA] w fun e' w' => e' = .returned (.int .i64 Z) ∧ Two w' L m gx gb Af nf cf mR gB gN gW gD AfR nfR cfR a b c d e fs S t ∧ Tch (chB m gx gb) w w' := by
  obtain ⟨rfl, rfl⟩ := hZ.out
  subst hQ
  refine (prog_allC m gx gb Af nf cf a b c d e fs x y bs gA cA n w s h.cl.chip hs hn ?_ hR.lt hcA hcA2 hgn).mono ?_
  · intro j u hj
    rw [Nat.zero_add]
    exact hR.cell_ hj
  · rintro e' w' ⟨rfl, hC, hT⟩
    exact ⟨rfl, h.chip hC hT, hT⟩
theorem both_any (a b c d e : Int) (A1 : Option Addr) (c1 : Nat) (fs : List Flt) (A : Option Addr) (len cap : Nat) (es : List (List Value)) (w : World) (hq1 : fs.length ≤ c1) (hq2 : c1 ≤ maxLen) (hsf : SlF w w.heap.size A1 fs) (hf20 : fs.length ≤ 20) (hlen : es.length = len) (hl60 : len ≤ 60) (hsl : SlE 8 w w.heap.size A es) (hfl : ∀ x ∈ es, Flat [some .i64, some .i64, some .u8, some .i64, some .i64, some .i64, some .i64, some .i64] x) :
    Calls Try.prog 7 #[.agg #[.int .i64 a, .int .i64 b, .int .i64 c, .int .i64 d, .int .i64 e], .slice A1 fs.length c1, .slice A len cap] w fun e' w' => ((e' = .returned (.tuple #[.pointer none, .pointer none, .bool true]) ∧ planMay a b c d e fs = false) ∨ (∃ (L m gx gb : Nat) (AF : Option Addr) (cf mR gB gN gW gD : Nat) (AF2 : Option Addr) (cf2 : Nat) (S : ChS), e' = .returned (.tuple #[.pointer (some ⟨m, 0, none⟩), .pointer (some ⟨mR, 0, none⟩), .bool true]) ∧ Two w' L m gx gb AF fs.length cf mR gB gN gW gD AF2 fs.length cf2 a b c d e fs S S ∧ Good S (20 + 3 * (len : Int)) ∧ Liv S ∧ (∀ g, twB m gx gb mR gB gN gW gD g → w.heap.size < g))) ∧ Below w.heap.size w w' := by
  have HLen := Lib.hid hlen
  have HC0 := Lib.hid hq1
  have HC1 := Lib.hid hq2
  clear hq1 hq2 hlen
  have HB0 : Below w.heap.size w (w.alloc (.cells #[.int .i64 a, .int .i64 b, .int .i64 c, .int .i64 d, .int .i64 e] 23)) := (Below.refl _ _).alloc (Nat.le_refl _) _
  have G1 : Blk (w.alloc (.cells #[.int .i64 a, .int .i64 b, .int .i64 c, .int .i64 d, .int .i64 e] 23)) w.heap.size 23 #[.int .i64 a, .int .i64 b, .int .i64 c, .int .i64 d, .int .i64 e] := Blk.new_ _ _ _
  have HY := cells5 G1
  have HSF := hsf.next HB0
  clear hsf
  rcases (by cases hq : planMay a b c d e fs <;> simp : planMay a b c d e fs = false ∨ planMay a b c d e fs = true) with hpm | hpm
  · have HP := Lib.hid hpm
    clear hpm
    go_enter Try.func7, Try.ntmps7
    go_upto_region 1 with fail
    refine wp_region_noPanic ?_
    refine wp_region_held_drew (S := (fun w' => w'.cell? ⟨w.heap.size, 0, none⟩ = some (.int .i64 a) ∧ w'.cell? ⟨w.heap.size, 1, none⟩ = some (.int .i64 b) ∧ w'.cell? ⟨w.heap.size, 2, none⟩ = some (.int .i64 c) ∧ w'.cell? ⟨w.heap.size, 3, none⟩ = some (.int .i64 d) ∧ w'.cell? ⟨w.heap.size, 4, none⟩ = some (.int .i64 e))) (by kernel_rfl) ?_ (fun hHeld => ?_)
    · (first | exact HY | assumption)
    refine wpAnyH_take (i := 0) (oi := ⟨some 13, .load 23 (.tmp 3), 23, "law.go:67", #[], none⟩) (v := ?_) rfl (by kernel_rfl) (by kernel_rfl) (by kernel_rfl) (fun _ _ _ h => h) (Or.inl ⟨by rfl, ?_⟩) (by assumption) ?_; rotate_left; (· (intro wS hSw; (try dsimp only at hSw); go_simp; (try with_reducible rfl))); try simp only [Act.put, pz1, pz2, pz3]
    refine wpAnyH_take (i := 1) (oi := ⟨some 14, .move (.tmp 1), 24, "law.go:67", #[], none⟩) (v := ?_) rfl (by kernel_rfl) (by kernel_rfl) (by kernel_rfl) (fun _ _ _ h => h) (Or.inl ⟨by rfl, ?_⟩) (by assumption) ?_; rotate_left; (· (intro wS hSw; (try dsimp only at hSw); go_simp; (try with_reducible rfl))); try simp only [Act.put, pz1, pz2, pz3]
    refine wpAnyH_take (i := 3) (oi := ⟨some 16, .load 23 (.tmp 3), 23, "law.go:67", #[], none⟩) (v := ?_) rfl (by kernel_rfl) (by kernel_rfl) (by kernel_rfl) (fun _ _ _ h => h) (Or.inl ⟨by rfl, ?_⟩) (by assumption) ?_; rotate_left; (· (intro wS hSw; (try dsimp only at hSw); go_simp; (try with_reducible rfl))); try simp only [Act.put, pz1, pz2, pz3]
    refine wpAnyH_take (i := 4) (oi := ⟨some 17, .move (.tmp 1), 24, "law.go:67", #[], none⟩) (v := ?_) rfl (by kernel_rfl) (by kernel_rfl) (by kernel_rfl) (fun _ _ _ h => h) (Or.inl ⟨by rfl, ?_⟩) (by assumption) ?_; rotate_left; (· (intro wS hSw; (try dsimp only at hSw); go_simp; (try with_reducible rfl))); try simp only [Act.put, pz1, pz2, pz3]
    refine wpAnyH_ready (rs := [2]) (by kernel_rfl) (by simp) ?_
    refine AllReadyH.cons (o := ⟨some 15, .call { callee := .value (.func 26), args := #[.tmp 13, .tmp 14], argTypes := #[23, 24] }, 29, "law.go:67", #[⟨0, .data⟩, ⟨1, .data⟩], none⟩) rfl (fun K hK => ?_) AllReadyH.nil
    go_simp
    (first | (go_at_call 26; go_loud (((with_reducible refine (newF_no _ _ _ _ _ fs _ _ _ (by first | exact HSF | exact SlF.drew_ HSF) HC0.out HC1.out HP).mono ?_); rintro e' wN ⟨rfl, hb⟩; (try have hb := undrew hb); replace HB0 := btr HB0 HB0.size hb; replace HSF := HSF.next hb; replace G1 := G1.below hb G1.lt; (try clear HY); have HY := cells5 G1))) | (go_at_call 31; go_loud (((with_reducible refine (rnew_no _ _ _ _ _ fs _ _ _ (by first | exact HSF | exact SlF.drew_ HSF) HP).mono ?_); rintro e' wN ⟨rfl, hb⟩; (try have hb := undrew hb); replace HB0 := btr HB0 HB0.size hb; replace HSF := HSF.next hb; replace G1 := G1.below hb G1.lt; (try clear HY); have HY := cells5 G1))))
    go_wp2_with fail
    refine hK.out _ _ ?_ (fun hNew => ?_)
    · (first | exact HY | assumption)
    clear hK K hHeld
    have hHeld := hNew
    clear hNew
    try simp only [Act.put, pz1, pz2, pz3]
    refine wpAnyH_ready (rs := [5]) (by kernel_rfl) (by simp) ?_
    refine AllReadyH.cons (o := ⟨some 18, .call { callee := .value (.func 31), args := #[.tmp 16, .tmp 17], argTypes := #[23, 24] }, 30, "law.go:67", #[⟨3, .data⟩, ⟨4, .data⟩, ⟨2, .chain⟩], none⟩) rfl (fun K hK => ?_) AllReadyH.nil
    go_simp
    (first | (go_at_call 26; go_loud (((with_reducible refine (newF_no _ _ _ _ _ fs _ _ _ (by first | exact HSF | exact SlF.drew_ HSF) HC0.out HC1.out HP).mono ?_); rintro e' wN ⟨rfl, hb⟩; (try have hb := undrew hb); replace HB0 := btr HB0 HB0.size hb; replace HSF := HSF.next hb; replace G1 := G1.below hb G1.lt; (try clear HY); have HY := cells5 G1))) | (go_at_call 31; go_loud (((with_reducible refine (rnew_no _ _ _ _ _ fs _ _ _ (by first | exact HSF | exact SlF.drew_ HSF) HP).mono ?_); rintro e' wN ⟨rfl, hb⟩; (try have hb := undrew hb); replace HB0 := btr HB0 HB0.size hb; replace HSF := HSF.next hb; replace G1 := G1.below hb G1.lt; (try clear HY); have HY := cells5 G1))))
    go_wp2_with fail
    refine hK.out _ _ ?_ (fun hNew => ?_)
    · (first | exact HY | assumption)
    clear hK K hHeld
    have hHeld := hNew
    clear hNew
    try simp only [Act.put, pz1, pz2, pz3]
    refine wpAnyH_take (i := 6) (oi := ⟨some 9, .assign (.tmp 15), 29, "law.go:67", #[⟨2, .data⟩, ⟨5, .chain⟩, ⟨0, .phase⟩, ⟨1, .phase⟩, ⟨2, .phase⟩, { on := 3, ground := Ground.textOnly Departure.lateStores }, { on := 4, ground := Ground.textOnly Departure.lateStores }, { on := 5, ground := Ground.textOnly Departure.lateStoresUnsure }], none⟩) (v := ?_) rfl (by kernel_rfl) (by kernel_rfl) (by kernel_rfl) (fun _ _ _ h => h) (Or.inl ⟨by rfl, ?_⟩) (by assumption) ?_; rotate_left; (· (intro wS hSw; (try dsimp only at hSw); go_simp; (try with_reducible rfl))); try simp only [Act.put, pz1, pz2, pz3]
    refine wpAnyH_take (i := 7) (oi := ⟨some 10, .assign (.tmp 18), 30, "law.go:67", #[⟨5, .data⟩, ⟨6, .chain⟩, ⟨0, .phase⟩, ⟨1, .phase⟩, ⟨2, .phase⟩, ⟨3, .phase⟩, ⟨4, .phase⟩, ⟨5, .phase⟩, ⟨6, .phase⟩], none⟩) (v := ?_) rfl (by kernel_rfl) (by kernel_rfl) (by kernel_rfl) (fun _ _ _ h => h) (Or.inl ⟨by rfl, ?_⟩) (by assumption) ?_; rotate_left; (· (intro wS hSw; (try dsimp only at hSw); go_simp; (try with_reducible rfl))); try simp only [Act.put, pz1, pz2, pz3]
    refine wpAnyH_done (by kernel_rfl) ?_ _
    refine NoPanic.normal ?_
    go_wp2_with fail
    refine bodyPost_ret (v := .tuple #[.pointer none, .pointer none, .bool true]) (by simp [results, Try.results7, go_sem]) rfl ⟨Or.inl ⟨rfl, HP.out⟩, (by first | exact HB0 | exact HB0.drew)⟩
  have HP := Lib.hid hpm
  obtain ⟨q1, q2, q3, q4, q5, q6, -⟩ := may_bd (planMay_bd hpm).1
  obtain ⟨p1, p2⟩ := mul_bd (x := a) (y := b) (lo := 8) (hi := 20) (l2 := 4) (h2 := 8) q1 q2 q3 q4 (by omega) (by omega)
  obtain ⟨p3, p4⟩ := mul_bd (x := a * b) (y := c + 16) (lo := 32) (hi := 160) (l2 := 40) (h2 := 80) (by omega) (by omega) (by omega) (by omega) (by omega) (by omega)
  obtain ⟨NX, hNX⟩ : ∃ NX : Nat, (NX : Int) = a * b * (c + 16) := ⟨(a * b * (c + 16)).toNat, by omega⟩
  obtain ⟨NB, hNB⟩ : ∃ NB : Nat, (NB : Int) = a := ⟨a.toNat, by omega⟩
  obtain ⟨RW, hRW⟩ : ∃ RW : Nat, (RW : Int) = c + 16 := ⟨(c + 16).toNat, by omega⟩
  obtain ⟨C, hCC⟩ : ∃ C : Nat, (C : Int) = c := ⟨c.toNat, by omega⟩
  have hc24 : 24 ≤ C := by omega
  have hc64 : C ≤ 64 := by omega
  obtain ⟨Q, hQ⟩ : ∃ Q, C + 16 = Q := ⟨_, rfl⟩
  have HQ := Lib.hid hQ
  have HCC := Lib.hid hCC
  have hNXn : NX = (a * b * (c + 16)).toNat := by omega
  have nx1 : 1 ≤ NX := by omega
  have nx2 : NX ≤ 100000 := by omega
  have nb1 : NB ≤ 1000 := by omega
  have HNX := Lib.hid hNX
  have HNXn := Lib.hid hNXn
  have HNB := Lib.hid hNB
  have HRW := Lib.hid hRW
  clear hNX hNXn hNB hRW p1 p2 p3 p4 hpm q5 q6 hCC hQ
  go_enter Try.func7, Try.ntmps7
  go_upto_region 1 with fail
  refine wp_region_noPanic ?_
  refine wp_region_held_drew (S := (fun w' => w'.cell? ⟨w.heap.size, 0, none⟩ = some (.int .i64 a) ∧ w'.cell? ⟨w.heap.size, 1, none⟩ = some (.int .i64 b) ∧ w'.cell? ⟨w.heap.size, 2, none⟩ = some (.int .i64 c) ∧ w'.cell? ⟨w.heap.size, 3, none⟩ = some (.int .i64 d) ∧ w'.cell? ⟨w.heap.size, 4, none⟩ = some (.int .i64 e))) (by kernel_rfl) ?_ (fun hHeld => ?_)
  · (first | exact HY | assumption)
  refine wpAnyH_take (i := 0) (oi := ⟨some 13, .load 23 (.tmp 3), 23, "law.go:67", #[], none⟩) (v := ?_) rfl (by kernel_rfl) (by kernel_rfl) (by kernel_rfl) (fun _ _ _ h => h) (Or.inl ⟨by rfl, ?_⟩) (by assumption) ?_; rotate_left; (· (intro wS hSw; (try dsimp only at hSw); go_simp; (try with_reducible rfl))); try simp only [Act.put, pz1, pz2, pz3]
  refine wpAnyH_take (i := 1) (oi := ⟨some 14, .move (.tmp 1), 24, "law.go:67", #[], none⟩) (v := ?_) rfl (by kernel_rfl) (by kernel_rfl) (by kernel_rfl) (fun _ _ _ h => h) (Or.inl ⟨by rfl, ?_⟩) (by assumption) ?_; rotate_left; (· (intro wS hSw; (try dsimp only at hSw); go_simp; (try with_reducible rfl))); try simp only [Act.put, pz1, pz2, pz3]
  refine wpAnyH_take (i := 3) (oi := ⟨some 16, .load 23 (.tmp 3), 23, "law.go:67", #[], none⟩) (v := ?_) rfl (by kernel_rfl) (by kernel_rfl) (by kernel_rfl) (fun _ _ _ h => h) (Or.inl ⟨by rfl, ?_⟩) (by assumption) ?_; rotate_left; (· (intro wS hSw; (try dsimp only at hSw); go_simp; (try with_reducible rfl))); try simp only [Act.put, pz1, pz2, pz3]
  refine wpAnyH_take (i := 4) (oi := ⟨some 17, .move (.tmp 1), 24, "law.go:67", #[], none⟩) (v := ?_) rfl (by kernel_rfl) (by kernel_rfl) (by kernel_rfl) (fun _ _ _ h => h) (Or.inl ⟨by rfl, ?_⟩) (by assumption) ?_; rotate_left; (· (intro wS hSw; (try dsimp only at hSw); go_simp; (try with_reducible rfl))); try simp only [Act.put, pz1, pz2, pz3]
  refine wpAnyH_ready (rs := [2]) (by kernel_rfl) (by simp) ?_
  refine AllReadyH.cons (o := ⟨some 15, .call { callee := .value (.func 26), args := #[.tmp 13, .tmp 14], argTypes := #[23, 24] }, 29, "law.go:67", #[⟨0, .data⟩, ⟨1, .data⟩], none⟩) rfl (fun K hK => ?_) AllReadyH.nil
  go_simp
  (go_at_call 26; go_loud (((with_reducible refine (newF_yes _ _ _ _ _ fs _ _ NX NB _ (by first | exact HSF | exact SlF.drew_ HSF) HC0.out HC1.out (by omega) HP HNX.out HNB.out (by omega) (by omega) (by omega)).mono ?_); rintro e' wN ⟨⟨m, gx, gb, AF, cf, rfl, hC, hm, hgx, hgb⟩, hb⟩; have hszA := Nat.succ_le_of_lt G1.lt; (try have hb := undrew hb); replace HB0 := btr HB0 HB0.size hb; replace HSF := HSF.next hb; replace G1 := G1.below hb G1.lt; (try clear HY); have HY := cells5 G1)))
  go_wp2_with fail
  refine hK.out _ _ ?_ (fun hNew => ?_)
  · (first | exact HY | assumption)
  clear hK K hHeld
  have hHeld := hNew
  clear hNew
  try simp only [Act.put, pz1, pz2, pz3]
  refine wpAnyH_ready (rs := [5]) (by kernel_rfl) (by simp) ?_
  refine AllReadyH.cons (o := ⟨some 18, .call { callee := .value (.func 31), args := #[.tmp 16, .tmp 17], argTypes := #[23, 24] }, 30, "law.go:67", #[⟨3, .data⟩, ⟨4, .data⟩, ⟨2, .chain⟩], none⟩) rfl (fun K hK => ?_) AllReadyH.nil
  go_simp
  (go_at_call 31; go_loud (((with_reducible refine (rnew_yes _ _ _ _ _ fs _ _ _ (by first | exact HSF | exact SlF.drew_ HSF) NB NX RW HNB.out HNXn.out HRW (by omega) HP).mono ?_); rintro e' wN ⟨mR, gB, gN, gW, gD, AF2, cf2, rfl, hR, hb⟩; (try have hb := undrew hb); have hszB := Nat.succ_le_of_lt G1.lt; obtain ⟨L, h⟩ := two_startE hC hR hb; have hLo := two_low (K := w.heap.size) hszA hszB hm hgx hgb hR; (try have hb := undrew hb); replace HB0 := btr HB0 HB0.size hb; replace HSF := HSF.next hb; replace G1 := G1.below hb G1.lt; (try clear HY); have HY := cells5 G1)))
  go_wp2_with fail
  refine hK.out _ _ ?_ (fun hNew => ?_)
  · (first | exact HY | assumption)
  clear hK K hHeld
  have hHeld := hNew
  clear hNew
  try simp only [Act.put, pz1, pz2, pz3]
  refine wpAnyH_take (i := 6) (oi := ⟨some 9, .assign (.tmp 15), 29, "law.go:67", #[⟨2, .data⟩, ⟨5, .chain⟩, ⟨0, .phase⟩, ⟨1, .phase⟩, ⟨2, .phase⟩, { on := 3, ground := Ground.textOnly Departure.lateStores }, { on := 4, ground := Ground.textOnly Departure.lateStores }, { on := 5, ground := Ground.textOnly Departure.lateStoresUnsure }], none⟩) (v := ?_) rfl (by kernel_rfl) (by kernel_rfl) (by kernel_rfl) (fun _ _ _ h => h) (Or.inl ⟨by rfl, ?_⟩) (by assumption) ?_; rotate_left; (· (intro wS hSw; (try dsimp only at hSw); go_simp; (try with_reducible rfl))); try simp only [Act.put, pz1, pz2, pz3]
  refine wpAnyH_take (i := 7) (oi := ⟨some 10, .assign (.tmp 18), 30, "law.go:67", #[⟨5, .data⟩, ⟨6, .chain⟩, ⟨0, .phase⟩, ⟨1, .phase⟩, ⟨2, .phase⟩, ⟨3, .phase⟩, ⟨4, .phase⟩, ⟨5, .phase⟩, ⟨6, .phase⟩], none⟩) (v := ?_) rfl (by kernel_rfl) (by kernel_rfl) (by kernel_rfl) (fun _ _ _ h => h) (Or.inl ⟨by rfl, ?_⟩) (by assumption) ?_; rotate_left; (· (intro wS hSw; (try dsimp only at hSw); go_simp; (try with_reducible rfl))); try simp only [Act.put, pz1, pz2, pz3]
  refine wpAnyH_done (by kernel_rfl) ?_ _
  refine NoPanic.normal ?_
  clear hHeld
  obtain ⟨wm, hwm⟩ : ∃ V : World, V = wN := ⟨_, rfl⟩
  rw [← hwm] at h HB0 G1 HY ⊢
  clear hwm hb hm hgx hgb hszA hszB hC hR HSF
  have hnb : ¬ (twB m gx gb mR gB gN gW gD) w.heap.size := fun e => by have := hLo _ e; omega
  have HT : Tch (twB m gx gb mR gB gN gW gD) wm wm := Tch.refl _
  have HK0 : Hid (Good (ChS.new NX NB) 20) := Lib.hid (good_new NX NB)
  go_wp2_with fail
  go_loopw [11] (fun s11 wr => ∃ (i : Nat) (S : ChS), i ≤ len ∧ s11 = .int .i64 (i : Int) ∧ Two wr L m gx gb AF fs.length cf mR gB gN gW gD AF2 fs.length cf2 a b c d e fs S S ∧ Hid (Good S (20 + 3 * (i : Int)) ∧ Liv S) ∧ Tch (twB m gx gb mR gB gN gW gD) wm wr) (fun s11 _ => len - (iV s11).toNat)
  case atStart => exact ⟨0, _, Nat.zero_le _, rfl, (by first | exact h | exact h.drew), Lib.hid ⟨HK0.out.mono (by omega), Liv.new NX NB⟩, (by first | exact HT | exact HT.like)⟩
  case round =>
    clear h HK0 HT HY
    obtain ⟨i, S, hi, rfl, h, HK, HT⟩ := hrel
    have GR := HT.blk G1 hnb
    have HY := cells5 GR
    by_cases hlt : i < len
    · have i1 : (i : Int) < (len : Int) := by omega
      have i0 : (0 : Int) ≤ (i : Int) := by omega
      obtain ⟨g, off, rfl, hgl, hcl⟩ := hsl.at_ (by have := HLen.out; omega)
      have hget : es[i]? = some (es[i]'(by have := HLen.out; omega)) := List.getElem?_eq_getElem _
      obtain ⟨px, py, nn, k, p, s, f, torn, he, hnn⟩ := put_cells (hfl _ (List.getElem_mem (h := by have := HLen.out; omega)) : Flat _ (es[i]'(by have := HLen.out; omega)))
      have hc8 := hcl i _ hget
      rw [he] at hc8
      have hw0 : w.cell? ⟨g, off + i * 8, none⟩ = some (.int .i64 px) := hc8 0 _ rfl
      have hw1 : w.cell? ⟨g, off + i * 8 + 1, none⟩ = some (.int .i64 py) := hc8 1 _ rfl
      have hw2 : w.cell? ⟨g, off + i * 8 + 2, none⟩ = some (.int .u8 (nn : Int)) := hc8 2 _ rfl
      have hw3 : w.cell? ⟨g, off + i * 8 + 3, none⟩ = some (.int .i64 k) := hc8 3 _ rfl
      have hw4 : w.cell? ⟨g, off + i * 8 + 4, none⟩ = some (.int .i64 p) := hc8 4 _ rfl
      have hw5 : w.cell? ⟨g, off + i * 8 + 5, none⟩ = some (.int .i64 s) := hc8 5 _ rfl
      have hw6 : w.cell? ⟨g, off + i * 8 + 6, none⟩ = some (.int .i64 f) := hc8 6 _ rfl
      have hw7 : w.cell? ⟨g, off + i * 8 + 7, none⟩ = some (.int .i64 torn) := hc8 7 _ rfl
      have c0 := (World.cell?_of_block (w := w) ((HT.far g (by have := HB0.size; omega) (fun e => by have := hLo g e; omega)).trans (HB0.block g hgl))).trans hw0
      have c1 := (World.cell?_of_block (w := w) ((HT.far g (by have := HB0.size; omega) (fun e => by have := hLo g e; omega)).trans (HB0.block g hgl))).trans hw1
      have c2 := (World.cell?_of_block (w := w) ((HT.far g (by have := HB0.size; omega) (fun e => by have := hLo g e; omega)).trans (HB0.block g hgl))).trans hw2
      have c3 := (World.cell?_of_block (w := w) ((HT.far g (by have := HB0.size; omega) (fun e => by have := hLo g e; omega)).trans (HB0.block g hgl))).trans hw3
      have c4 := (World.cell?_of_block (w := w) ((HT.far g (by have := HB0.size; omega) (fun e => by have := hLo g e; omega)).trans (HB0.block g hgl))).trans hw4
      have c5 := (World.cell?_of_block (w := w) ((HT.far g (by have := HB0.size; omega) (fun e => by have := hLo g e; omega)).trans (HB0.block g hgl))).trans hw5
      have c6 := (World.cell?_of_block (w := w) ((HT.far g (by have := HB0.size; omega) (fun e => by have := hLo g e; omega)).trans (HB0.block g hgl))).trans hw6
      have c7 := (World.cell?_of_block (w := w) ((HT.far g (by have := HB0.size; omega) (fun e => by have := hLo g e; omega)).trans (HB0.block g hgl))).trans hw7
      have hltw := h.lt
      clear hcl hc8 hget he
      go_upto_region 7 with fail
      refine wp_region_noPanic ?_
      refine wp_region_held_drew (S := (fun w' => (w'.cell? ⟨w.heap.size, 0, none⟩ = some (.int .i64 a) ∧ w'.cell? ⟨w.heap.size, 1, none⟩ = some (.int .i64 b) ∧ w'.cell? ⟨w.heap.size, 2, none⟩ = some (.int .i64 c) ∧ w'.cell? ⟨w.heap.size, 3, none⟩ = some (.int .i64 d) ∧ w'.cell? ⟨w.heap.size, 4, none⟩ = some (.int .i64 e)) ∧ w'.cell? ⟨g, off + i * 8, none⟩ = some (.int .i64 px) ∧ w'.cell? ⟨g, off + i * 8 + 1, none⟩ = some (.int .i64 py) ∧ w'.cell? ⟨g, off + i * 8 + 2, none⟩ = some (.int .u8 (nn : Int)) ∧ w'.cell? ⟨g, off + i * 8 + 3, none⟩ = some (.int .i64 k) ∧ w'.cell? ⟨g, off + i * 8 + 4, none⟩ = some (.int .i64 p) ∧ w'.cell? ⟨g, off + i * 8 + 5, none⟩ = some (.int .i64 s) ∧ w'.cell? ⟨g, off + i * 8 + 6, none⟩ = some (.int .i64 f) ∧ w'.cell? ⟨g, off + i * 8 + 7, none⟩ = some (.int .i64 torn))) (by kernel_rfl) ?_ (fun hHeld => ?_)
      · (first | exact ⟨HY, c0, c1, c2, c3, c4, c5, c6, c7⟩ | exact ⟨HYN, d0, d1, d2, d3, d4, d5, d6, d7⟩ | assumption)
      refine wpAnyH_take (i := 0) (oi := ⟨some 36, .load 23 (.tmp 3), 23, "law.go:72", #[], none⟩) (v := ?_) rfl (by kernel_rfl) (by kernel_rfl) (by kernel_rfl) (fun _ _ _ h => h) (Or.inl ⟨by rfl, ?_⟩) (by assumption) ?_; rotate_left; (· (intro wS hSw; (try dsimp only at hSw); go_simp; (try with_reducible rfl))); try simp only [Act.put, pz1, pz2, pz3]
      refine wpAnyH_take (i := 1) (oi := ⟨some 37, .move (.tmp 2), 25, "law.go:72", #[], none⟩) (v := ?_) rfl (by kernel_rfl) (by kernel_rfl) (by kernel_rfl) (fun _ _ _ h => h) (Or.inl ⟨by rfl, ?_⟩) (by assumption) ?_; rotate_left; (· (intro wS hSw; (try dsimp only at hSw); go_simp; (try with_reducible rfl))); try simp only [Act.put, pz1, pz2, pz3]
      refine wpAnyH_take (i := 2) (oi := ⟨some 38, .move (.tmp 11), 3, "law.go:72", #[], none⟩) (v := ?_) rfl (by kernel_rfl) (by kernel_rfl) (by kernel_rfl) (fun _ _ _ h => h) (Or.inl ⟨by rfl, ?_⟩) (by assumption) ?_; rotate_left; (· (intro wS hSw; (try dsimp only at hSw); go_simp; (try with_reducible rfl))); try simp only [Act.put, pz1, pz2, pz3]
      refine wpAnyH_take (i := 3) (oi := ⟨some 39, .indexAddr 25 (.tmp 37) (.tmp 38), 0, "law.go:72", #[⟨1, .data⟩, ⟨2, .data⟩], none⟩) (v := ?_) rfl (by kernel_rfl) (by kernel_rfl) (by kernel_rfl) (fun _ _ _ h => h) (Or.inl ⟨by rfl, ?_⟩) (by assumption) ?_; rotate_left; (· (intro wS hSw; (try dsimp only at hSw); go_simp; (try with_reducible rfl))); try simp only [Act.put, pz1, pz2, pz3]
      refine wpAnyH_take (i := 4) (oi := ⟨some 40, .load 80 (.tmp 39), 80, "law.go:72", #[⟨3, .data⟩], none⟩) (v := ?_) rfl (by kernel_rfl) (by kernel_rfl) (by kernel_rfl) (fun _ _ _ h => h) (Or.inl ⟨by rfl, ?_⟩) (by assumption) ?_; rotate_left; (· (intro wS hSw; (try dsimp only at hSw); go_simp; (try with_reducible rfl))); try simp only [Act.put, pz1, pz2, pz3]
      refine wpAnyH_ready (rs := [5]) (by kernel_rfl) (by simp) ?_
      refine AllReadyH.cons (o := ⟨some 41, .call { callee := .value (.func 32), args := #[.tmp 36, .tmp 40], argTypes := #[23, 80] }, 38, "law.go:72", #[⟨0, .data⟩, ⟨4, .data⟩], none⟩) rfl (fun K hK => ?_) AllReadyH.nil
      go_simp
      (go_at_call 32; go_loud (((with_reducible refine (raw_any a b c d e px py k p s f torn nn C Q _ HCC.out hc24 hc64 hnn HQ.out).mono ?_); rintro e' wN ⟨⟨bs, gA, cA, rfl, hbl, hb8, hrA, hgA, hcA, hcA2⟩, hb⟩; (try have hb := undrew hb); have hgA2 : wr.heap.size ≤ gA := hgA; replace h := h.below hb; replace HT := HT.then hb; replace GR := GR.below hb GR.lt; have HYN := cells5 GR; have d0 := (World.cell?_of_block (w := w) ((HT.far g (by have := HB0.size; omega) (fun e => by have := hLo g e; omega)).trans (HB0.block g hgl))).trans hw0; have d1 := (World.cell?_of_block (w := w) ((HT.far g (by have := HB0.size; omega) (fun e => by have := hLo g e; omega)).trans (HB0.block g hgl))).trans hw1; have d2 := (World.cell?_of_block (w := w) ((HT.far g (by have := HB0.size; omega) (fun e => by have := hLo g e; omega)).trans (HB0.block g hgl))).trans hw2; have d3 := (World.cell?_of_block (w := w) ((HT.far g (by have := HB0.size; omega) (fun e => by have := hLo g e; omega)).trans (HB0.block g hgl))).trans hw3; have d4 := (World.cell?_of_block (w := w) ((HT.far g (by have := HB0.size; omega) (fun e => by have := hLo g e; omega)).trans (HB0.block g hgl))).trans hw4; have d5 := (World.cell?_of_block (w := w) ((HT.far g (by have := HB0.size; omega) (fun e => by have := hLo g e; omega)).trans (HB0.block g hgl))).trans hw5; have d6 := (World.cell?_of_block (w := w) ((HT.far g (by have := HB0.size; omega) (fun e => by have := hLo g e; omega)).trans (HB0.block g hgl))).trans hw6; have d7 := (World.cell?_of_block (w := w) ((HT.far g (by have := HB0.size; omega) (fun e => by have := hLo g e; omega)).trans (HB0.block g hgl))).trans hw7)))
      go_wp2_with fail
      refine hK.out _ _ ?_ (fun hNew => ?_)
      · (first | exact ⟨HY, c0, c1, c2, c3, c4, c5, c6, c7⟩ | exact ⟨HYN, d0, d1, d2, d3, d4, d5, d6, d7⟩ | assumption)
      clear hK K hHeld
      have hHeld := hNew
      clear hNew
      try simp only [Act.put, pz1, pz2, pz3]
      refine wpAnyH_take (i := 6) (oi := ⟨some 12, .assign (.tmp 41), 38, "law.go:72", #[⟨5, .data⟩, ⟨5, .chain⟩, ⟨0, .phase⟩, ⟨1, .phase⟩, ⟨2, .phase⟩, ⟨3, .phase⟩, ⟨4, .phase⟩, ⟨5, .phase⟩], none⟩) (v := ?_) rfl (by kernel_rfl) (by kernel_rfl) (by kernel_rfl) (fun _ _ _ h => h) (Or.inl ⟨by rfl, ?_⟩) (by assumption) ?_; rotate_left; (· (intro wS hSw; (try dsimp only at hSw); go_simp; (try with_reducible rfl))); try simp only [Act.put, pz1, pz2, pz3]
      refine wpAnyH_done (by kernel_rfl) ?_ _
      refine NoPanic.normal ?_
      clear hHeld
      have HnA : ¬ chB m gx gb gA ∧ ¬ rfB mR gB gN gW gD gA := ⟨fun e => by have := hltw gA (Or.inl e); omega, fun e => by have := hltw gA (Or.inr e); omega⟩
      obtain ⟨Z, hZ⟩ : ∃ Z, S.progZ a b c fs px py Q = Z := ⟨_, rfl⟩
      obtain ⟨S2, hS2⟩ : ∃ S2, S.progS a b c fs px py bs = S2 := ⟨_, rfl⟩
      have HK2 : Hid (Good S2 (23 + 3 * (i : Int)) ∧ Liv S2) := Lib.hid ⟨by rw [← hS2]; exact (HK.out.1.prog h.cl.chip px py bs).mono (by omega), by rw [← hS2]; exact HK.out.2.prog a b c fs px py hb8⟩
      have HZ := Lib.hid (And.intro hZ hS2)
      have HBL := Lib.hid hbl
      clear hZ hS2 hbl hb hgA hgA2 hltw
      go_upto_region 8 with fail
      refine wp_region_noPanic ?_
      refine wp_region_held_drew (S := (fun w' => w'.cell? ⟨g, off + i * 8, none⟩ = some (.int .i64 px) ∧ w'.cell? ⟨g, off + i * 8 + 1, none⟩ = some (.int .i64 py))) (by kernel_rfl) ?_ (fun hHeld => ?_)
      · (first | exact ⟨d0, d1⟩ | assumption)
      refine wpAnyH_take (i := 0) (oi := ⟨some 42, .move (.tmp 9), 29, "law.go:73", #[], none⟩) (v := ?_) rfl (by kernel_rfl) (by kernel_rfl) (by kernel_rfl) (fun _ _ _ h => h) (Or.inl ⟨by rfl, ?_⟩) (by assumption) ?_; rotate_left; (· (intro wS hSw; (try dsimp only at hSw); go_simp; (try with_reducible rfl))); try simp only [Act.put, pz1, pz2, pz3]
      refine wpAnyH_take (i := 1) (oi := ⟨some 43, .move (.tmp 2), 25, "law.go:73", #[], none⟩) (v := ?_) rfl (by kernel_rfl) (by kernel_rfl) (by kernel_rfl) (fun _ _ _ h => h) (Or.inl ⟨by rfl, ?_⟩) (by assumption) ?_; rotate_left; (· (intro wS hSw; (try dsimp only at hSw); go_simp; (try with_reducible rfl))); try simp only [Act.put, pz1, pz2, pz3]
      refine wpAnyH_take (i := 2) (oi := ⟨some 44, .move (.tmp 11), 3, "law.go:73", #[], none⟩) (v := ?_) rfl (by kernel_rfl) (by kernel_rfl) (by kernel_rfl) (fun _ _ _ h => h) (Or.inl ⟨by rfl, ?_⟩) (by assumption) ?_; rotate_left; (· (intro wS hSw; (try dsimp only at hSw); go_simp; (try with_reducible rfl))); try simp only [Act.put, pz1, pz2, pz3]
      refine wpAnyH_take (i := 3) (oi := ⟨some 45, .indexAddr 25 (.tmp 43) (.tmp 44), 0, "law.go:73", #[⟨1, .data⟩, ⟨2, .data⟩], none⟩) (v := ?_) rfl (by kernel_rfl) (by kernel_rfl) (by kernel_rfl) (fun _ _ _ h => h) (Or.inl ⟨by rfl, ?_⟩) (by assumption) ?_; rotate_left; (· (intro wS hSw; (try dsimp only at hSw); go_simp; (try with_reducible rfl))); try simp only [Act.put, pz1, pz2, pz3]
      refine wpAnyH_take (i := 4) (oi := ⟨some 46, .fieldAddr 80 (.tmp 45) 0, 0, "law.go:73", #[⟨3, .data⟩], none⟩) (v := ?_) rfl (by kernel_rfl) (by kernel_rfl) (by kernel_rfl) (fun _ _ _ h => h) (Or.inl ⟨by rfl, ?_⟩) (by assumption) ?_; rotate_left; (· (intro wS hSw; (try dsimp only at hSw); go_simp; (try with_reducible rfl))); try simp only [Act.put, pz1, pz2, pz3]
      refine wpAnyH_take (i := 5) (oi := ⟨some 47, .load 27 (.tmp 46), 27, "law.go:73", #[⟨4, .data⟩], none⟩) (v := ?_) rfl (by kernel_rfl) (by kernel_rfl) (by kernel_rfl) (fun _ _ _ h => h) (Or.inl ⟨by rfl, ?_⟩) (by assumption) ?_; rotate_left; (· (intro wS hSw; (try dsimp only at hSw); go_simp; (try with_reducible rfl))); try simp only [Act.put, pz1, pz2, pz3]
      refine wpAnyH_take (i := 6) (oi := ⟨some 48, .move (.tmp 12), 38, "law.go:73", #[], none⟩) (v := ?_) rfl (by kernel_rfl) (by kernel_rfl) (by kernel_rfl) (fun _ _ _ h => h) (Or.inl ⟨by rfl, ?_⟩) (by assumption) ?_; rotate_left; (· (intro wS hSw; (try dsimp only at hSw); go_simp; (try with_reducible rfl))); try simp only [Act.put, pz1, pz2, pz3]
      refine wpAnyH_take (i := 9) (oi := ⟨some 51, .move (.tmp 10), 30, "law.go:73", #[], none⟩) (v := ?_) rfl (by kernel_rfl) (by kernel_rfl) (by kernel_rfl) (fun _ _ _ h => h) (Or.inl ⟨by rfl, ?_⟩) (by assumption) ?_; rotate_left; (· (intro wS hSw; (try dsimp only at hSw); go_simp; (try with_reducible rfl))); try simp only [Act.put, pz1, pz2, pz3]
      refine wpAnyH_take (i := 10) (oi := ⟨some 52, .move (.tmp 2), 25, "law.go:73", #[], none⟩) (v := ?_) rfl (by kernel_rfl) (by kernel_rfl) (by kernel_rfl) (fun _ _ _ h => h) (Or.inl ⟨by rfl, ?_⟩) (by assumption) ?_; rotate_left; (· (intro wS hSw; (try dsimp only at hSw); go_simp; (try with_reducible rfl))); try simp only [Act.put, pz1, pz2, pz3]
      refine wpAnyH_take (i := 11) (oi := ⟨some 53, .move (.tmp 11), 3, "law.go:73", #[], none⟩) (v := ?_) rfl (by kernel_rfl) (by kernel_rfl) (by kernel_rfl) (fun _ _ _ h => h) (Or.inl ⟨by rfl, ?_⟩) (by assumption) ?_; rotate_left; (· (intro wS hSw; (try dsimp only at hSw); go_simp; (try with_reducible rfl))); try simp only [Act.put, pz1, pz2, pz3]
      refine wpAnyH_take (i := 12) (oi := ⟨some 54, .indexAddr 25 (.tmp 52) (.tmp 53), 0, "law.go:73", #[⟨10, .data⟩, ⟨11, .data⟩], none⟩) (v := ?_) rfl (by kernel_rfl) (by kernel_rfl) (by kernel_rfl) (fun _ _ _ h => h) (Or.inl ⟨by rfl, ?_⟩) (by assumption) ?_; rotate_left; (· (intro wS hSw; (try dsimp only at hSw); go_simp; (try with_reducible rfl))); try simp only [Act.put, pz1, pz2, pz3]
      refine wpAnyH_take (i := 13) (oi := ⟨some 55, .fieldAddr 80 (.tmp 54) 0, 0, "law.go:73", #[⟨12, .data⟩], none⟩) (v := ?_) rfl (by kernel_rfl) (by kernel_rfl) (by kernel_rfl) (fun _ _ _ h => h) (Or.inl ⟨by rfl, ?_⟩) (by assumption) ?_; rotate_left; (· (intro wS hSw; (try dsimp only at hSw); go_simp; (try with_reducible rfl))); try simp only [Act.put, pz1, pz2, pz3]
      refine wpAnyH_take (i := 14) (oi := ⟨some 56, .load 27 (.tmp 55), 27, "law.go:73", #[⟨13, .data⟩], none⟩) (v := ?_) rfl (by kernel_rfl) (by kernel_rfl) (by kernel_rfl) (fun _ _ _ h => h) (Or.inl ⟨by rfl, ?_⟩) (by assumption) ?_; rotate_left; (· (intro wS hSw; (try dsimp only at hSw); go_simp; (try with_reducible rfl))); try simp only [Act.put, pz1, pz2, pz3]
      refine wpAnyH_take (i := 15) (oi := ⟨some 57, .move (.tmp 12), 38, "law.go:73", #[], none⟩) (v := ?_) rfl (by kernel_rfl) (by kernel_rfl) (by kernel_rfl) (fun _ _ _ h => h) (Or.inl ⟨by rfl, ?_⟩) (by assumption) ?_; rotate_left; (· (intro wS hSw; (try dsimp only at hSw); go_simp; (try with_reducible rfl))); try simp only [Act.put, pz1, pz2, pz3]
      refine wpAnyH_ready (rs := [7]) (by kernel_rfl) (by simp) ?_
      refine AllReadyH.cons (o := ⟨some 49, .call { callee := .value (.func 30), args := #[.tmp 42, .tmp 47, .tmp 48], argTypes := #[29, 27, 38] }, 33, "law.go:73", #[⟨0, .data⟩, ⟨5, .data⟩, ⟨6, .data⟩], none⟩) rfl (fun K hK => ?_) AllReadyH.nil
      go_simp
      (first | (go_at_call 12; go_loud (((with_reducible refine (num_any _ _).mono ?_); rintro e' wN ⟨rfl, rfl⟩; skip))) | (go_at_call 30; go_loud (((with_reducible refine (tw_progR L m gx gb AF fs.length cf mR gB gN gW gD AF2 fs.length cf2 a b c d e fs px py bs gA cA Q (20 + 3 * (i : Int)) _ S S (by first | exact h | exact Two.drew h) HK.out.1.fine (by omega) HBL.out (by first | exact hrA | exact RowT.like_ hrA) HnA.1 hcA hcA2 Z S2 HZ).mono ?_); rintro e' wN ⟨rfl, h, hT⟩; replace HT := (by first | exact HT.trans (tw_c hT) | exact HT.trans (tw_c hT.like0)); have hrA := hrA.keep (hT.far gA hrA.lt HnA.1); have d0 := (World.cell?_of_block (w := w) ((HT.far g (by have := HB0.size; omega) (fun e => by have := hLo g e; omega)).trans (HB0.block g hgl))).trans hw0; have d1 := (World.cell?_of_block (w := w) ((HT.far g (by have := HB0.size; omega) (fun e => by have := hLo g e; omega)).trans (HB0.block g hgl))).trans hw1))) | (go_at_call 33; go_loud (((with_reducible refine (tw_rprog L m gx gb AF fs.length cf mR gB gN gW gD AF2 fs.length cf2 a b c d e fs px py bs gA cA Q (20 + 3 * (i : Int)) _ S2 S (by first | exact h | exact Two.drew h) HK.out.1.fine (by omega) HK.out.1.wt HBL.out (by first | exact hrA | exact RowT.like_ hrA) hcA HnA.2 Z S2 HZ).mono ?_); rintro e' wN ⟨rfl, h, hT, -⟩; replace HT := (by first | exact HT.trans (tw_f hT) | exact HT.trans (tw_f hT.like0)); have d0 := (World.cell?_of_block (w := w) ((HT.far g (by have := HB0.size; omega) (fun e => by have := hLo g e; omega)).trans (HB0.block g hgl))).trans hw0; have d1 := (World.cell?_of_block (w := w) ((HT.far g (by have := HB0.size; omega) (fun e => by have := hLo g e; omega)).trans (HB0.block g hgl))).trans hw1))))
      go_wp2_with fail
      refine hK.out _ _ ?_ (fun hNew => ?_)
      · (first | exact ⟨d0, d1⟩ | assumption)
      clear hK K hHeld
      have hHeld := hNew
      clear hNew
      try simp only [Act.put, pz1, pz2, pz3]
      refine wpAnyH_ready (rs := [8]) (by kernel_rfl) (by simp) ?_
      refine AllReadyH.cons (o := ⟨some 50, .call { callee := .value (.func 12), args := #[.tmp 49], argTypes := #[33] }, 3, "law.go:73", #[⟨7, .data⟩, ⟨7, .chain⟩], none⟩) rfl (fun K hK => ?_) AllReadyH.nil
      go_simp
      (first | (go_at_call 12; go_loud (((with_reducible refine (num_any _ _).mono ?_); rintro e' wN ⟨rfl, rfl⟩; skip))) | (go_at_call 30; go_loud (((with_reducible refine (tw_progR L m gx gb AF fs.length cf mR gB gN gW gD AF2 fs.length cf2 a b c d e fs px py bs gA cA Q (20 + 3 * (i : Int)) _ S S (by first | exact h | exact Two.drew h) HK.out.1.fine (by omega) HBL.out (by first | exact hrA | exact RowT.like_ hrA) HnA.1 hcA hcA2 Z S2 HZ).mono ?_); rintro e' wN ⟨rfl, h, hT⟩; replace HT := (by first | exact HT.trans (tw_c hT) | exact HT.trans (tw_c hT.like0)); have hrA := hrA.keep (hT.far gA hrA.lt HnA.1); have d0 := (World.cell?_of_block (w := w) ((HT.far g (by have := HB0.size; omega) (fun e => by have := hLo g e; omega)).trans (HB0.block g hgl))).trans hw0; have d1 := (World.cell?_of_block (w := w) ((HT.far g (by have := HB0.size; omega) (fun e => by have := hLo g e; omega)).trans (HB0.block g hgl))).trans hw1))) | (go_at_call 33; go_loud (((with_reducible refine (tw_rprog L m gx gb AF fs.length cf mR gB gN gW gD AF2 fs.length cf2 a b c d e fs px py bs gA cA Q (20 + 3 * (i : Int)) _ S2 S (by first | exact h | exact Two.drew h) HK.out.1.fine (by omega) HK.out.1.wt HBL.out (by first | exact hrA | exact RowT.like_ hrA) hcA HnA.2 Z S2 HZ).mono ?_); rintro e' wN ⟨rfl, h, hT, -⟩; replace HT := (by first | exact HT.trans (tw_f hT) | exact HT.trans (tw_f hT.like0)); have d0 := (World.cell?_of_block (w := w) ((HT.far g (by have := HB0.size; omega) (fun e => by have := hLo g e; omega)).trans (HB0.block g hgl))).trans hw0; have d1 := (World.cell?_of_block (w := w) ((HT.far g (by have := HB0.size; omega) (fun e => by have := hLo g e; omega)).trans (HB0.block g hgl))).trans hw1))))
      go_wp2_with fail
      refine hK.out _ _ ?_ (fun hNew => ?_)
      · (first | exact ⟨d0, d1⟩ | assumption)
      clear hK K hHeld
      have hHeld := hNew
      clear hNew
      try simp only [Act.put, pz1, pz2, pz3]
      refine wpAnyH_ready (rs := [16]) (by kernel_rfl) (by simp) ?_
      refine AllReadyH.cons (o := ⟨some 58, .call { callee := .value (.func 33), args := #[.tmp 51, .tmp 56, .tmp 57], argTypes := #[30, 27, 38] }, 3, "law.go:73", #[⟨9, .data⟩, ⟨14, .data⟩, ⟨15, .data⟩, ⟨8, .chain⟩], none⟩) rfl (fun K hK => ?_) AllReadyH.nil
      go_simp
      (first | (go_at_call 12; go_loud (((with_reducible refine (num_any _ _).mono ?_); rintro e' wN ⟨rfl, rfl⟩; skip))) | (go_at_call 30; go_loud (((with_reducible refine (tw_progR L m gx gb AF fs.length cf mR gB gN gW gD AF2 fs.length cf2 a b c d e fs px py bs gA cA Q (20 + 3 * (i : Int)) _ S S (by first | exact h | exact Two.drew h) HK.out.1.fine (by omega) HBL.out (by first | exact hrA | exact RowT.like_ hrA) HnA.1 hcA hcA2 Z S2 HZ).mono ?_); rintro e' wN ⟨rfl, h, hT⟩; replace HT := (by first | exact HT.trans (tw_c hT) | exact HT.trans (tw_c hT.like0)); have hrA := hrA.keep (hT.far gA hrA.lt HnA.1); have d0 := (World.cell?_of_block (w := w) ((HT.far g (by have := HB0.size; omega) (fun e => by have := hLo g e; omega)).trans (HB0.block g hgl))).trans hw0; have d1 := (World.cell?_of_block (w := w) ((HT.far g (by have := HB0.size; omega) (fun e => by have := hLo g e; omega)).trans (HB0.block g hgl))).trans hw1))) | (go_at_call 33; go_loud (((with_reducible refine (tw_rprog L m gx gb AF fs.length cf mR gB gN gW gD AF2 fs.length cf2 a b c d e fs px py bs gA cA Q (20 + 3 * (i : Int)) _ S2 S (by first | exact h | exact Two.drew h) HK.out.1.fine (by omega) HK.out.1.wt HBL.out (by first | exact hrA | exact RowT.like_ hrA) hcA HnA.2 Z S2 HZ).mono ?_); rintro e' wN ⟨rfl, h, hT, -⟩; replace HT := (by first | exact HT.trans (tw_f hT) | exact HT.trans (tw_f hT.like0)); have d0 := (World.cell?_of_block (w := w) ((HT.far g (by have := HB0.size; omega) (fun e => by have := hLo g e; omega)).trans (HB0.block g hgl))).trans hw0; have d1 := (World.cell?_of_block (w := w) ((HT.far g (by have := HB0.size; omega) (fun e => by have := hLo g e; omega)).trans (HB0.block g hgl))).trans hw1))))
      go_wp2_with fail
      refine hK.out _ _ ?_ (fun hNew => ?_)
      · (first | exact ⟨d0, d1⟩ | assumption)
      clear hK K hHeld
      have hHeld := hNew
      clear hNew
      try simp only [Act.put, pz1, pz2, pz3]
      refine wpAnyH_take (i := 17) (oi := ⟨some 59, .binOp .neq 3 (.tmp 50) (.tmp 58) 3, 4, "law.go:73", #[⟨8, .data⟩, ⟨16, .data⟩], none⟩) (v := ?_) rfl (by kernel_rfl) (by kernel_rfl) (by kernel_rfl) (fun _ _ _ h => h) (Or.inl ⟨by rfl, ?_⟩) (by assumption) ?_; rotate_left; (· (intro wS hSw; (try dsimp only at hSw); go_simp; (try with_reducible rfl))); try simp only [Act.put, pz1, pz2, pz3]
      refine wpAnyH_done (by kernel_rfl) ?_ _
      refine NoPanic.normal ?_
      clear hHeld
      go_wp2_with fail
      exact ⟨⟨i + 1, S2, by omega, by go_num, h, Lib.hid ⟨HK2.out.1.mono (by omega), HK2.out.2⟩, HT⟩, by simp [iV]; omega⟩
      
    · have hil : i = len := by omega
      subst hil
      go_wp2_with fail
      refine bodyPost_ret (v := .tuple #[.pointer (some ⟨m, 0, none⟩), .pointer (some ⟨mR, 0, none⟩), .bool true]) (by simp [results, Try.results7, go_sem]) rfl ⟨Or.inr ⟨L, m, gx, gb, AF, cf, mR, gB, gN, gW, gD, AF2, cf2, S, rfl, h, HK.out.1, HK.out.2, hLo⟩, HB0.trans (HT.below HB0.size (fun g hg => Nat.le_of_lt (hLo g hg)))⟩
end Go.Proofs.Ytcpniplfkillbaa
namespace Go.Proofs.Ytcpniplfkillbaa
open Go.ChangeShapes Go.WideShapes Go.ChangeAt Go.RowKit
def pg (X : List Nat) (RW i : Nat) : List Nat := (X.drop (i * RW)).take RW
def visF (NB RW : Nat) (fs : List Flt) (X : List Nat) : Nat → Nat → List Vis
  | 0, _ => []
  | r + 1, i => (if badB fs ((i / NB : Nat) : Int) = true then [] else [(i / NB, i % NB, pg X RW i)]) ++ visF NB RW fs X r (i + 1)
theorem live_read {a b c : Int} {NA NB RW i : Nat} {s : ChS} (h : Liv s) (hA : (NA : Int) = a) (hB : (NB : Int) = b) (hR : (RW : Int) = c + 16) (h0 : 0 < NB) (hi : i < NA * NB) : s.readZ a b ((i / NB : Nat) : Int) ((i % NB : Nat) : Int) = 0 ∧ s.readB a b c ((i / NB : Nat) : Int) ((i % NB : Nat) : Int) = pg s.X RW i := by
  have ht := there_in hA hB h0 hi
  obtain ⟨h1, h2, h3⟩ := divmod h0 hi
  have e1 : (((i / NB : Nat) : Int) * b + ((i % NB : Nat) : Int)).toNat = i := by rw [← hB, ← Int.natCast_mul]; omega
  have e2 : (c + 16).toNat = RW := by omega
  unfold ChS.readZ ChS.readB
  rw [h.on, ht, h.cut]
  refine ⟨by simp, ?_⟩
  simp only [Bool.not_false, Bool.and_true, Bool.and_self, if_true, reduceIte]
  unfold ChS.pageOf pg
  rw [e1, e2]
theorem walkF_liv {a b c : Int} {NA NB RW : Nat} {fs : List Flt} (hA : (NA : Int) = a) (hB : (NB : Int) = b) (hR : (RW : Int) = c + 16) (h0 : 0 < NB) : ∀ (r i : Nat) (s : ChS) (acc : List Vis), i + r ≤ NA * NB → Liv s → ∃ S1, walkF a b c NB fs r i s acc = (0, acc ++ visF NB RW fs s.X r i, S1) ∧ S1.X = s.X ∧ Liv S1
  | 0, i, s, acc, _, h => ⟨s, by simp [walkF, visF], rfl, h⟩
  | r + 1, i, s, acc, hi, h => by
    cases hb : badB fs ((i / NB : Nat) : Int) with
    | true =>
      rw [walkF_bad hb]
      obtain ⟨S1, h1, h2, h3⟩ := walkF_liv hA hB hR h0 r (i + 1) s acc (by omega) h
      refine ⟨S1, ?_, h2, h3⟩
      rw [h1, visF, if_pos hb, List.nil_append]
    | false =>
      obtain ⟨z1, z2⟩ := live_read (c := c) h hA hB hR h0 (show i < NA * NB by omega)
      rw [walkF_ok hb z1 rfl z2]
      obtain ⟨S1, h1, h2, h3⟩ := walkF_liv hA hB hR h0 r (i + 1) (s.readS a b ((i / NB : Nat) : Int) ((i % NB : Nat) : Int)) (acc ++ [(i / NB, i % NB, pg s.X RW i)]) (by omega) (h.read a b _ _)
      rw [readS_X] at h1 h2
      refine ⟨S1, ?_, h2, h3⟩
      rw [h1, visF, if_neg (by rw [hb]; simp), List.append_assoc]
theorem badB_nil (B : Int) : badB [] B = false := rfl
theorem visF_nil {NB RW : Nat} {X : List Nat} {r i : Nat} : visF NB RW [] X (r + 1) i = (i / NB, i % NB, pg X RW i) :: visF NB RW [] X r (i + 1) := by
  rw [visF, if_neg (by rw [badB_nil]; simp)]
  rfl
theorem visF_add {NB RW : Nat} {X : List Nat} : ∀ (r1 r2 i : Nat), visF NB RW [] X (r1 + r2) i = visF NB RW [] X r1 i ++ visF NB RW [] X r2 (i + r1)
  | 0, r2, i => by simp [visF]
  | r1 + 1, r2, i => by
    rw [show r1 + 1 + r2 = (r1 + r2) + 1 by omega, visF_nil, visF_nil, visF_add r1 r2 (i + 1), show i + 1 + r1 = i + (r1 + 1) by omega]
    rfl
theorem fds_cons (v : Vis) (l : List Vis) : fdsOf (v :: l) = fdOf v ++ fdsOf l := rfl
theorem fds_app (l l' : List Vis) : fdsOf (l ++ l') = fdsOf l ++ fdsOf l' := by simp [fdsOf]
theorem cnt_app (p : Nat → Bool) (l l' : List Vis) : cnt p (l ++ l') = cnt p l + cnt p l' := by simp [cnt]
theorem cnt_cons (p : Nat → Bool) (v : Vis) (l : List Vis) : cnt p (v :: l) = (if p (readSt v.2.2) = true then 1 else 0) + cnt p l := by
  unfold cnt
  rw [List.filter_cons]
  split <;> simp <;> omega
theorem vis_blank {NB RW : Nat} {X : List Nat} : ∀ (r i : Nat), (∀ t, i ≤ t → t < i + r → readSt (pg X RW t) = 0) → fdsOf (visF NB RW [] X r i) = [] ∧ cnt (fun s => s == 0) (visF NB RW [] X r i) = r ∧ cnt (fun s => s == 1) (visF NB RW [] X r i) = 0 ∧ cnt (fun s => !(s == 0 || s == 1)) (visF NB RW [] X r i) = 0
  | 0, i, _ => ⟨rfl, rfl, rfl, rfl⟩
  | r + 1, i, h => by
    obtain ⟨h1, h2, h3, h4⟩ := vis_blank (NB := NB) r (i + 1) (fun t ht1 ht2 => h t (by omega) (by omega))
    have hz := h i (Nat.le_refl _) (by omega)
    rw [visF_nil, fds_cons, cnt_cons, cnt_cons, cnt_cons, h1, h2, h3, h4]
    dsimp only
    rw [hz]
    refine ⟨?_, ?_, by simp, by simp⟩
    · unfold fdOf
      rw [if_neg (by dsimp only; rw [hz]; omega)]
      rfl
    · simp
      omega
theorem pg_get {X : List Nat} {RW i q : Nat} (hq : q < RW) : (pg X RW i)[q]? = X[i * RW + q]? := by
  unfold pg
  rw [List.getElem?_take_of_lt hq, List.getElem?_drop]
theorem pg_ext {X Y : List Nat} {RW i : Nat} (h : ∀ q, q < RW → X[i * RW + q]? = Y[i * RW + q]?) : pg X RW i = pg Y RW i := by
  apply List.ext_getElem?
  intro q
  by_cases hq : q < RW
  · rw [pg_get hq, pg_get hq]
    exact h q hq
  · rw [List.getElem?_eq_none (by unfold pg; rw [List.length_take]; omega), List.getElem?_eq_none (by unfold pg; rw [List.length_take]; omega)]
theorem pg_far {X vs : List Nat} {RW i F : Nat} (h : F + vs.length ≤ X.length) (hf : i * RW + RW ≤ F ∨ F + vs.length ≤ i * RW) : pg (putX X F vs) RW i = pg X RW i :=
  pg_ext fun q hq => by
    rw [putX_get h]
    rcases hf with hf | hf
    · rw [if_pos (by omega)]
    · rw [if_neg (by omega), if_neg (by omega)]
theorem pg_at {X vs : List Nat} {RW i : Nat} (h : i * RW + vs.length ≤ X.length) (hl : vs.length = RW) : pg (putX X (i * RW) vs) RW i = vs := by
  apply List.ext_getElem?
  intro q
  by_cases hq : q < RW
  · rw [pg_get hq, putX_get h, if_neg (by omega), if_pos (by omega)]
    congr 1
    omega
  · rw [List.getElem?_eq_none (by unfold pg; rw [List.length_take]; omega), List.getElem?_eq_none (by omega)]
theorem pg_rep {n RW i f : Nat} (h : i * RW + RW ≤ n) : pg (List.replicate n f) RW i = List.replicate RW f := by
  unfold pg
  rw [List.drop_replicate, List.take_replicate, Nat.min_eq_left (by omega)]
theorem st_blank {RW : Nat} (h1 : 40 ≤ RW) (h2 : RW ≤ 80) : readSt (List.replicate RW 255) = 0 := by
  unfold readSt
  rw [List.length_replicate, if_pos ⟨h1, h2⟩, if_pos]
  unfold blankB
  rw [List.all_eq_true]
  intro x hx
  rw [List.eq_of_mem_replicate hx]
  rfl
end Go.Proofs.Ytcpniplfkillbaa
namespace Go.Proofs.Ytcpniplfkillbaa
open Go.ChangeShapes Go.WideShapes Go.ChangeAt Go.RowKit
attribute [local go_sem ↓] Go.wp_at_zero Go.wp_at_succ
theorem small9 (w : World) : Calls Try.prog 27 #[] w fun e' w' => e' = .returned (.agg #[.int .i64 8, .int .i64 4, .int .i64 32, .int .i64 0, .int .i64 2]) ∧ Below w.heap.size w w' := by
  go_enter Try.func27, Try.ntmps27
  go_wp2
  refine bodyPost_ret (v := .agg #[.int .i64 8, .int .i64 4, .int .i64 32, .int .i64 0, .int .i64 2]) (by simp [results, Try.results27, go_sem]) rfl ⟨rfl, ?_⟩
  exact (Below.refl _ _).alloc (Nat.le_refl _) _
theorem one9 (w : World) : Calls Try.prog 29 #[] w fun e' w' => e' = .returned (.agg #[.int .i64 1, .int .i64 3, .int .i64 5, .int .i64 2]) ∧ Below w.heap.size w w' := by
  go_enter Try.func29, Try.ntmps29
  go_wp2
  refine bodyPost_ret (v := .agg #[.int .i64 1, .int .i64 3, .int .i64 5, .int .i64 2]) (by simp [results, Try.results29, go_sem]) rfl ⟨rfl, ?_⟩
  exact (Below.refl _ _).alloc (Nat.le_refl _) _
def rawA : List Nat := rawB (List.replicate 32 0) 1 3 5 2
theorem layA : LayOk (List.replicate 32 0) 1 3 5 2 := ⟨by simp, by simp, by omega, by omega, by omega, by omega, by omega, by omega, fun x hx => by have := List.eq_of_mem_replicate hx; omega⟩
theorem rawA_len : rawA.length = 48 := by unfold rawA; rw [rawB_len, List.length_replicate]
theorem rawA_8 : Bytes8 rawA := rawB_8 layA.2.2.2.2.2.2.2.2 (by omega)
theorem rawA_st : readSt rawA = 1 := raw_valid layA
theorem rawA_tag : lkT rawA = (1, 3, 5, 2) := by
  have h := raw_drop (List.replicate 32 0) 1 3 5 2
  rw [List.length_replicate] at h
  unfold lkT
  rw [if_pos rawA_st, rawA_len, show 48 - 16 = 32 from rfl]
  unfold rawA
  rw [h, tail_tK, tail_tP (by omega), tail_tS (by omega), tail_tE (by omega)]
theorem lay9 (A : Option Addr) (c : Nat) (w : World) (h : Sl w w.heap.size A ((List.replicate 32 0).map byteV)) : Calls Try.prog 28 #[.slice A 32 c, .agg #[.int .i64 1, .int .i64 3, .int .i64 5, .int .i64 2]] w fun e' w' => (∃ g cA, e' = .returned (.tuple #[.slice (some ⟨g, 0, none⟩) 48 cA, .int .i64 0]) ∧ RowT w' g 5 (rawA.map byteV) ∧ w.heap.size < g ∧ 48 ≤ cA ∧ cA ≤ maxLen) ∧ Below w.heap.size w w' := by
  have h9 := rlay_yes (List.replicate 32 0) A c 1 3 5 2 w h layA
  rw [List.length_replicate] at h9
  refine h9.mono ?_
  rintro e' w' ⟨sv, rfl, ho, hb⟩
  obtain ⟨g, cA, rfl, h1, h2, h3, h4⟩ := own_cut ho (by omega)
  exact ⟨⟨g, cA, rfl, h1, h2, h3, h4⟩, hb⟩
def sA : ChS := (ChS.new 1536 8).progS 8 4 32 [] 2 0 rawA
theorem new_k (N B : Nat) (x : Int) (j : Nat) : (ChS.new N B).k x j = 0 := by
  unfold ChS.k ChS.new
  rw [List.getD_eq_getElem?_getD, List.getElem?_replicate]
  split <;> rfl
theorem wrongA : (ChS.new 1536 8).wrong 8 [] 2 0 = 0 := by
  unfold ChS.wrong failedB
  rw [new_k, new_k]
  rfl
theorem progA : (ChS.new 1536 8).progZ 8 4 32 [] 2 0 48 = 0 := by
  unfold ChS.progZ
  rw [show (2 : Int).toNat = 2 from rfl, show (0 : Int).toNat = 0 from rfl, wrongA]
  rfl
theorem sA_X : sA.X = putX (List.replicate 1536 255) 384 rawA := by
  unfold sA ChS.progS
  rw [show (2 : Int).toNat = 2 from rfl, show (0 : Int).toNat = 0 from rfl, wrongA, rawA_len]
  rfl
theorem sA_liv : Liv sA := (Liv.new 1536 8).prog 8 4 32 [] 2 0 rawA_8
theorem visA : fdsOf (visF 4 48 [] sA.X 32 0) = [⟨2, 0, 1, 3, 5, 2⟩] ∧ cnt (fun s => s == 0) (visF 4 48 [] sA.X 32 0) = 31 ∧ cnt (fun s => s == 1) (visF 4 48 [] sA.X 32 0) = 1 ∧ cnt (fun s => !(s == 0 || s == 1)) (visF 4 48 [] sA.X 32 0) = 0 := by
  have hl := rawA_len
  have hfar : ∀ t, t < 32 → t ≠ 8 → readSt (pg sA.X 48 t) = 0 := fun t h1 h2 => by
    rw [sA_X, pg_far (by rw [hl, List.length_replicate]; omega) (by rw [hl]; omega), pg_rep (by omega)]
    exact st_blank (by omega) (by omega)
  have h8 : pg sA.X 48 8 = rawA := by
    rw [sA_X]
    exact pg_at (X := List.replicate 1536 255) (RW := 48) (i := 8) (by rw [hl, List.length_replicate]; omega) hl
  obtain ⟨a1, a2, a3, a4⟩ := vis_blank (NB := 4) (RW := 48) (X := sA.X) 8 0 (fun t _ h2 => hfar t (by omega) (by omega))
  obtain ⟨b1, b2, b3, b4⟩ := vis_blank (NB := 4) (RW := 48) (X := sA.X) 23 9 (fun t h1 h2 => hfar t (by omega) (by omega))
  have hv1 : visF 4 48 [] sA.X 1 (0 + 8) = [(8 / 4, 8 % 4, rawA)] := by
    have := visF_nil (NB := 4) (RW := 48) (X := sA.X) (r := 0) (i := 8)
    rw [h8] at this
    exact this
  rw [show (32 : Nat) = 8 + (1 + 23) from rfl, visF_add, visF_add, hv1]
  simp only [fds_app, cnt_app, fds_cons, cnt_cons, a1, a2, a3, a4, b1, b2, b3, b4, Nat.zero_add, Nat.reduceAdd]
  have hf : fdOf (8 / 4, 8 % 4, rawA) = [⟨2, 0, 1, 3, 5, 2⟩] := by
    unfold fdOf
    dsimp only
    rw [if_pos rawA_st, rawA_tag]
    rfl
  rw [hf, rawA_st]
  refine ⟨rfl, rfl, rfl, rfl⟩
theorem walkA : ∃ S1, walkF 8 4 32 4 [] (8 * 4) 0 sA [] = (0, visF 4 48 [] sA.X 32 0, S1) ∧ S1.X = sA.X ∧ Liv S1 := by
  obtain ⟨S1, h1, h2, h3⟩ := walkF_liv (a := 8) (b := 4) (c := 32) (NA := 8) (NB := 4) (RW := 48) (fs := []) rfl rfl rfl (by omega) 32 0 sA [] (by omega) sA_liv
  rw [List.nil_append] at h1
  exact ⟨S1, h1, h2, h3⟩
end Go.Proofs.Ytcpniplfkillbaa
namespace Go.Proofs.Ytcpniplfkillbaa
open Go.ChangeShapes Go.WideShapes Go.ChangeAt Go.RowKit
attribute [local go_sem ↓] Go.wp_at_zero Go.wp_at_succ
theorem newA (w : World) : Calls Try.prog 26 #[.agg #[.int .i64 8, .int .i64 4, .int .i64 32, .int .i64 0, .int .i64 2], .slice none 0 0] w fun e' w' => (∃ m gx gb AF cf, e' = .returned (.pointer (some ⟨m, 0, none⟩)) ∧ ChipW w' m gx gb AF 0 cf 8 4 32 0 2 [] (ChS.new 1536 8) ∧ w.heap.size ≤ m ∧ w.heap.size ≤ gx ∧ w.heap.size ≤ gb) ∧ Below w.heap.size w w' :=
  newF_yes 8 4 32 0 2 [] none 0 1536 8 w (Or.inl rfl) (Nat.le_refl _) (Nat.zero_le _) (by simp) (Lib.hid (by decide)) (by decide) rfl (by omega) (by omega) (by omega)
theorem progA9 (m gx gb : Nat) (AF : Option Addr) (cf g cA : Nat) (w : World) (hC : ChipW w m gx gb AF 0 cf 8 4 32 0 2 [] (ChS.new 1536 8)) (hR : RowT w g 5 (rawA.map byteV)) (h1 : 48 ≤ cA) (h2 : cA ≤ maxLen) (hg : ¬ chB m gx gb g) :
    Calls Try.prog 30 #[.pointer (some ⟨m, 0, none⟩), .agg #[.int .i64 2, .int .i64 0], .slice (some ⟨g, 0, none⟩) 48 cA] w fun e' w' => e' = .returned (.int .i64 0) ∧ ChipW w' m gx gb AF 0 cf 8 4 32 0 2 [] sA ∧ Tch (chB m gx gb) w w' := by
  have h := prog_allC m gx gb AF 0 cf 8 4 32 0 2 [] 2 0 rawA g cA 20 w (ChS.new 1536 8) hC (good_new 1536 8).fine (by omega) (fun j u hj => by rw [Nat.zero_add]; exact hR.cell_ hj) hR.lt (by rw [rawA_len]; exact h1) h2 hg
  rw [rawA_len, progA] at h
  exact h
theorem walkA1 {S1 : ChS} (hX : S1.X = sA.X) (hL : Liv S1) : ∃ S2, walkF 8 4 32 4 [] (8 * 4) 0 S1 [] = (0, visF 4 48 [] sA.X 32 0, S2) := by
  obtain ⟨S2, h1, h2, h3⟩ := walkF_liv (a := 8) (b := 4) (c := 32) (NA := 8) (NB := 4) (RW := 48) (fs := []) rfl rfl rfl (by omega) 32 0 S1 [] (by omega) hL
  rw [List.nil_append, hX] at h1
  exact ⟨S2, h1⟩
theorem fd_lit (w : World) {g : Nat} (hg : g = w.heap.size) : SlFd (w.alloc (.cells #[.int .i64 2, .int .i64 0, .int .i64 1, .int .i64 3, .int .i64 5, .int .i64 2] 65)) (w.alloc (.cells #[.int .i64 2, .int .i64 0, .int .i64 1, .int .i64 3, .int .i64 5, .int .i64 2] 65)).heap.size (some ⟨g, 0, none⟩) [(⟨2, 0, 1, 3, 5, 2⟩ : Fd)] := by
  subst hg
  refine Or.inr ⟨w.heap.size, 0, rfl, (Blk.new_ w _ _).lt, fun k x hx j u hu => ?_⟩
  match k, hx with
  | 0, hx =>
    obtain rfl := Option.some.inj hx
    rw [(Blk.new_ w _ _).cell_, show 0 + 0 * 6 + j = j by omega, ← Array.getElem?_toList]
    exact hu
theorem SlE.tchF {w w' : World} {m gx gb B : Nat} {A : Option Addr} {L : List Fd} (h : SlFd w B A L) (hT : Tch (chB m gx gb) w w') (hB : B ≤ w.heap.size) (hn : ∀ b o, A = some ⟨b, o, none⟩ → ¬ chB m gx gb b) : SlFd w' w'.heap.size A L := by
  rcases h with h | ⟨b, off, e, hlt, hc⟩
  · exact Or.inl h
  · have hk := hT.far b (by omega) (hn b off e)
    exact Or.inr ⟨b, off, e, by have := hT.size; omega, fun k x hx j u hu => (World.cell?_of_block (w := w) hk).trans (hc k x hx j u hu)⟩
theorem own_atF {w : World} {base : Nat} {v : Value} {L : List Fd} (h : RowFd w base v L) : ∀ g, v.ownBlock = some g → base ≤ g := by
  intro g hg
  rcases h.2 with ⟨rfl, _⟩ | ⟨g', cap, cur, rfl, hb, _⟩
  · simp [Value.ownBlock] at hg
  · simp [Value.ownBlock] at hg
    omega
theorem btrT {w0 w w' : World} {m gx gb : Nat} (h : Below w0.heap.size w0 w) (hT : Tch (chB m gx gb) w w') (hl : ∀ g, chB m gx gb g → w0.heap.size ≤ g) : Below w0.heap.size w0 w' := h.trans (hT.below h.size hl)
theorem row_rep {w : World} {g : Nat} (h : RowT w g 5 (List.replicate (32 * 1) (Value.int .u8 0))) : RowT w g 5 ((List.replicate 32 0).map byteV) := by
  rw [List.map_replicate]
  exact h
theorem awake9 (w : World) : Calls Try.prog 6 #[] w fun e' w' => e' = .returned (.bool true) ∧ Below w.heap.size w w' := by
  obtain ⟨S1, hW1, hX1, hL1⟩ := walkA
  obtain ⟨S2, hW2⟩ := walkA1 hX1 hL1
  have HW1 := Lib.hid hW1
  have HW2 := Lib.hid hW2
  have HF := Lib.hid visA.1
  have HN1 : Hid ((fdsOf (visF 4 48 [] sA.X 32 0)).length = 1) := Lib.hid (by rw [HF.out]; rfl)
  have HP3 := Lib.hid visA.2
  clear hW1 hW2 hX1 hL1
  go_enter Try.func6, Try.ntmps6
  go_upto_region 4 with (first
    | (go_at_call 27; go_loud (((with_reducible refine (small9 w).mono ?_); rintro e' wN ⟨rfl, hb1⟩; skip)))
    | (go_at_call 26; go_loud (((with_reducible refine (newA _).mono ?_); rintro e' wN ⟨⟨m, gx, gb, AF, cf, rfl, hC, hm, hgx, hgb⟩, hbC⟩; have HBC := btr hb1 hb1.size hbC; have hsz1 := hb1.size))))
  obtain ⟨wC, hwC⟩ : ∃ V : World, V = wN := ⟨_, rfl⟩
  rw [← hwC] at hC HBC ⊢
  clear hwC hbC
  have HB4 : Below wC.heap.size wC wC := Below.refl _ _
  refine wp_region_noPanic ?_
  refine wp_region_held_drew (S := (fun _ => True)) (by kernel_rfl) ?_ (fun hHeld => ?_)
  · exact trivial
  refine wpAnyH_ready (rs := [0, 1]) (by kernel_rfl) (by simp) ?_
  refine (AllReadyH.cons (o := ⟨some 18, .makeSlice 38 (.const (.int .i64 32)) (.const (.int .i64 32)), 38, "law.go:29", #[], none⟩) rfl (fun K hK => ?_) (AllReadyH.cons (o := ⟨some 19, .call { callee := .value (.func 29), args := #[], argTypes := #[] }, 40, "law.go:29", #[], none⟩) rfl (fun K hK => ?_) AllReadyH.nil))
  · obtain ⟨ti0, hi, hz0, hz1, hz2⟩ := info_parts infoByte
    refine wp_make _ (.const (.int .i64 32)) (.const (.int .i64 32)) 38 rfl _ 5 ti0 (.int .u8 0) 1 Try.underlying38 hi hz0 hz1 .i64 .i64 32 32 32 rfl rfl rfl rfl (by rw [hz2]; omega) (by unfold maxLen; omega) (Nat.le_refl _) ?_
    intro wM hoM hgM
    clear hi hz0 hz1 hz2
    have hb := (Below.refl _ _).grown hgM (Nat.le_refl _) (fun j hj => by cases hj)
    (try have hb := undrew hb)
    replace HB4 := btr HB4 HB4.size hb
    have hrM0 := RowT.own hoM
    rw [show (madeCells (Value.int .u8 0).cells (32 * 1)).toList = List.replicate (32 * 1) (Value.int .u8 0) from toList_madeCells_one _ _] at hrM0
    have hrM := row_rep hrM0
    (try change RowT _ wC.heap.size _ _ at hrM)
    clear hoM hgM hrM0
    refine hK.out _ _ ?_ (fun hNew => ?_)
    · exact trivial
    clear hK K hHeld
    have hHeld := hNew
    clear hNew
    try simp only [Act.put, pz1, pz2, pz3]
    refine wpAnyH_ready (rs := [1]) (by kernel_rfl) (by simp) ?_
    refine AllReadyH.cons (o := ⟨some 19, .call { callee := .value (.func 29), args := #[], argTypes := #[] }, 40, "law.go:29", #[], none⟩) rfl (fun K hK => ?_) AllReadyH.nil
    go_simp
    (first | (go_at_call 29; go_loud (((with_reducible refine (one9 _).mono ?_); rintro e' wN ⟨rfl, hb⟩; (try have hb := undrew hb); replace HB4 := btr HB4 HB4.size hb; (try replace hrM := hrM.below hb)))) | (go_at_call 28; go_loud (((with_reducible refine (lay9 _ 32 _ (row_sl hrM)).mono ?_); rintro e' wN ⟨⟨g4, cA, rfl, hrA, hg4, hc1, hc2⟩, hb⟩; have hs4 := HB4.size; replace HB4 := btr HB4 HB4.size hb))))
    go_wp2_with fail
    refine hK.out _ _ ?_ (fun hNew => ?_)
    · exact trivial
    clear hK K hHeld
    have hHeld := hNew
    clear hNew
    try simp only [Act.put, pz1, pz2, pz3]
    refine wpAnyH_ready (rs := [2]) (by kernel_rfl) (by simp) ?_
    refine AllReadyH.cons (o := ⟨some 20, .call { callee := .value (.func 28), args := #[.tmp 18, .tmp 19], argTypes := #[38, 40] }, 73, "law.go:29", #[⟨0, .data⟩, ⟨1, .data⟩, ⟨1, .chain⟩], none⟩) rfl (fun K hK => ?_) AllReadyH.nil
    go_simp
    (first | (go_at_call 29; go_loud (((with_reducible refine (one9 _).mono ?_); rintro e' wN ⟨rfl, hb⟩; (try have hb := undrew hb); replace HB4 := btr HB4 HB4.size hb; (try replace hrM := hrM.below hb)))) | (go_at_call 28; go_loud (((with_reducible refine (lay9 _ 32 _ (row_sl hrM)).mono ?_); rintro e' wN ⟨⟨g4, cA, rfl, hrA, hg4, hc1, hc2⟩, hb⟩; have hs4 := HB4.size; replace HB4 := btr HB4 HB4.size hb))))
    go_wp2_with fail
    refine hK.out _ _ ?_ (fun hNew => ?_)
    · exact trivial
    clear hK K hHeld
    have hHeld := hNew
    clear hNew
    try simp only [Act.put, pz1, pz2, pz3]
    refine wpAnyH_take (i := 3) (oi := ⟨some 17, .move (.tmp 20), 73, "law.go:29", #[⟨2, .data⟩], none⟩) (v := ?_) rfl (by kernel_rfl) (by kernel_rfl) (by kernel_rfl) (fun _ _ _ h => h) (Or.inl ⟨by rfl, ?_⟩) (by assumption) ?_; rotate_left; (· (intro wS hSw; (try dsimp only at hSw); go_simp; (try with_reducible rfl))); try simp only [Act.put, pz1, pz2, pz3]
    refine wpAnyH_take (i := 4) (oi := ⟨some 21, .extract (.tmp 17) 0, 38, "law.go:29", #[⟨3, .data⟩], none⟩) (v := ?_) rfl (by kernel_rfl) (by kernel_rfl) (by kernel_rfl) (fun _ _ _ h => h) (Or.inl ⟨by rfl, ?_⟩) (by assumption) ?_; rotate_left; (· (intro wS hSw; (try dsimp only at hSw); go_simp; (try with_reducible rfl))); try simp only [Act.put, pz1, pz2, pz3]
    refine wpAnyH_take (i := 5) (oi := ⟨some 22, .extract (.tmp 17) 1, 3, "law.go:29", #[⟨3, .data⟩, { on := 6, ground := Ground.gcOnly Departure.lateStores }], none⟩) (v := ?_) rfl (by kernel_rfl) (by kernel_rfl) (by kernel_rfl) (fun _ _ _ h => h) (Or.inl ⟨by rfl, ?_⟩) (by assumption) ?_; rotate_left; (· (intro wS hSw; (try dsimp only at hSw); go_simp; (try with_reducible rfl))); try simp only [Act.put, pz1, pz2, pz3]
    refine wpAnyH_take (i := 6) (oi := ⟨some 2, .assign (.tmp 21), 38, "law.go:29", #[⟨4, .data⟩, ⟨2, .chain⟩, ⟨0, .phase⟩, ⟨1, .phase⟩, ⟨2, .phase⟩, ⟨3, .phase⟩, ⟨4, .phase⟩, { on := 5, ground := Ground.textOnly Departure.lateStores }], none⟩) (v := ?_) rfl (by kernel_rfl) (by kernel_rfl) (by kernel_rfl) (fun _ _ _ h => h) (Or.inl ⟨by rfl, ?_⟩) (by assumption) ?_; rotate_left; (· (intro wS hSw; (try dsimp only at hSw); go_simp; (try with_reducible rfl))); try simp only [Act.put, pz1, pz2, pz3]
    refine wpAnyH_take (i := 7) (oi := ⟨some 3, .assign (.tmp 22), 3, "law.go:29", #[⟨5, .data⟩, ⟨6, .chain⟩, ⟨0, .phase⟩, ⟨1, .phase⟩, ⟨2, .phase⟩, ⟨3, .phase⟩, ⟨4, .phase⟩, ⟨5, .phase⟩, ⟨6, .phase⟩], none⟩) (v := ?_) rfl (by kernel_rfl) (by kernel_rfl) (by kernel_rfl) (fun _ _ _ h => h) (Or.inl ⟨by rfl, ?_⟩) (by assumption) ?_; rotate_left; (· (intro wS hSw; (try dsimp only at hSw); go_simp; (try with_reducible rfl))); try simp only [Act.put, pz1, pz2, pz3]
    refine wpAnyH_done (by kernel_rfl) ?_ _
    refine NoPanic.normal ?_
    clear hHeld
    have HC4 : ChipW wN m gx gb AF 0 cf 8 4 32 0 2 [] (ChS.new 1536 8) := hC.below HB4
    have HBN := HBC.trans (HB4.mono HBC.size)
    have hlC := hC.lt
    have hng : ¬ chB m gx gb g4 := fun e => by rcases e with rfl | rfl | rfl <;> omega
    have hlow : ∀ g, chB m gx gb g → w.heap.size ≤ g := fun g e => by rcases e with rfl | rfl | rfl <;> omega
    go_wp2_with (first
      | (go_at_call 30; go_loud (((with_reducible refine (progA9 m gx gb AF cf g4 cA _ HC4 hrA hc1 hc2 hng).mono ?_); rintro e' wN ⟨rfl, hCP, hTP⟩; have HBP := btrT HBN hTP hlow; have hgd : Good sA 23 := ((good_new 1536 8).prog HC4 2 0 rawA).mono (show (20 : Int) + 3 ≤ 23 by omega))))
      | (go_at_call 16; go_loud (((with_reducible refine (scan_ok m gx gb AF 0 cf 8 4 32 0 2 [] 8 4 23 (visF 4 48 [] sA.X 32 0) sA S1 _ hCP hgd (by omega) sA_liv.b8 rfl rfl HW1 1 HN1).mono ?_); rintro e' wN ⟨⟨A5, c5, rfl, hrF⟩, hCS, hTS, hgS, hb8S⟩; have HBS := btrT HBP hTS hlow; obtain ⟨A6, c6, hv6, hsF, -, -⟩ := hrF.sl; have hnF : ∀ b o, A5 = some ⟨b, o, none⟩ → ¬ chB m gx gb b := fun b o e e2 => (by have h1 := (own_atF hrF b (by rw [e]; rfl)); have h2 := hCP.lt; rcases e2 with rfl | rfl | rfl <;> omega); rw [HF.out] at hv6 hsF; cases hv6)))
      | (go_at_call 18; go_loud (((with_reducible refine (count_ok m gx gb AF 0 cf 8 4 32 0 2 [] 8 4 (23 + 1000) (visF 4 48 [] sA.X 32 0) S1 S2 _ hCS hgS (by omega) hb8S rfl rfl HW2 31 1 0 HP3).mono ?_); rintro e' wN ⟨rfl, hCT, hTT, -, -⟩; have HBT := btrT HBS hTT hlow; have hsF2 := SlE.tchF hsF hTT (Nat.le_refl _) hnF)))
      | (go_at_call 8; go_loud (((with_reducible refine (state_nil 0 0 _).mono ?_); rintro e' wN ⟨rfl, hbU⟩; have HBU := btr HBT HBT.size hbU; have hsF3 := hsF2.next hbU)))
      | (go_at_call 29; go_loud (((with_reducible refine (one9 _).mono ?_); rintro e' wN ⟨rfl, hbV⟩; have HBV := btr HBU HBU.size hbV; have hsF4 := hsF3.next hbV)))
      | (go_at_call 20; go_loud (((with_reducible refine (same_yes [(⟨2, 0, 1, 3, 5, 2⟩ : Fd)] A5 _ 1 c5 1 _ rfl (by omega) (hsF4.next ((Below.refl _ _).alloc (Nat.le_refl _) _)) (fd_lit _ (by simp))).mono ?_); rintro e' wN ⟨rfl, hbW⟩; have HBW := (HBV.alloc HBV.size _).trans (hbW.mono (by have := HBV.size; simp; omega))))))
    go_ret
    exact ⟨rfl, HBW⟩
  · go_simp
    (first | (go_at_call 29; go_loud (((with_reducible refine (one9 _).mono ?_); rintro e' wN ⟨rfl, hb⟩; (try have hb := undrew hb); replace HB4 := btr HB4 HB4.size hb; (try replace hrM := hrM.below hb)))) | (go_at_call 28; go_loud (((with_reducible refine (lay9 _ 32 _ (row_sl hrM)).mono ?_); rintro e' wN ⟨⟨g4, cA, rfl, hrA, hg4, hc1, hc2⟩, hb⟩; have hs4 := HB4.size; replace HB4 := btr HB4 HB4.size hb))))
    go_wp2_with fail
    refine hK.out _ _ ?_ (fun hNew => ?_)
    · exact trivial
    clear hK K hHeld
    have hHeld := hNew
    clear hNew
    try simp only [Act.put, pz1, pz2, pz3]
    refine wpAnyH_ready (rs := [0]) (by kernel_rfl) (by simp) ?_
    refine AllReadyH.cons (o := ⟨some 18, .makeSlice 38 (.const (.int .i64 32)) (.const (.int .i64 32)), 38, "law.go:29", #[], none⟩) rfl (fun K hK => ?_) AllReadyH.nil
    obtain ⟨ti0, hi, hz0, hz1, hz2⟩ := info_parts infoByte
    refine wp_make _ (.const (.int .i64 32)) (.const (.int .i64 32)) 38 rfl _ 5 ti0 (.int .u8 0) 1 Try.underlying38 hi hz0 hz1 .i64 .i64 32 32 32 rfl rfl rfl rfl (by rw [hz2]; omega) (by unfold maxLen; omega) (Nat.le_refl _) ?_
    intro wM hoM hgM
    clear hi hz0 hz1 hz2
    have hb := (Below.refl _ _).grown hgM (Nat.le_refl _) (fun j hj => by cases hj)
    (try have hb := undrew hb)
    replace HB4 := btr HB4 HB4.size hb
    have hrM0 := RowT.own hoM
    rw [show (madeCells (Value.int .u8 0).cells (32 * 1)).toList = List.replicate (32 * 1) (Value.int .u8 0) from toList_madeCells_one _ _] at hrM0
    have hrM := row_rep hrM0
    (try change RowT _ wC.heap.size _ _ at hrM)
    clear hoM hgM hrM0
    refine hK.out _ _ ?_ (fun hNew => ?_)
    · exact trivial
    clear hK K hHeld
    have hHeld := hNew
    clear hNew
    try simp only [Act.put, pz1, pz2, pz3]
    refine wpAnyH_ready (rs := [2]) (by kernel_rfl) (by simp) ?_
    refine AllReadyH.cons (o := ⟨some 20, .call { callee := .value (.func 28), args := #[.tmp 18, .tmp 19], argTypes := #[38, 40] }, 73, "law.go:29", #[⟨0, .data⟩, ⟨1, .data⟩, ⟨1, .chain⟩], none⟩) rfl (fun K hK => ?_) AllReadyH.nil
    go_simp
    (first | (go_at_call 29; go_loud (((with_reducible refine (one9 _).mono ?_); rintro e' wN ⟨rfl, hb⟩; (try have hb := undrew hb); replace HB4 := btr HB4 HB4.size hb; (try replace hrM := hrM.below hb)))) | (go_at_call 28; go_loud (((with_reducible refine (lay9 _ 32 _ (row_sl hrM)).mono ?_); rintro e' wN ⟨⟨g4, cA, rfl, hrA, hg4, hc1, hc2⟩, hb⟩; have hs4 := HB4.size; replace HB4 := btr HB4 HB4.size hb))))
    go_wp2_with fail
    refine hK.out _ _ ?_ (fun hNew => ?_)
    · exact trivial
    clear hK K hHeld
    have hHeld := hNew
    clear hNew
    try simp only [Act.put, pz1, pz2, pz3]
    refine wpAnyH_take (i := 3) (oi := ⟨some 17, .move (.tmp 20), 73, "law.go:29", #[⟨2, .data⟩], none⟩) (v := ?_) rfl (by kernel_rfl) (by kernel_rfl) (by kernel_rfl) (fun _ _ _ h => h) (Or.inl ⟨by rfl, ?_⟩) (by assumption) ?_; rotate_left; (· (intro wS hSw; (try dsimp only at hSw); go_simp; (try with_reducible rfl))); try simp only [Act.put, pz1, pz2, pz3]
    refine wpAnyH_take (i := 4) (oi := ⟨some 21, .extract (.tmp 17) 0, 38, "law.go:29", #[⟨3, .data⟩], none⟩) (v := ?_) rfl (by kernel_rfl) (by kernel_rfl) (by kernel_rfl) (fun _ _ _ h => h) (Or.inl ⟨by rfl, ?_⟩) (by assumption) ?_; rotate_left; (· (intro wS hSw; (try dsimp only at hSw); go_simp; (try with_reducible rfl))); try simp only [Act.put, pz1, pz2, pz3]
    refine wpAnyH_take (i := 5) (oi := ⟨some 22, .extract (.tmp 17) 1, 3, "law.go:29", #[⟨3, .data⟩, { on := 6, ground := Ground.gcOnly Departure.lateStores }], none⟩) (v := ?_) rfl (by kernel_rfl) (by kernel_rfl) (by kernel_rfl) (fun _ _ _ h => h) (Or.inl ⟨by rfl, ?_⟩) (by assumption) ?_; rotate_left; (· (intro wS hSw; (try dsimp only at hSw); go_simp; (try with_reducible rfl))); try simp only [Act.put, pz1, pz2, pz3]
    refine wpAnyH_take (i := 6) (oi := ⟨some 2, .assign (.tmp 21), 38, "law.go:29", #[⟨4, .data⟩, ⟨2, .chain⟩, ⟨0, .phase⟩, ⟨1, .phase⟩, ⟨2, .phase⟩, ⟨3, .phase⟩, ⟨4, .phase⟩, { on := 5, ground := Ground.textOnly Departure.lateStores }], none⟩) (v := ?_) rfl (by kernel_rfl) (by kernel_rfl) (by kernel_rfl) (fun _ _ _ h => h) (Or.inl ⟨by rfl, ?_⟩) (by assumption) ?_; rotate_left; (· (intro wS hSw; (try dsimp only at hSw); go_simp; (try with_reducible rfl))); try simp only [Act.put, pz1, pz2, pz3]
    refine wpAnyH_take (i := 7) (oi := ⟨some 3, .assign (.tmp 22), 3, "law.go:29", #[⟨5, .data⟩, ⟨6, .chain⟩, ⟨0, .phase⟩, ⟨1, .phase⟩, ⟨2, .phase⟩, ⟨3, .phase⟩, ⟨4, .phase⟩, ⟨5, .phase⟩, ⟨6, .phase⟩], none⟩) (v := ?_) rfl (by kernel_rfl) (by kernel_rfl) (by kernel_rfl) (fun _ _ _ h => h) (Or.inl ⟨by rfl, ?_⟩) (by assumption) ?_; rotate_left; (· (intro wS hSw; (try dsimp only at hSw); go_simp; (try with_reducible rfl))); try simp only [Act.put, pz1, pz2, pz3]
    refine wpAnyH_done (by kernel_rfl) ?_ _
    refine NoPanic.normal ?_
    clear hHeld
    have HC4 : ChipW wN m gx gb AF 0 cf 8 4 32 0 2 [] (ChS.new 1536 8) := hC.below HB4
    have HBN := HBC.trans (HB4.mono HBC.size)
    have hlC := hC.lt
    have hng : ¬ chB m gx gb g4 := fun e => by rcases e with rfl | rfl | rfl <;> omega
    have hlow : ∀ g, chB m gx gb g → w.heap.size ≤ g := fun g e => by rcases e with rfl | rfl | rfl <;> omega
    go_wp2_with (first
      | (go_at_call 30; go_loud (((with_reducible refine (progA9 m gx gb AF cf g4 cA _ HC4 hrA hc1 hc2 hng).mono ?_); rintro e' wN ⟨rfl, hCP, hTP⟩; have HBP := btrT HBN hTP hlow; have hgd : Good sA 23 := ((good_new 1536 8).prog HC4 2 0 rawA).mono (show (20 : Int) + 3 ≤ 23 by omega))))
      | (go_at_call 16; go_loud (((with_reducible refine (scan_ok m gx gb AF 0 cf 8 4 32 0 2 [] 8 4 23 (visF 4 48 [] sA.X 32 0) sA S1 _ hCP hgd (by omega) sA_liv.b8 rfl rfl HW1 1 HN1).mono ?_); rintro e' wN ⟨⟨A5, c5, rfl, hrF⟩, hCS, hTS, hgS, hb8S⟩; have HBS := btrT HBP hTS hlow; obtain ⟨A6, c6, hv6, hsF, -, -⟩ := hrF.sl; have hnF : ∀ b o, A5 = some ⟨b, o, none⟩ → ¬ chB m gx gb b := fun b o e e2 => (by have h1 := (own_atF hrF b (by rw [e]; rfl)); have h2 := hCP.lt; rcases e2 with rfl | rfl | rfl <;> omega); rw [HF.out] at hv6 hsF; cases hv6)))
      | (go_at_call 18; go_loud (((with_reducible refine (count_ok m gx gb AF 0 cf 8 4 32 0 2 [] 8 4 (23 + 1000) (visF 4 48 [] sA.X 32 0) S1 S2 _ hCS hgS (by omega) hb8S rfl rfl HW2 31 1 0 HP3).mono ?_); rintro e' wN ⟨rfl, hCT, hTT, -, -⟩; have HBT := btrT HBS hTT hlow; have hsF2 := SlE.tchF hsF hTT (Nat.le_refl _) hnF)))
      | (go_at_call 8; go_loud (((with_reducible refine (state_nil 0 0 _).mono ?_); rintro e' wN ⟨rfl, hbU⟩; have HBU := btr HBT HBT.size hbU; have hsF3 := hsF2.next hbU)))
      | (go_at_call 29; go_loud (((with_reducible refine (one9 _).mono ?_); rintro e' wN ⟨rfl, hbV⟩; have HBV := btr HBU HBU.size hbV; have hsF4 := hsF3.next hbV)))
      | (go_at_call 20; go_loud (((with_reducible refine (same_yes [(⟨2, 0, 1, 3, 5, 2⟩ : Fd)] A5 _ 1 c5 1 _ rfl (by omega) (hsF4.next ((Below.refl _ _).alloc (Nat.le_refl _) _)) (fd_lit _ (by simp))).mono ?_); rintro e' wN ⟨rfl, hbW⟩; have HBW := (HBV.alloc HBV.size _).trans (hbW.mono (by have := HBV.size; simp; omega))))))
    go_ret
    exact ⟨rfl, HBW⟩
end Go.Proofs.Ytcpniplfkillbaa
namespace Go.Proofs.Ytcpniplfkillbaa
open Go.ChangeShapes Go.WideShapes Go.ChangeAt Go.RowKit
structure ESet (a b c z : Int) (NA NB RW k : Nat) (S S1 S2 S3 : ChS) (n1 n2 : Nat) (acc1 acc2 : List Vis) : Prop where
  na : (NA : Int) = a
  nb : (NB : Int) = b
  rw : (RW : Int) = c + 16
  r1 : 40 ≤ RW
  r2 : RW ≤ 80
  b1 : 4 ≤ NB
  b2 : NB ≤ 8
  kz : Hid ((k : Int) = lowI z a)
  k1 : k < NA
  w1 : Hid (walkF a b c NB [] (NA * NB) 0 S [] = (0, acc1, S1))
  m1 : Hid ((fdsOf acc1).length = n1)
  q1 : n1 ≤ 1000000
  l1 : Liv S1
  er : Hid (S1.eraseZ a [] (lowI z a) = 0 ∧ S1.eraseS a b c [] (lowI z a) = S2)
  l2 : Liv S2
  w2 : Hid (walkF a b c NB [] (NA * NB) 0 S2 [] = (0, acc2, S3))
  m2 : Hid ((fdsOf acc2).length = n2)
  q2 : n2 ≤ 1000000
  l3 : Liv S3
  fd : Hid (fdsOf acc2 = (fdsOf acc1).filter (fun f => decide (f.b ≠ lowI z a)))
  pg : ∀ l, l < NB → pg S3.X RW (k * NB + l) = List.replicate RW 255
end Go.Proofs.Ytcpniplfkillbaa
namespace Go.Proofs.Ytcpniplfkillbaa
open Go.ChangeShapes Go.WideShapes Go.ChangeAt Go.RowKit
attribute [local go_sem ↓] Go.wp_at_zero Go.wp_at_succ
theorem st4_tch (w : World) (g : Nat) (u0 u1 u2 u3 : Value) : Tch (fun x => x = g) w (st4 w g u0 u1 u2 u3) :=
  ((((Tch.setm w g 0 u0).trans (Tch.setm _ g 1 u1)).trans (Tch.setm _ g 2 u2)).trans (Tch.setm _ g 3 u3))
theorem load_yes (m gx gb : Nat) (Af : Option Addr) (nf cf : Nat) (a b c d e : Int) (fs : List Flt) (x y : Int) (n0 : Int) (w : World) (s : ChS) (hC : ChipW w m gx gb Af nf cf a b c d e fs s) (hs : Fine s n0) (hn0 : n0 ≤ 900000000) (D : List Nat) (n K P S E st : Nat) (S1 : ChS) (bs : List Nat) (h8 : Bytes8 bs) (hl : bs.length ≤ 1000000) (hZ : Hid (s.readZ a b x y = 0 ∧ s.readB a b c x y = bs ∧ s.readS a b x y = S1)) (hk : Hid (Lk bs D n K P S E st)) (hst : st = 1) :
    Calls Try.prog 10 #[.pointer (some ⟨m, 0, none⟩), .agg #[.int .i64 x, .int .i64 y]] w fun e' w' => (∃ A' c', e' = .returned (.tuple #[.slice A' n c', .agg #[.int .i64 (K : Nat), .int .i64 (P : Nat), .int .i64 (S : Nat), .int .i64 (E : Nat)], .int .i64 0]) ∧ w'.ownsRow w.heap.size 5 1 (.slice A' n c') n (D.map byteV)) ∧ ChipW w' m gx gb Af nf cf a b c d e fs S1 ∧ Tch (chB m gx gb) w w' := by
  have hB0 : Below w.heap.size w ((w.alloc (.cells #[.int .i64 x, .int .i64 y] 27)).alloc (.cells #[.int .i64 0, .int .i64 0, .int .i64 0, .int .i64 0] 40)) := ((Below.refl _ _).alloc (Nat.le_refl _) _).alloc (by simp) _
  have hC1 := hC.below hB0
  have G1 : Blk ((w.alloc (.cells #[.int .i64 x, .int .i64 y] 27)).alloc (.cells #[.int .i64 0, .int .i64 0, .int .i64 0, .int .i64 0] 40)) (w.heap.size + 1) 40 #[.int .i64 0, .int .i64 0, .int .i64 0, .int .i64 0] := blk_new (by simp)
  have hnt : ¬ chB m gx gb (w.heap.size + 1) := fun e => by have := hC.lt; rcases e with e | e | e <;> omega
  subst hst
  go_enter Try.func10, Try.ntmps10
  go_upto_region 4 with (go_at_call 34; go_loud (((with_reducible refine (look_yes m gx gb Af nf cf a b c d e fs x y n0 _ s hC1 hs hn0 D n K P S E 1 S1 bs h8 hl hZ hk).mono ?_); rintro e' wL ⟨⟨A2, c2, rfl, hoL⟩, hCL, hTL⟩; have hTL2 := (Tch.of_below (S := chB m gx gb) hB0).trans hTL; have GL := hTL.blk G1 hnt; have hszL := hTL.size)))
  have HCN := (ChN.start hC).next hCL
  obtain ⟨wP, hwP⟩ : ∃ V : World, V = wL.alloc (.cells #[.slice A2 n c2, .int .i64 (K : Nat), .int .i64 (P : Nat), .int .i64 (S : Nat), .int .i64 (E : Nat), .int .i64 1] 83) := ⟨_, rfl⟩
  have HP : Blk wP wL.heap.size 83 #[.slice A2 n c2, .int .i64 (K : Nat), .int .i64 (P : Nat), .int .i64 (S : Nat), .int .i64 (E : Nat), .int .i64 1] := by rw [hwP]; exact Blk.new_ _ _ _
  have GP : Blk wP (w.heap.size + 1) 40 #[.int .i64 0, .int .i64 0, .int .i64 0, .int .i64 0] := by rw [hwP]; exact GL.alloc_ _
  have hBP : Below wL.heap.size wL wP := by rw [hwP]; exact (Below.refl _ _).alloc (Nat.le_refl _) _
  rw [← hwP]
  clear hwP
  have gz := GP.free
  obtain ⟨z0, z1, z2, z3⟩ : _ ∧ _ ∧ _ ∧ _ := ⟨GP.cell_ 0, GP.cell_ 1, GP.cell_ 2, GP.cell_ 3⟩
  simp at z0 z1 z2 z3
  obtain ⟨p0, p1, p2, p3, p4, p5⟩ := cells6 HP
  have hgL := GL.lt
  have HP4 := st4_far HP (show wL.heap.size ≠ w.heap.size + 1 by omega) (.int .i64 (K : Nat)) (.int .i64 (P : Nat)) (.int .i64 (S : Nat)) (.int .i64 (E : Nat))
  obtain ⟨q0, q1, q2, q3, q4, q5⟩ := cells6 HP4
  have HT4 := st4_blk GP (.int .i64 (K : Nat)) (.int .i64 (P : Nat)) (.int .i64 (S : Nat)) (.int .i64 (E : Nat))
  have HO4 := st4_own (g := w.heap.size + 1) (own_below hoL hBP) (show w.heap.size + 1 < ((w.alloc (.cells #[.int .i64 x, .int .i64 y] 27)).alloc (.cells #[.int .i64 0, .int .i64 0, .int .i64 0, .int .i64 0] 40)).heap.size by simp) (.int .i64 (K : Nat)) (.int .i64 (P : Nat)) (.int .i64 (S : Nat)) (.int .i64 (E : Nat))
  have HB4 : Below w.heap.size wP (st4 wP (w.heap.size + 1) (.int .i64 (K : Nat)) (.int .i64 (P : Nat)) (.int .i64 (S : Nat)) (.int .i64 (E : Nat))) := st4_below (Below.refl _ _) (by omega) (.int .i64 (K : Nat)) (.int .i64 (P : Nat)) (.int .i64 (S : Nat)) (.int .i64 (E : Nat))
  obtain ⟨wz, hwz⟩ : ∃ V : World, V = World.drew (st4 wP (w.heap.size + 1) (.int .i64 (K : Nat)) (.int .i64 (P : Nat)) (.int .i64 (S : Nat)) (.int .i64 (E : Nat))) := ⟨_, rfl⟩
  have TZ := st4_tch wP (w.heap.size + 1) (.int .i64 (K : Nat)) (.int .i64 (P : Nat)) (.int .i64 (S : Nat)) (.int .i64 (E : Nat))
  have hCZ0 := ((HCN.below_ (hBP.mono (Nat.le_refl _))).far TZ (fun g hg => by subst hg; omega)).chip
  have hCZ : ChipW (World.drew (st4 wP (w.heap.size + 1) (.int .i64 (K : Nat)) (.int .i64 (P : Nat)) (.int .i64 (S : Nat)) (.int .i64 (E : Nat)))) m gx gb Af nf cf a b c d e fs S1 := hCZ0.like
  have hTZ0 : Tch (chB m gx gb) w (st4 wP (w.heap.size + 1) (.int .i64 (K : Nat)) (.int .i64 (P : Nat)) (.int .i64 (S : Nat)) (.int .i64 (E : Nat))) := (((hTL2.then hBP).mono (S' := fun g => chB m gx gb g ∨ w.heap.size ≤ g) (fun g hg => Or.inl hg)).trans (TZ.mono (fun g hg => by subst hg; exact Or.inr (Nat.le_succ _)))).monoL (fun g hg h => by rcases h with h | h; exact h; omega)
  have hTZ : Tch (chB m gx gb) w (World.drew (st4 wP (w.heap.size + 1) (.int .i64 (K : Nat)) (.int .i64 (P : Nat)) (.int .i64 (S : Nat)) (.int .i64 (E : Nat)))) := hTZ0.like
  have hoZ : (World.drew (st4 wP (w.heap.size + 1) (.int .i64 (K : Nat)) (.int .i64 (P : Nat)) (.int .i64 (S : Nat)) (.int .i64 (E : Nat)))).ownsRow w.heap.size 5 1 (.slice A2 n c2) n (D.map byteV) := own_base HO4 (show w.heap.size ≤ ((w.alloc (.cells #[.int .i64 x, .int .i64 y] 27)).alloc (.cells #[.int .i64 0, .int .i64 0, .int .i64 0, .int .i64 0] 40)).heap.size by simp; omega)
  have HT5 : Blk (World.drew (st4 wP (w.heap.size + 1) (.int .i64 (K : Nat)) (.int .i64 (P : Nat)) (.int .i64 (S : Nat)) (.int .i64 (E : Nat)))) (w.heap.size + 1) 40 _ := HT4
  have r0 : (World.drew (st4 wP (w.heap.size + 1) (.int .i64 (K : Nat)) (.int .i64 (P : Nat)) (.int .i64 (S : Nat)) (.int .i64 (E : Nat)))).cell? ⟨w.heap.size + 1, 0, none⟩ = some (.int .i64 (K : Nat)) := HT5.cell_ 0
  have r1 : (World.drew (st4 wP (w.heap.size + 1) (.int .i64 (K : Nat)) (.int .i64 (P : Nat)) (.int .i64 (S : Nat)) (.int .i64 (E : Nat)))).cell? ⟨w.heap.size + 1, 1, none⟩ = some (.int .i64 (P : Nat)) := HT5.cell_ 1
  have r2 : (World.drew (st4 wP (w.heap.size + 1) (.int .i64 (K : Nat)) (.int .i64 (P : Nat)) (.int .i64 (S : Nat)) (.int .i64 (E : Nat)))).cell? ⟨w.heap.size + 1, 2, none⟩ = some (.int .i64 (S : Nat)) := HT5.cell_ 2
  have r3 : (World.drew (st4 wP (w.heap.size + 1) (.int .i64 (K : Nat)) (.int .i64 (P : Nat)) (.int .i64 (S : Nat)) (.int .i64 (E : Nat)))).cell? ⟨w.heap.size + 1, 3, none⟩ = some (.int .i64 (E : Nat)) := HT5.cell_ 3
  rw [← hwz] at hCZ hTZ hoZ r0 r1 r2 r3
  clear HO4 HB4 TZ HP4 HT4 HT5 hCZ0 hTZ0
  refine wp_region_noPanic ?_
  refine wp_region_held_drew (S := (fun w' => w'.cell? ⟨wL.heap.size, 0, none⟩ = some (.slice A2 n c2) ∧ w'.cell? ⟨wL.heap.size, 1, none⟩ = some (.int .i64 (K : Nat)) ∧ w'.cell? ⟨wL.heap.size, 2, none⟩ = some (.int .i64 (P : Nat)) ∧ w'.cell? ⟨wL.heap.size, 3, none⟩ = some (.int .i64 (S : Nat)) ∧ w'.cell? ⟨wL.heap.size, 4, none⟩ = some (.int .i64 (E : Nat)) ∧ w'.cell? ⟨wL.heap.size, 5, none⟩ = some (.int .i64 1))) (by kernel_rfl) ?_ (fun hHeld => ?_)
  · (first | with_reducible exact ⟨p0, p1, p2, p3, p4, p5⟩ | exact ⟨q0, q1, q2, q3, q4, q5⟩ | assumption | exact ⟨p0, p1, p2, p3, p4, p5⟩)
  refine wpAnyH_take (i := 0) (oi := ⟨some 22, .fieldAddr 83 (.tmp 7) 0, 0, "leaf.go:39", #[], none⟩) (v := ?_) rfl (by kernel_rfl) (by kernel_rfl) (by kernel_rfl) (fun _ _ _ h => h) (Or.inl ⟨by rfl, ?_⟩) (by assumption) ?_; rotate_left; (· (intro wS hSw; (try dsimp only at hSw); go_simp; (try with_reducible rfl))); try simp only [Act.put, pz1, pz2, pz3]
  refine wpAnyH_take (i := 1) (oi := ⟨some 23, .load 38 (.tmp 22), 38, "leaf.go:39", #[⟨0, .data⟩], none⟩) (v := ?_) rfl (by kernel_rfl) (by kernel_rfl) (by kernel_rfl) (fun _ _ _ h => h) (Or.inl ⟨by rfl, ?_⟩) (by assumption) ?_; rotate_left; (· (intro wS hSw; (try dsimp only at hSw); go_simp; (try with_reducible rfl))); try simp only [Act.put, pz1, pz2, pz3]
  refine wpAnyH_take (i := 2) (oi := ⟨some 24, .fieldAddr 83 (.tmp 7) 1, 0, "leaf.go:39", #[{ on := 5, ground := Ground.gcOnly Departure.lateStores }], none⟩) (v := ?_) rfl (by kernel_rfl) (by kernel_rfl) (by kernel_rfl) (fun _ _ _ h => h) (Or.inl ⟨by rfl, ?_⟩) (by assumption) ?_; rotate_left; (· (intro wS hSw; (try dsimp only at hSw); go_simp; (try with_reducible rfl))); try simp only [Act.put, pz1, pz2, pz3]
  refine wpAnyH_take (i := 3) (oi := ⟨some 25, .load 40 (.tmp 24), 40, "leaf.go:39", #[⟨2, .data⟩, { on := 5, ground := Ground.gcOnly Departure.lateStores }], none⟩) (v := ?_) rfl (by kernel_rfl) (by kernel_rfl) (by kernel_rfl) (fun _ _ _ h => h) (Or.inl ⟨by rfl, ?_⟩) (by assumption) ?_; rotate_left; (· (intro wS hSw; (try dsimp only at hSw); go_simp; (try with_reducible rfl))); try simp only [Act.put, pz1, pz2, pz3]
  refine wpAnyH_take (i := 4) (oi := ⟨some 26, .move (.tmp 8), 33, "leaf.go:39", #[{ on := 6, ground := Ground.gcOnly Departure.lateStores }], none⟩) (v := ?_) rfl (by kernel_rfl) (by kernel_rfl) (by kernel_rfl) (fun _ _ _ h => h) (Or.inl ⟨by rfl, ?_⟩) (by assumption) ?_; rotate_left; (· (intro wS hSw; (try dsimp only at hSw); go_simp; (try with_reducible rfl))); try simp only [Act.put, pz1, pz2, pz3]
  refine wpAnyH_take (i := 5) (oi := ⟨some 4, .assign (.tmp 23), 38, "leaf.go:39", #[⟨1, .data⟩, ⟨0, .phase⟩, ⟨1, .phase⟩, { on := 2, ground := Ground.textOnly Departure.lateStores }, { on := 3, ground := Ground.textOnly Departure.lateStores }, { on := 4, ground := Ground.textOnly Departure.lateStores }], none⟩) (v := ?_) rfl (by kernel_rfl) (by kernel_rfl) (by kernel_rfl) (fun _ _ _ h => h) (Or.inl ⟨by rfl, ?_⟩) (by assumption) ?_; rotate_left; (· (intro wS hSw; (try dsimp only at hSw); go_simp; (try with_reducible rfl))); try simp only [Act.put, pz1, pz2, pz3]
  refine wpAnyH_ready (rs := [6]) (by kernel_rfl) (by simp) ?_
  refine AllReadyH.cons (o := ⟨none, .store 40 (.tmp 5) (.tmp 25), 0, "leaf.go:39", #[⟨3, .data⟩, ⟨5, .chain⟩, ⟨0, .phase⟩, ⟨1, .phase⟩, ⟨2, .phase⟩, ⟨3, .phase⟩, { on := 4, ground := Ground.textOnly Departure.lateStores }, ⟨5, .phase⟩], none⟩) rfl (fun K hK => ?_) AllReadyH.nil
  go_simp
  refine hK.out _ _ ?_ (fun hNew => ?_)
  · (first | with_reducible exact ⟨p0, p1, p2, p3, p4, p5⟩ | exact ⟨q0, q1, q2, q3, q4, q5⟩ | assumption | exact ⟨p0, p1, p2, p3, p4, p5⟩)
  clear hK K hHeld
  have hHeld := hNew
  clear hNew
  try simp only [Act.put, pz1, pz2, pz3]
  refine wpAnyH_take (i := 7) (oi := ⟨some 6, .assign (.tmp 26), 33, "leaf.go:39", #[⟨4, .data⟩, ⟨6, .chain⟩, ⟨0, .phase⟩, ⟨1, .phase⟩, ⟨2, .phase⟩, ⟨3, .phase⟩, ⟨4, .phase⟩, ⟨5, .phase⟩, ⟨6, .phase⟩], none⟩) (v := ?_) rfl (by kernel_rfl) (by kernel_rfl) (by kernel_rfl) (fun _ _ _ h => h) (Or.inl ⟨by rfl, ?_⟩) (by assumption) ?_; rotate_left; (· (intro wS hSw; (try dsimp only at hSw); go_simp; (try with_reducible rfl))); try simp only [Act.put, pz1, pz2, pz3]
  refine wpAnyH_done (by kernel_rfl) ?_ _
  refine NoPanic.normal ?_
  clear hHeld
  go_wp2_with fail
  show bodyPost _ _ _ _ _ (World.drew (st4 wP (w.heap.size + 1) (.int .i64 (K : Nat)) (.int .i64 (P : Nat)) (.int .i64 (S : Nat)) (.int .i64 (E : Nat))))
  rw [← hwz]
  refine bodyPost_ret (v := .tuple #[.slice A2 n c2, .agg #[.int .i64 (K : Nat), .int .i64 (P : Nat), .int .i64 (S : Nat), .int .i64 (E : Nat)], .int .i64 0]) (by simp [results, Try.results10, go_sem, r0, r1, r2, r3]) rfl ⟨⟨_, _, rfl, hoZ⟩, hCZ, hTZ⟩
end Go.Proofs.Ytcpniplfkillbaa
namespace Go.Proofs.Ytcpniplfkillbaa
open Go.ChangeShapes Go.WideShapes Go.ChangeAt Go.RowKit
theorem visF_addX {NB RW : Nat} {fs : List Flt} {X : List Nat} : ∀ (r1 r2 i : Nat), visF NB RW fs X (r1 + r2) i = visF NB RW fs X r1 i ++ visF NB RW fs X r2 (i + r1)
  | 0, r2, i => by simp [visF]
  | r1 + 1, r2, i => by
    rw [show r1 + 1 + r2 = (r1 + r2) + 1 by omega, visF, visF, visF_addX r1 r2 (i + 1), show i + 1 + r1 = i + (r1 + 1) by omega, List.append_assoc]
def goodN (fs : List Flt) : Nat → Nat
  | 0 => 0
  | j + 1 => if badB fs (j : Int) = true then goodN fs j else goodN fs j + 1
theorem vis_blk {NB RW k : Nat} {fs : List Flt} {X : List Nat} : ∀ (r i : Nat), k * NB ≤ i → i + r ≤ (k + 1) * NB → (visF NB RW fs X r i).length = if badB fs (k : Int) = true then 0 else r
  | 0, i, _, _ => by simp [visF]
  | r + 1, i, h1, h2 => by
    have hq : i / NB = k := by
      refine Nat.div_eq_of_lt_le h1 ?_
      omega
    rw [visF, List.length_append, vis_blk (NB := NB) (k := k) r (i + 1) (by omega) (by omega), hq]
    by_cases hb : badB fs (k : Int) = true
    · rw [if_pos hb, if_pos hb, if_pos hb]
      rfl
    · rw [if_neg hb, if_neg hb, if_neg hb, List.length_singleton]
      omega
theorem vis_all {NB RW : Nat} {fs : List Flt} {X : List Nat} : ∀ (j : Nat), (visF NB RW fs X (j * NB) 0).length = goodN fs j * NB
  | 0 => by simp [visF, goodN]
  | j + 1 => by
    rw [Nat.add_mul, Nat.one_mul, visF_addX, List.length_append, vis_all j, vis_blk (NB := NB) (k := j) NB (0 + j * NB) (by rw [Nat.zero_add]; exact Nat.le_refl _) (by rw [Nat.zero_add, Nat.succ_mul]; exact Nat.le_refl _), goodN]
    split
    · rw [Nat.add_zero]
    · rw [Nat.succ_mul]
theorem cnt_sum : ∀ (l : List Vis), cnt (fun s => s == 0) l + cnt (fun s => s == 1) l + cnt (fun s => !(s == 0 || s == 1)) l = l.length
  | [] => rfl
  | v :: l => by
    have h := cnt_sum l
    rw [cnt_cons, cnt_cons, cnt_cons, List.length_cons]
    revert h
    generalize cnt (fun s => s == 0) l = A
    generalize cnt (fun s => s == 1) l = B
    generalize cnt (fun s => !(s == 0 || s == 1)) l = C
    intro h
    by_cases h0 : readSt v.2.2 = 0
    · rw [h0]
      simp
      omega
    · by_cases h1 : readSt v.2.2 = 1
      · rw [h1]
        simp
        omega
      · simp [h0, h1]
        omega
theorem fds_cnt : ∀ (l : List Vis), (fdsOf l).length = cnt (fun s => s == 1) l
  | [] => rfl
  | v :: l => by
    have h := fds_cnt l
    rw [fds_cons, cnt_cons, List.length_append, h]
    congr 1
    unfold fdOf
    by_cases h1 : readSt v.2.2 = 1
    · rw [if_pos h1, h1]
      rfl
    · rw [if_neg h1]
      simp [h1]
def idxF (NB RW : Nat) (fs : List Flt) (X : List Nat) : Nat → Nat → List Nat
  | 0, _ => []
  | r + 1, i => (if badB fs ((i / NB : Nat) : Int) = true then [] else if readSt (pg X RW i) = 1 then [i] else []) ++ idxF NB RW fs X r (i + 1)
def fdI (NB RW : Nat) (X : List Nat) (i : Nat) : Fd := ⟨((i / NB : Nat) : Int), ((i % NB : Nat) : Int), ((lkT (pg X RW i)).1 : Int), ((lkT (pg X RW i)).2.1 : Int), ((lkT (pg X RW i)).2.2.1 : Int), ((lkT (pg X RW i)).2.2.2 : Int)⟩
theorem fds_idx {NB RW : Nat} {fs : List Flt} {X : List Nat} : ∀ (r i : Nat), fdsOf (visF NB RW fs X r i) = (idxF NB RW fs X r i).map (fdI NB RW X)
  | 0, i => rfl
  | r + 1, i => by
    rw [visF, idxF, fds_app, List.map_append, fds_idx r (i + 1)]
    congr 1
    by_cases hb : badB fs ((i / NB : Nat) : Int) = true
    · rw [if_pos hb, if_pos hb]
      rfl
    · rw [if_neg hb, if_neg hb, fds_cons]
      unfold fdOf
      by_cases h1 : readSt (pg X RW i) = 1
      · rw [if_pos h1, if_pos h1]
        rfl
      · rw [if_neg h1, if_neg h1]
        rfl
theorem idx_mem {NB RW : Nat} {fs : List Flt} {X : List Nat} : ∀ (r i j : Nat), j ∈ idxF NB RW fs X r i → i ≤ j ∧ j < i + r ∧ badB fs ((j / NB : Nat) : Int) = false ∧ readSt (pg X RW j) = 1
  | 0, i, j, h => by cases h
  | r + 1, i, j, h => by
    rw [idxF, List.mem_append] at h
    rcases h with h | h
    · by_cases hb : badB fs ((i / NB : Nat) : Int) = true
      · rw [if_pos hb] at h
        cases h
      · rw [if_neg hb] at h
        by_cases h1 : readSt (pg X RW i) = 1
        · rw [if_pos h1, List.mem_singleton] at h
          subst h
          exact ⟨Nat.le_refl _, by omega, by simpa using hb, h1⟩
        · rw [if_neg h1] at h
          cases h
    · obtain ⟨h1, h2, h3, h4⟩ := idx_mem r (i + 1) j h
      exact ⟨by omega, by omega, h3, h4⟩
theorem idx_lt {NB RW : Nat} {fs : List Flt} {X : List Nat} : ∀ (r i m x y : Nat), (idxF NB RW fs X r i)[m]? = some x → (idxF NB RW fs X r i)[m + 1]? = some y → x < y
  | 0, i, m, x, y, h, _ => by simp [idxF] at h
  | r + 1, i, m, x, y, hx, hy => by
    rw [idxF] at hx hy
    by_cases hb : badB fs ((i / NB : Nat) : Int) = true
    · rw [if_pos hb, List.nil_append] at hx hy
      exact idx_lt r (i + 1) m x y hx hy
    · rw [if_neg hb] at hx hy
      by_cases h1 : readSt (pg X RW i) = 1
      · rw [if_pos h1, List.singleton_append] at hx hy
        rw [List.getElem?_cons_succ] at hy
        cases m with
        | zero =>
          rw [List.getElem?_cons_zero] at hx
          cases hx
          have := (idx_mem r (i + 1) y (List.mem_of_getElem? hy)).1
          omega
        | succ m =>
          rw [List.getElem?_cons_succ] at hx
          exact idx_lt r (i + 1) m x y hx hy
      · rw [if_neg h1, List.nil_append] at hx hy
        exact idx_lt r (i + 1) m x y hx hy
end Go.Proofs.Ytcpniplfkillbaa
namespace Go.Proofs.Ytcpniplfkillbaa
open Go.ChangeShapes Go.WideShapes Go.ChangeAt Go.RowKit
structure CSet (a b c : Int) (fs : List Flt) (NA NB RW : Nat) (S S1 S2 : ChS) (p q r : Nat) (acc : List Vis) (idx : List Nat) : Prop where
  na : (NA : Int) = a
  nb : (NB : Int) = b
  rw : (RW : Int) = c + 16
  r1 : 40 ≤ RW
  r2 : RW ≤ 80
  a2 : NA ≤ 20
  b1 : 4 ≤ NB
  b2 : NB ≤ 8
  w1 : Hid (walkF a b c NB fs (NA * NB) 0 S [] = (0, acc, S1))
  l1 : Liv S1
  w2 : Hid (walkF a b c NB fs (NA * NB) 0 S1 [] = (0, acc, S2))
  l2 : Liv S2
  cn : Hid (cnt (fun s => s == 0) acc = p ∧ cnt (fun s => s == 1) acc = q ∧ cnt (fun s => !(s == 0 || s == 1)) acc = r)
  fn : Hid ((fdsOf acc).length = q)
  sum : Hid ((p : Int) + (q : Int) + (r : Int) = ((goodN fs NA : Nat) : Int) * b)
  sm : p + q + r ≤ 160
  fd : Hid (fdsOf acc = idx.map (fdI NB RW S2.X))
  mem : ∀ i, i ∈ idx → i < NA * NB ∧ badB fs ((i / NB : Nat) : Int) = false ∧ readSt (pg S2.X RW i) = 1
  lt : ∀ m x y, idx[m]? = some x → idx[m + 1]? = some y → x < y
theorem goodN_le (fs : List Flt) : ∀ j, goodN fs j ≤ j
  | 0 => Nat.le_refl _
  | j + 1 => by
    have := goodN_le fs j
    rw [goodN]
    split <;> omega
theorem cset {w : World} {m gx gb : Nat} {Af : Option Addr} {nf cf : Nat} {a b c d e : Int} {fs : List Flt} {S : ChS} (hC : ChipW w m gx gb Af nf cf a b c d e fs S) (hL : Liv S) : ∃ NA NB RW S1 S2 p q r acc idx, CSet a b c fs NA NB RW S S1 S2 p q r acc idx := by
  obtain ⟨hm, -, -⟩ := planMay_bd hC.may
  obtain ⟨g1, g2, g3, g4, g5, g6, -⟩ := may_bd hm
  obtain ⟨NA, hA⟩ : ∃ NA : Nat, (NA : Int) = a := ⟨a.toNat, by omega⟩
  obtain ⟨NB, hB⟩ : ∃ NB : Nat, (NB : Int) = b := ⟨b.toNat, by omega⟩
  obtain ⟨RW, hR⟩ : ∃ RW : Nat, (RW : Int) = c + 16 := ⟨(c + 16).toNat, by omega⟩
  have hab : NA * NB ≤ 20 * 8 := Nat.mul_le_mul (by omega) (by omega)
  obtain ⟨S1, h1, h2, h3⟩ := walkF_liv (a := a) (b := b) (c := c) (NA := NA) (NB := NB) (RW := RW) (fs := fs) hA hB hR (by omega) (NA * NB) 0 S [] (by omega) hL
  rw [List.nil_append] at h1
  obtain ⟨S2, h4, h5, h6⟩ := walkF_liv (a := a) (b := b) (c := c) (NA := NA) (NB := NB) (RW := RW) (fs := fs) hA hB hR (by omega) (NA * NB) 0 S1 [] (by omega) h3
  rw [List.nil_append, h2] at h4
  have hsum := cnt_sum (visF NB RW fs S.X (NA * NB) 0)
  have hlen : (visF NB RW fs S.X (NA * NB) 0).length = goodN fs NA * NB := vis_all NA
  have hfc := fds_cnt (visF NB RW fs S.X (NA * NB) 0)
  have hgl := goodN_le fs NA
  have hgm : goodN fs NA * NB ≤ NA * NB := Nat.mul_le_mul_right _ hgl
  refine ⟨NA, NB, RW, S1, S2, _, _, _, _, idxF NB RW fs S2.X (NA * NB) 0, hA, hB, hR, by omega, by omega, by omega, by omega, by omega, Lib.hid h1, h3, Lib.hid h4, h6, Lib.hid ⟨rfl, rfl, rfl⟩, Lib.hid hfc, Lib.hid ?_, ?_, Lib.hid ?_, ?_, ?_⟩
  · rw [← hB, ← Int.natCast_mul, ← hlen, ← hsum]
    simp
  · rw [hsum, hlen]
    omega
  · rw [h5, h2, fds_idx]
  · intro i hi
    obtain ⟨-, k2, k3, k4⟩ := idx_mem (NA * NB) 0 i hi
    exact ⟨by omega, k3, k4⟩
  · intro m x y hx hy
    exact idx_lt _ _ m x y hx hy
theorem both_cnt (a b c d e : Int) (A1 : Option Addr) (c1 : Nat) (fs : List Flt) (A : Option Addr) (len cap : Nat) (es : List (List Value)) (w : World) (hq1 : fs.length ≤ c1) (hq2 : c1 ≤ maxLen) (hsf : SlF w w.heap.size A1 fs) (hf20 : fs.length ≤ 20) (hlen : es.length = len) (hl60 : len ≤ 60) (hsl : SlE 8 w w.heap.size A es) (hfl : ∀ x ∈ es, Flat [some .i64, some .i64, some .u8, some .i64, some .i64, some .i64, some .i64, some .i64] x) :
    Calls Try.prog 7 #[.agg #[.int .i64 a, .int .i64 b, .int .i64 c, .int .i64 d, .int .i64 e], .slice A1 fs.length c1, .slice A len cap] w fun e' w' => ((e' = .returned (.tuple #[.pointer none, .pointer none, .bool true])) ∨ (∃ (m gx gb : Nat) (AF : Option Addr) (cf mR : Nat) (S : ChS), e' = .returned (.tuple #[.pointer (some ⟨m, 0, none⟩), .pointer (some ⟨mR, 0, none⟩), .bool true]) ∧ ChipW w' m gx gb AF fs.length cf a b c d e fs S ∧ Good S (20 + 3 * (len : Int)) ∧ Liv S ∧ (∀ g, chB m gx gb g → w.heap.size < g) ∧ ∃ NA NB RW S1 S2 p q r acc idx, CSet a b c fs NA NB RW S S1 S2 p q r acc idx)) ∧ Below w.heap.size w w' := by
  refine (both_any a b c d e A1 c1 fs A len cap es w hq1 hq2 hsf hf20 hlen hl60 hsl hfl).mono ?_
  rintro e' w' ⟨h, hb⟩
  refine ⟨?_, hb⟩
  rcases h with ⟨rfl, _⟩ | ⟨L, m, gx, gb, AF, cf, mR, gB, gN, gW, gD, AF2, cf2, S, rfl, h1, h2, h3, h4⟩
  · exact Or.inl rfl
  · exact Or.inr ⟨m, gx, gb, AF, cf, mR, S, rfl, h1.cl.chip, h2, h3, fun g hg => h4 g (Or.inl hg), cset h1.cl.chip h3⟩
end Go.Proofs.Ytcpniplfkillbaa
namespace Go.Proofs.Ytcpniplfkillbaa
open Go.ChangeShapes Go.WideShapes Go.ChangeAt Go.RowKit
theorem state_found (m gx gb : Nat) (Af : Option Addr) (nf cf : Nat) (a b c d e : Int) (fs : List Flt) (NA NB RW i : Nat) (n0 : Int) (w : World) (s : ChS) (hC : ChipW w m gx gb Af nf cf a b c d e fs s) (hg : Good s n0) (hn0 : n0 ≤ 800000000) (hL : Liv s) (hNA : (NA : Int) = a) (hNB : (NB : Int) = b) (hRW : (RW : Int) = c + 16) (h0 : 0 < NB) (hR2 : RW ≤ 80) (hi : i < NA * NB) (hst : readSt (pg s.X RW i) = 1) (u v : Int) (hu : Hid (((i / NB : Nat) : Int) = u ∧ ((i % NB : Nat) : Int) = v)) :
    Calls Try.prog 8 #[.pointer (some ⟨m, 0, none⟩), .agg #[.int .i64 u, .int .i64 v]] w fun e' w' => e' = .returned (.tuple #[.int .i64 1, .int .i64 0]) ∧ ∃ S1, ChipW w' m gx gb Af nf cf a b c d e fs S1 ∧ Tch (chB m gx gb) w w' ∧ Good S1 (n0 + 3) ∧ Liv S1 ∧ S1.X = s.X := by
  obtain ⟨rfl, rfl⟩ := hu.out
  obtain ⟨z1, z2⟩ := live_read (c := c) hL hNA hNB hRW h0 hi
  obtain ⟨D, n, K, P, S, E, st, hlk⟩ := Lk.ex (pg s.X RW i)
  have hst1 : st = 1 := by rw [← hlk.st]; exact hst
  subst hst1
  have h8 : Bytes8 (pg s.X RW i) := fun x hx => hL.b8 x (List.mem_of_mem_drop (List.mem_of_mem_take hx))
  refine (state_yes m gx gb Af nf cf a b c d e fs _ _ n0 w s hC hg.fine (by omega) D n K P S E 1 (s.readS a b _ _) (pg s.X RW i) h8 (by unfold pg; rw [List.length_take]; omega) (Lib.hid ⟨z1, z2, rfl⟩) (Lib.hid hlk)).mono ?_
  rintro e' w' ⟨rfl, h3, h4⟩
  exact ⟨rfl, _, h3, h4, hg.read a b _ _, hL.read a b _ _, readS_X s a b _ _⟩
theorem load_found (m gx gb : Nat) (Af : Option Addr) (nf cf : Nat) (a b c d e : Int) (fs : List Flt) (NA NB RW i : Nat) (n0 : Int) (w : World) (s : ChS) (hC : ChipW w m gx gb Af nf cf a b c d e fs s) (hg : Good s n0) (hn0 : n0 ≤ 800000000) (hL : Liv s) (hNA : (NA : Int) = a) (hNB : (NB : Int) = b) (hRW : (RW : Int) = c + 16) (h0 : 0 < NB) (hR2 : RW ≤ 80) (hi : i < NA * NB) (hst : readSt (pg s.X RW i) = 1) (u v : Int) (hu : Hid (((i / NB : Nat) : Int) = u ∧ ((i % NB : Nat) : Int) = v)) (K P S E : Nat) (hT : Hid (lkT (pg s.X RW i) = (K, P, S, E))) :
    Calls Try.prog 10 #[.pointer (some ⟨m, 0, none⟩), .agg #[.int .i64 u, .int .i64 v]] w fun e' w' => (∃ A' n' c', e' = .returned (.tuple #[.slice A' n' c', .agg #[.int .i64 (K : Nat), .int .i64 (P : Nat), .int .i64 (S : Nat), .int .i64 (E : Nat)], .int .i64 0])) ∧ ∃ S1, ChipW w' m gx gb Af nf cf a b c d e fs S1 ∧ Tch (chB m gx gb) w w' ∧ Good S1 (n0 + 3) ∧ Liv S1 ∧ S1.X = s.X := by
  obtain ⟨rfl, rfl⟩ := hu.out
  obtain ⟨z1, z2⟩ := live_read (c := c) hL hNA hNB hRW h0 hi
  have hlk : Lk (pg s.X RW i) (lkD (pg s.X RW i)) (lkD (pg s.X RW i)).length K P S E 1 := ⟨rfl, rfl, hT.out, hst⟩
  have h8 : Bytes8 (pg s.X RW i) := fun x hx => hL.b8 x (List.mem_of_mem_drop (List.mem_of_mem_take hx))
  refine (load_yes m gx gb Af nf cf a b c d e fs _ _ n0 w s hC hg.fine (by omega) _ _ K P S E 1 (s.readS a b _ _) (pg s.X RW i) h8 (by unfold pg; rw [List.length_take]; omega) (Lib.hid ⟨z1, z2, rfl⟩) (Lib.hid hlk) rfl).mono ?_
  rintro e' w' ⟨⟨A', c', rfl, -⟩, h3, h4⟩
  exact ⟨⟨_, _, _, rfl⟩, _, h3, h4, hg.read a b _ _, hL.read a b _ _, readS_X s a b _ _⟩
theorem num_at {a b : Int} {NA NB i : Nat} (hA : (NA : Int) = a) (hB : (NB : Int) = b) (h0 : 0 < NB) (h : i < NA * NB) : numberI a b ((i / NB : Nat) : Int) ((i % NB : Nat) : Int) = (i : Int) := by
  have ht := there_in hA hB h0 h
  obtain ⟨h1, h2, h3⟩ := divmod h0 h
  have e1 : ((i / NB : Nat) : Int) * b + ((i % NB : Nat) : Int) = (i : Int) := by rw [← hB, ← Int.natCast_mul, ← Int.natCast_add, h3]
  simp only [numberI, ht]
  exact e1
def CsM (w : World) (b1 o g t : Nat) (u v K P S E a b c d e : Int) : Prop :=
  w.cell? ⟨b1, o, none⟩ = some (.int .i64 u) ∧ w.cell? ⟨b1, o + 1, none⟩ = some (.int .i64 v) ∧ w.cell? ⟨b1, o + 2, none⟩ = some (.int .i64 K) ∧ w.cell? ⟨b1, o + 3, none⟩ = some (.int .i64 P) ∧ w.cell? ⟨b1, o + 4, none⟩ = some (.int .i64 S) ∧ w.cell? ⟨b1, o + 5, none⟩ = some (.int .i64 E) ∧ w.cell? ⟨t, 0, none⟩ = some (.int .i64 K) ∧ w.cell? ⟨t, 1, none⟩ = some (.int .i64 P) ∧ w.cell? ⟨t, 2, none⟩ = some (.int .i64 S) ∧ w.cell? ⟨t, 3, none⟩ = some (.int .i64 E) ∧ w.cell? ⟨g, 0, none⟩ = some (.int .i64 a) ∧ w.cell? ⟨g, 1, none⟩ = some (.int .i64 b) ∧ w.cell? ⟨g, 2, none⟩ = some (.int .i64 c) ∧ w.cell? ⟨g, 3, none⟩ = some (.int .i64 d) ∧ w.cell? ⟨g, 4, none⟩ = some (.int .i64 e)
theorem CsM.below {w w' : World} {b1 o g t : Nat} {u v K P S E a b c d e : Int} (h : CsM w b1 o g t u v K P S E a b c d e) (hb : Below w.heap.size w w') (h1 : b1 < w.heap.size) (h2 : g < w.heap.size) (h3 : t < w.heap.size) : CsM w' b1 o g t u v K P S E a b c d e := by
  obtain ⟨x0, x1, x2, x3, x4, x5, y0, y1, y2, y3, z0, z1, z2, z3, z4⟩ := h
  exact ⟨(hb.cell h1).trans x0, (hb.cell h1).trans x1, (hb.cell h1).trans x2, (hb.cell h1).trans x3, (hb.cell h1).trans x4, (hb.cell h1).trans x5, (hb.cell h3).trans y0, (hb.cell h3).trans y1, (hb.cell h3).trans y2, (hb.cell h3).trans y3, (hb.cell h2).trans z0, (hb.cell h2).trans z1, (hb.cell h2).trans z2, (hb.cell h2).trans z3, (hb.cell h2).trans z4⟩
theorem cells6T {w w' : World} {m gx gb b1 o : Nat} {u v K P S E : Value} (hT : Tch (chB m gx gb) w w') (h1 : b1 < w.heap.size) (h2 : ¬ chB m gx gb b1) (h : w.cell? ⟨b1, o, none⟩ = some u ∧ w.cell? ⟨b1, o + 1, none⟩ = some v ∧ w.cell? ⟨b1, o + 2, none⟩ = some K ∧ w.cell? ⟨b1, o + 3, none⟩ = some P ∧ w.cell? ⟨b1, o + 4, none⟩ = some S ∧ w.cell? ⟨b1, o + 5, none⟩ = some E) : w'.cell? ⟨b1, o, none⟩ = some u ∧ w'.cell? ⟨b1, o + 1, none⟩ = some v ∧ w'.cell? ⟨b1, o + 2, none⟩ = some K ∧ w'.cell? ⟨b1, o + 3, none⟩ = some P ∧ w'.cell? ⟨b1, o + 4, none⟩ = some S ∧ w'.cell? ⟨b1, o + 5, none⟩ = some E := by
  obtain ⟨x0, x1, x2, x3, x4, x5⟩ := h
  have hc := hT.far b1 h1 h2
  exact ⟨(World.cell?_of_block (w := w) hc).trans x0, (World.cell?_of_block (w := w) hc).trans x1, (World.cell?_of_block (w := w) hc).trans x2, (World.cell?_of_block (w := w) hc).trans x3, (World.cell?_of_block (w := w) hc).trans x4, (World.cell?_of_block (w := w) hc).trans x5⟩
theorem CsM.mk {w : World} {b1 o g t : Nat} {u v K P S E a b c d e : Int} {T1 T2 : TypeId} (h : w.cell? ⟨b1, o, none⟩ = some (.int .i64 u) ∧ w.cell? ⟨b1, o + 1, none⟩ = some (.int .i64 v) ∧ w.cell? ⟨b1, o + 2, none⟩ = some (.int .i64 K) ∧ w.cell? ⟨b1, o + 3, none⟩ = some (.int .i64 P) ∧ w.cell? ⟨b1, o + 4, none⟩ = some (.int .i64 S) ∧ w.cell? ⟨b1, o + 5, none⟩ = some (.int .i64 E)) (hG : Blk w g T1 #[.int .i64 a, .int .i64 b, .int .i64 c, .int .i64 d, .int .i64 e]) (hT : Blk w t T2 #[.int .i64 K, .int .i64 P, .int .i64 S, .int .i64 E]) : CsM w b1 o g t u v K P S E a b c d e := by
  obtain ⟨x0, x1, x2, x3, x4, x5⟩ := h
  exact ⟨x0, x1, x2, x3, x4, x5, hT.cell_ 0, hT.cell_ 1, hT.cell_ 2, hT.cell_ 3, hG.cell_ 0, hG.cell_ 1, hG.cell_ 2, hG.cell_ 3, hG.cell_ 4⟩
def CsN (w : World) (b1 o o2 g t : Nat) (u v K P S E u2 v2 a b c d e : Int) : Prop := w.cell? ⟨b1, o2, none⟩ = some (.int .i64 u2) ∧ w.cell? ⟨b1, o2 + 1, none⟩ = some (.int .i64 v2) ∧ CsM w b1 o g t u v K P S E a b c d e
theorem CsN.below {w w' : World} {b1 o o2 g t : Nat} {u v K P S E u2 v2 a b c d e : Int} (h : CsN w b1 o o2 g t u v K P S E u2 v2 a b c d e) (hb : Below w.heap.size w w') (h1 : b1 < w.heap.size) (h2 : g < w.heap.size) (h3 : t < w.heap.size) : CsN w' b1 o o2 g t u v K P S E u2 v2 a b c d e :=
  ⟨(hb.cell h1).trans h.1, (hb.cell h1).trans h.2.1, h.2.2.below hb h1 h2 h3⟩
end Go.Proofs.Ytcpniplfkillbaa
namespace Go.Proofs.Ytcpniplfkillbaa
open Go.ChangeShapes Go.WideShapes Go.ChangeAt Go.RowKit
attribute [local go_sem ↓] Go.wp_at_zero Go.wp_at_succ
theorem counts_walk (a b c d e : Int) (A1 : Option Addr) (n1 c1 : Nat) (fs : List Flt) (A : Option Addr) (len cap : Nat) (es : List (List Value)) (w : World) (_ : i64in a ∧ i64in b ∧ i64in c ∧ i64in d ∧ i64in e) (hflt : n1 = fs.length ∧ n1 ≤ c1 ∧ c1 ≤ maxLen ∧ SlF w w.heap.size A1 fs) (hacts : len = es.length ∧ len ≤ cap ∧ cap ≤ maxLen ∧ SlE 8 w w.heap.size A es ∧ ∀ x ∈ es, Flat [some .i64, some .i64, some .u8, some .i64, some .i64, some .i64, some .i64, some .i64] x) :
    Calls Try.prog 4 #[.agg #[.int .i64 a, .int .i64 b, .int .i64 c, .int .i64 d, .int .i64 e], .slice A1 n1 c1, .slice A len cap] w fun e' w' => e' = .returned (.bool true) ∧ Below w.heap.size w w' := by
  obtain ⟨rfl, hq1, hq2, hsf⟩ := hflt
  obtain ⟨hlen0, hlc, hcm, hsl, hfl⟩ := hacts
  have hlen := hlen0.symm
  clear hlen0
  have HB0 : Below w.heap.size w (w.alloc (.cells #[.int .i64 a, .int .i64 b, .int .i64 c, .int .i64 d, .int .i64 e] 23)) := (Below.refl _ _).alloc (Nat.le_refl _) _
  have G1 : Blk (w.alloc (.cells #[.int .i64 a, .int .i64 b, .int .i64 c, .int .i64 d, .int .i64 e] 23)) w.heap.size 23 #[.int .i64 a, .int .i64 b, .int .i64 c, .int .i64 d, .int .i64 e] := Blk.new_ _ _ _
  have hsl1 := hsl.next HB0
  have hsf1 := hsf.next HB0
  obtain ⟨y0, y1, y2, y3, y4⟩ := cells5 G1
  by_cases h60 : len ≤ 60
  · have hi60 : ¬ ((60 : Int) < (len : Int)) := by omega
    by_cases h20 : fs.length ≤ 20
    · have hi20 : ¬ ((20 : Int) < (fs.length : Int)) := by omega
      go_enter Try.func4, Try.ntmps4
      go_wp2_with (first
        | (go_at_call 7; ((with_reducible refine (both_cnt a b c d e A1 c1 fs A len cap es _ hq1 hq2 hsf1 h20 hlen h60 hsl1 hfl).mono ?_); rintro e' wN ⟨hcase, hbB⟩; have HBB := btr HB0 HB0.size hbB; replace G1 := G1.below hbB G1.lt; (try clear y0 y1 y2 y3 y4); rcases hcase with rfl | ⟨m, gx, gb, AF, cf, mR, S, rfl, hC, hgd, hlv, hlo, NA, NB, RW, S1, S2, p, q, r, acc, idx, hE⟩))
        | (go_at_call 6; ((with_reducible refine (awake9 _).mono ?_); rintro e' wN ⟨rfl, hbZ⟩; skip))
        | (go_at_call 18; ((with_reducible refine (count_ok m gx gb AF fs.length cf a b c d e fs NA NB (20 + 3 * (len : Int)) acc S S1 _ hC hgd (by omega) hlv.b8 hE.na hE.nb hE.w1 p q r hE.cn).mono ?_); rintro e' wN ⟨rfl, hC1, hT1, hgd1, -⟩; skip))
        | (go_at_call 16; ((with_reducible refine (scan_ok m gx gb AF fs.length cf a b c d e fs NA NB ((20 + 3 * (len : Int)) + 1000) acc S1 S2 _ hC1 hgd1 (by omega) hE.l1.b8 hE.na hE.nb hE.w2 q hE.fn).mono ?_); rintro e' wN ⟨⟨A5, c5, rfl, hrF⟩, hC2, hT2, hgd2, -⟩; obtain ⟨A5b, c5b, hv5, hs5, -, -⟩ := hrF.sl; have hF5 : ∀ b o, A5 = some ⟨b, o, none⟩ → ¬ chB m gx gb b := fun b o q1 q2 => (by have h1 := own_atF hrF b (by rw [q1]; rfl); have h2 := hC1.lt; rcases q2 with rfl | rfl | rfl <;> omega); rw [hE.fn.out] at hv5; cases hv5)))
      · go_ret
        exact ⟨rfl, btr HBB HBB.size hbZ⟩
      · have hsw : (w.alloc (.cells #[.int .i64 a, .int .i64 b, .int .i64 c, .int .i64 d, .int .i64 e] 23)).heap.size = w.heap.size + 1 := by simp
        have hnb : ¬ chB m gx gb w.heap.size := fun e => by have := hlo _ e; omega
        have hlow : ∀ g, chB m gx gb g → w.heap.size ≤ g := fun g e => by have := hlo _ e; omega
        have HBE := btrT (btrT HBB hT1 hlow) hT2 hlow
        have G2 := hT2.blk (hT1.blk G1 hnb) hnb
        obtain ⟨wE, hwE⟩ : ∃ V : World, V = wN := ⟨_, rfl⟩
        rw [← hwE] at hC2 hs5 HBE G2 ⊢
        clear hwE G1 hsl hsl1 hfl hsf hsf1 hT1 hT2 hC hC1 hrF
        have HS5 := Lib.hid hs5
        clear hs5
        have ha2 := hE.a2
        go_loopw [16, 17] (fun s16 s17 wr => ∃ (j : Nat), j ≤ NA ∧ s16 = .int .i64 ((goodN fs j : Nat) : Int) ∧ s17 = .int .i64 (j : Int) ∧ Below wE.heap.size wE wr) (fun _ s17 _ => NA - (iOf s17).toNat)
        case atStart => exact ⟨0, Nat.zero_le _, rfl, rfl, Below.refl _ _⟩
        case round =>
          obtain ⟨j, hj, rfl, rfl, hB⟩ := hrel
          have hsz := hB.size
          have G3 := G2.below hB G2.lt
          obtain ⟨y0, y1, y2, y3, y4⟩ := cells5 G3
          have hCL := hC2.below hB
          have hnA := hE.na
          have hgj := goodN_le fs j
          by_cases hlt : j < NA
          · have j1 : (j : Int) < a := by omega
            clear hnA
            rcases (by cases hq : badB fs (j : Int) <;> simp : badB fs (j : Int) = true ∨ badB fs (j : Int) = false) with hb | hb
            · have HBD := Lib.hid hb
              have hgs : goodN fs (j + 1) = goodN fs j := by rw [goodN, if_pos hb]
              clear hb
              go_wp2_with (go_at_call 22; ((with_reducible refine (bad_v0 m gx gb AF fs.length cf a b c d e fs _ _ _ S2 hCL HBD).mono ?_); rintro e' wN ⟨rfl, hbD⟩; skip))
              go_roundw
              case rel => exact ⟨j + 1, by omega, by rw [hgs], by go_num, btr hB hB.size hbD⟩
              case measure => simp [iOf]; omega
            · have HBD := Lib.hid hb
              have hgs : goodN fs (j + 1) = goodN fs j + 1 := by rw [goodN, if_neg (by rw [hb]; simp)]
              clear hb
              obtain ⟨G, hG⟩ : ∃ G, goodN fs j = G := ⟨_, rfl⟩
              rw [hG] at hgs hgj ⊢
              go_wp2_with (go_at_call 22; ((with_reducible refine (bad_v0 m gx gb AF fs.length cf a b c d e fs _ _ _ S2 hCL HBD).mono ?_); rintro e' wN ⟨rfl, hbD⟩; skip))
              go_roundw
              case rel => exact ⟨j + 1, by omega, by rw [hgs]; go_num, by go_num, btr hB hB.size hbD⟩
              case measure => simp [iOf]; omega
          · obtain rfl : j = NA := by omega
            have hsm := hE.sm
            have hsum := hE.sum.out
            obtain ⟨G, hG⟩ : ∃ G, goodN fs j = G := ⟨_, rfl⟩
            rw [hG] at hsum hgj ⊢
            obtain ⟨M, hM⟩ : ∃ M : Int, (G : Int) * b = M := ⟨_, rfl⟩
            have hM0 : 0 ≤ (G : Int) * b := by omega
            have hM1 : (G : Int) * b ≤ 160 := by omega
            have hjn : ¬ ((j : Int) < a) := by omega
            have hb1 := hE.b1
            have hb2 := hE.b2
            have hnB := hE.nb
            have hS5 := HS5.out.next hB
            have HBR := btr HBE HBE.size hB
            obtain ⟨wL, hwL⟩ : ∃ V : World, V = wr := ⟨_, rfl⟩
            rw [← hwL] at hCL G3 hS5 HBR y0 y1 y2 y3 y4 ⊢
            clear hwL hB hsz
            have HSL := Lib.hid hS5
            clear hS5 HS5
            have hsb : ((p : Int) + (q : Int) + (r : Int) == (G : Int) * b) = true := by simpa using hsum
            clear hM hsum hnA
            have hql : idx.length = q := by
              have h9 := congrArg List.length hE.fd.out
              rw [hE.fn.out, List.length_map] at h9
              exact h9.symm
            have hNB0 : 0 < NB := by omega
            have HM : Hid (mayB a b c d e = true) := Lib.hid (planMay_bd hCL.may).1
            go_wp2_with fail
            rotate_left
            · rename_i hno
              exact absurd (by simpa using hsb) hno
            clear hsb
            go_loopw [18] (fun s18 wr => ∃ (mm : Nat) (SL : ChS), mm ≤ q ∧ s18 = .int .i64 (mm : Int) ∧ ChipW wr m gx gb AF fs.length cf a b c d e fs SL ∧ Hid (Good SL ((20 + 3 * (len : Int)) + 3000 + 6 * (mm : Int)) ∧ Liv SL ∧ SL.X = S2.X) ∧ Tch (chB m gx gb) wL wr) (fun s18 _ => q - (iOf s18).toNat)
            case atStart => exact ⟨0, S2, Nat.zero_le _, rfl, hCL, Lib.hid ⟨hgd2.mono (by omega), hE.l2, rfl⟩, Tch.refl _⟩
            case round =>
              obtain ⟨mm, SL, hm0, rfl, hCM0, HK, HT⟩ := hrel
              by_cases hlt : mm < q
              · obtain ⟨b1, o1, rfl, hl1, q1⟩ := (SlE.tchF HSL.out HT (Nat.le_refl _) hF5).at_ (by rw [hE.fn.out]; omega)
                have hnb1 : ¬ chB m gx gb b1 := hF5 b1 o1 rfl
                obtain ⟨i, hi⟩ : ∃ i, idx[mm]? = some i := ⟨_, List.getElem?_eq_getElem (by omega)⟩
                have hx : (fdsOf acc)[mm]? = some (fdI NB RW S2.X i) := by rw [hE.fd.out, List.getElem?_map, hi]; rfl
                obtain ⟨hiN, hbi, hst⟩ := hE.mem i (List.mem_of_getElem? hi)
                obtain ⟨K, P, Sq, E, hK⟩ : ∃ K P Sq E, lkT (pg S2.X RW i) = (K, P, Sq, E) := ⟨_, _, _, _, rfl⟩
                have hnum := num_at hE.na hE.nb hNB0 hiN
                obtain ⟨u, v, hu⟩ : ∃ u v : Int, ((i / NB : Nat) : Int) = u ∧ ((i % NB : Nat) : Int) = v := ⟨_, _, rfl, rfl⟩
                have hfx : fdI NB RW S2.X i = ⟨u, v, (K : Int), (P : Int), (Sq : Int), (E : Int)⟩ := by
                  unfold fdI
                  rw [hK, hu.1, hu.2]
                rw [hu.1] at hbi
                rw [hu.1, hu.2] at hnum
                rw [hfx] at hx
                have HC6 := q1 mm _ hx
                obtain ⟨x0, x1, x2, x3, x4, x5⟩ := HC6
                dsimp only at x0 x1 x2 x3 x4 x5
                have HC6 := And.intro x0 (And.intro x1 (And.intro x2 (And.intro x3 (And.intro x4 x5))))
                have HU := Lib.hid hu
                have HBD := Lib.hid hbi
                have HN1 := Lib.hid hnum
                have HKL : Hid (lkT (pg SL.X RW i) = (K, P, Sq, E)) := Lib.hid (by rw [HK.out.2.2]; exact hK)
                have hstL : readSt (pg SL.X RW i) = 1 := by rw [HK.out.2.2]; exact hst
                have G4 := HT.blk G3 hnb
                have m0 : (0 : Int) ≤ (mm : Int) := by omega
                have m1 : (mm : Int) < (q : Int) := by omega
                have hI := Lib.hid hi
                have hl1r := hl1
                have HC60 := HC6
                have HQ := Lib.hid q1
                clear hx hu hbi hnum hK hfx hst hi q1
                go_upto_region 21 with (first
                  | (go_at_call 8; ((with_reducible refine (state_found m gx gb AF fs.length cf a b c d e fs j NB RW i ((20 + 3 * (len : Int)) + 3000 + 6 * (mm : Int)) _ SL hCM0 HK.out.1 (by omega) HK.out.2.1 hE.na hE.nb hE.rw hNB0 hE.r2 hiN hstL u v HU).mono ?_); rintro e' wN ⟨rfl, SM, hCM, hTM, hgM, hLM, hXM⟩; have HC6 := cells6T hTM hl1 hnb1 HC6; have hl1 := Nat.lt_of_lt_of_le hl1 hTM.size; have G4 := hTM.blk G4 hnb; (try clear x0 x1 x2 x3 x4 x5); obtain ⟨x0, x1, x2, x3, x4, x5⟩ := HC6; have HTT := HT.trans hTM; have HKM : Hid (lkT (pg SM.X RW i) = (K, P, Sq, E)) := (by rw [hXM]; exact HKL); have hstM : readSt (pg SM.X RW i) = 1 := (by rw [hXM]; exact hstL)))
                  | (go_at_call 10; ((with_reducible refine (load_found m gx gb AF fs.length cf a b c d e fs j NB RW i (((20 + 3 * (len : Int)) + 3000 + 6 * (mm : Int)) + 3) _ SM hCM hgM (by omega) hLM hE.na hE.nb hE.rw hNB0 hE.r2 hiN hstM u v HU K P Sq E HKM).mono ?_); rintro e' wN ⟨⟨A9, n9, c9, rfl⟩, SK, hCK, hTK, hgK, hLK, hXK⟩; have HC6 := cells6T hTK hl1 hnb1 ⟨x0, x1, x2, x3, x4, x5⟩; have hl1 := Nat.lt_of_lt_of_le hl1 hTK.size; have G4 := hTK.blk G4 hnb; (try clear x0 x1 x2 x3 x4 x5); obtain ⟨x0, x1, x2, x3, x4, x5⟩ := HC6; have HTT := HTT.trans hTK)))
                obtain ⟨wT, hwT⟩ : ∃ V : World, V = wN.alloc (.cells #[.int .i64 (K : Int), .int .i64 (P : Int), .int .i64 (Sq : Int), .int .i64 (E : Int)] 40) := ⟨_, rfl⟩
                have hbT : Below wN.heap.size wN wT := by rw [hwT]; exact (Below.refl _ _).alloc (Nat.le_refl _) _
                have GT : Blk wT wN.heap.size 40 #[.int .i64 (K : Int), .int .i64 (P : Int), .int .i64 (Sq : Int), .int .i64 (E : Int)] := by rw [hwT]; exact Blk.new_ _ _ _
                have hTW := (hTM.trans hTK).then hbT
                have hCT := hCK.below hbT
                have HTT := HTT.then hbT
                have HCs := CsM.mk (cells6T hTW hl1r hnb1 HC60) (G4.below hbT G4.lt) GT
                have l1 : b1 < wT.heap.size := Nat.lt_of_lt_of_le hl1 hbT.size
                have l2 : w.heap.size < wT.heap.size := Nat.lt_of_lt_of_le G4.lt hbT.size
                have l3 := GT.lt
                rw [← hwT]
                obtain ⟨tb, htb⟩ : ∃ t, wN.heap.size = t := ⟨_, rfl⟩
                rw [htb] at HCs l3 ⊢
                clear htb hwT GT x0 x1 x2 x3 x4 x5 hCK hCM G4 hTM hTK
                by_cases hmz : mm = 0
                · subst hmz
                  simp only [Nat.zero_mul, Nat.add_zero] at HCs
                  have hCD : ChipW wT.drew m gx gb AF fs.length cf a b c d e fs SK := hCT.like
                  clear hTW hbT
                  refine wp_region_noPanic ?_
                  refine wp_region_held_drew (S := (fun w' => w'.cell? ⟨b1, o1, none⟩ = some (.int .i64 u) ∧ w'.cell? ⟨b1, o1 + 1, none⟩ = some (.int .i64 v) ∧ w'.cell? ⟨b1, o1 + 2, none⟩ = some (.int .i64 (K : Int)) ∧ w'.cell? ⟨b1, o1 + 3, none⟩ = some (.int .i64 (P : Int)) ∧ w'.cell? ⟨b1, o1 + 4, none⟩ = some (.int .i64 (Sq : Int)) ∧ w'.cell? ⟨b1, o1 + 5, none⟩ = some (.int .i64 (E : Int)) ∧ w'.cell? ⟨tb, 0, none⟩ = some (.int .i64 (K : Int)) ∧ w'.cell? ⟨tb, 1, none⟩ = some (.int .i64 (P : Int)) ∧ w'.cell? ⟨tb, 2, none⟩ = some (.int .i64 (Sq : Int)) ∧ w'.cell? ⟨tb, 3, none⟩ = some (.int .i64 (E : Int)) ∧ w'.cell? ⟨w.heap.size, 0, none⟩ = some (.int .i64 a) ∧ w'.cell? ⟨w.heap.size, 1, none⟩ = some (.int .i64 b) ∧ w'.cell? ⟨w.heap.size, 2, none⟩ = some (.int .i64 c) ∧ w'.cell? ⟨w.heap.size, 3, none⟩ = some (.int .i64 d) ∧ w'.cell? ⟨w.heap.size, 4, none⟩ = some (.int .i64 e))) (by kernel_rfl) ?_ (fun hHeld => ?_)
                  · (first | exact HCs | assumption)
                  refine wpAnyH_take (i := 0) (oi := ⟨some 122, .move (.tmp 19), 3, "law.go:134", #[], none⟩) (v := ?_) rfl (by kernel_rfl) (by kernel_rfl) (by kernel_rfl) (fun _ _ _ h => h) (Or.inl ⟨by rfl, ?_⟩) (by assumption) ?_; rotate_left; (· (intro wS hSw; (try dsimp only at hSw); go_simp; (try with_reducible rfl))); try simp only [Act.put, pz1, pz2, pz3]
                  refine wpAnyH_take (i := 1) (oi := ⟨some 123, .binOp .neq 3 (.tmp 122) (.const (.int .i64 1)) 3, 4, "law.go:134", #[⟨0, .data⟩], none⟩) (v := ?_) rfl (by kernel_rfl) (by kernel_rfl) (by kernel_rfl) (fun _ _ _ h => h) (Or.inl ⟨by rfl, ?_⟩) (by assumption) ?_; rotate_left; (· (intro wS hSw; (try dsimp only at hSw); go_simp; (try with_reducible rfl))); try simp only [Act.put, pz1, pz2, pz3]
                  refine wpAnyH_take (i := 2) (oi := ⟨some 124, .move (.tmp 123), 4, "law.go:134", #[⟨1, .data⟩], none⟩) (v := ?_) rfl (by kernel_rfl) (by kernel_rfl) (by kernel_rfl) (fun _ _ _ h => h) (Or.inl ⟨by rfl, ?_⟩) (by assumption) ?_; rotate_left; (· (intro wS hSw; (try dsimp only at hSw); go_simp; (try with_reducible rfl))); try simp only [Act.put, pz1, pz2, pz3]
                  refine wpAnyH_take (i := 3) (oi := ⟨some 125, .move (.tmp 20), 33, "law.go:134", #[⟨2, .guard⟩], some (2, false)⟩) (v := ?_) rfl (by kernel_rfl) (by kernel_rfl) (by kernel_rfl) (fun _ _ _ h => h) (Or.inl ⟨by rfl, ?_⟩) (by assumption) ?_; rotate_left; (· (intro wS hSw; (try dsimp only at hSw); go_simp; (try with_reducible rfl))); try simp only [Act.put, pz1, pz2, pz3]
                  refine wpAnyH_take (i := 4) (oi := ⟨some 126, .binOp .neq 33 (.tmp 125) (.const (.int .i64 0)) 33, 4, "law.go:134", #[⟨3, .data⟩, ⟨2, .guard⟩], some (2, false)⟩) (v := ?_) rfl (by kernel_rfl) (by kernel_rfl) (by kernel_rfl) (fun _ _ _ h => h) (Or.inl ⟨by rfl, ?_⟩) (by assumption) ?_; rotate_left; (· (intro wS hSw; (try dsimp only at hSw); go_simp; (try with_reducible rfl))); try simp only [Act.put, pz1, pz2, pz3]
                  refine wpAnyH_take (i := 5) (oi := ⟨some 127, .pick (.tmp 124) (.const (.bool true)) (.tmp 126), 4, "law.go:134", #[⟨2, .data⟩, ⟨4, .data⟩], none⟩) (v := ?_) rfl (by kernel_rfl) (by kernel_rfl) (by kernel_rfl) (fun _ _ _ h => h) (Or.inl ⟨by rfl, ?_⟩) (by assumption) ?_; rotate_left; (· (intro wS hSw; (try dsimp only at hSw); go_simp; (try with_reducible rfl))); try simp only [Act.put, pz1, pz2, pz3]
                  refine wpAnyH_take (i := 6) (oi := ⟨some 128, .move (.tmp 127), 4, "law.go:134", #[⟨5, .data⟩, ⟨2, .chain⟩], none⟩) (v := ?_) rfl (by kernel_rfl) (by kernel_rfl) (by kernel_rfl) (fun _ _ _ h => h) (Or.inl ⟨by rfl, ?_⟩) (by assumption) ?_; rotate_left; (· (intro wS hSw; (try dsimp only at hSw); go_simp; (try with_reducible rfl))); try simp only [Act.put, pz1, pz2, pz3]
                  refine wpAnyH_take (i := 7) (oi := ⟨some 129, .move (.tmp 23), 33, "law.go:134", #[⟨6, .guard⟩], some (6, false)⟩) (v := ?_) rfl (by kernel_rfl) (by kernel_rfl) (by kernel_rfl) (fun _ _ _ h => h) (Or.inl ⟨by rfl, ?_⟩) (by assumption) ?_; rotate_left; (· (intro wS hSw; (try dsimp only at hSw); go_simp; (try with_reducible rfl))); try simp only [Act.put, pz1, pz2, pz3]
                  refine wpAnyH_take (i := 8) (oi := ⟨some 130, .binOp .neq 33 (.tmp 129) (.const (.int .i64 0)) 33, 4, "law.go:134", #[⟨7, .data⟩, ⟨6, .guard⟩], some (6, false)⟩) (v := ?_) rfl (by kernel_rfl) (by kernel_rfl) (by kernel_rfl) (fun _ _ _ h => h) (Or.inl ⟨by rfl, ?_⟩) (by assumption) ?_; rotate_left; (· (intro wS hSw; (try dsimp only at hSw); go_simp; (try with_reducible rfl))); try simp only [Act.put, pz1, pz2, pz3]
                  refine wpAnyH_take (i := 9) (oi := ⟨some 131, .pick (.tmp 128) (.const (.bool true)) (.tmp 130), 4, "law.go:134", #[⟨6, .data⟩, ⟨8, .data⟩], none⟩) (v := ?_) rfl (by kernel_rfl) (by kernel_rfl) (by kernel_rfl) (fun _ _ _ h => h) (Or.inl ⟨by rfl, ?_⟩) (by assumption) ?_; rotate_left; (· (intro wS hSw; (try dsimp only at hSw); go_simp; (try with_reducible rfl))); try simp only [Act.put, pz1, pz2, pz3]
                  refine wpAnyH_take (i := 10) (oi := ⟨some 132, .move (.tmp 131), 4, "law.go:134", #[⟨9, .data⟩, ⟨6, .chain⟩], none⟩) (v := ?_) rfl (by kernel_rfl) (by kernel_rfl) (by kernel_rfl) (fun _ _ _ h => h) (Or.inl ⟨by rfl, ?_⟩) (by assumption) ?_; rotate_left; (· (intro wS hSw; (try dsimp only at hSw); go_simp; (try with_reducible rfl))); try simp only [Act.put, pz1, pz2, pz3]
                  refine wpAnyH_take (i := 11) (oi := ⟨some 133, .load 40 (.tmp 22), 40, "law.go:134", #[⟨10, .guard⟩], some (10, false)⟩) (v := ?_) rfl (by kernel_rfl) (by kernel_rfl) (by kernel_rfl) (fun _ _ _ h => h) (Or.inl ⟨by rfl, ?_⟩) (by assumption) ?_; rotate_left; (· (intro wS hSw; (try dsimp only at hSw); go_simp; (try with_reducible rfl))); try simp only [Act.put, pz1, pz2, pz3]
                  refine wpAnyH_take (i := 12) (oi := ⟨some 134, .move (.tmp 14), 51, "law.go:134", #[⟨10, .guard⟩], some (10, false)⟩) (v := ?_) rfl (by kernel_rfl) (by kernel_rfl) (by kernel_rfl) (fun _ _ _ h => h) (Or.inl ⟨by rfl, ?_⟩) (by assumption) ?_; rotate_left; (· (intro wS hSw; (try dsimp only at hSw); go_simp; (try with_reducible rfl))); try simp only [Act.put, pz1, pz2, pz3]
                  refine wpAnyH_take (i := 13) (oi := ⟨some 135, .move (.tmp 18), 3, "law.go:134", #[⟨10, .guard⟩], some (10, false)⟩) (v := ?_) rfl (by kernel_rfl) (by kernel_rfl) (by kernel_rfl) (fun _ _ _ h => h) (Or.inl ⟨by rfl, ?_⟩) (by assumption) ?_; rotate_left; (· (intro wS hSw; (try dsimp only at hSw); go_simp; (try with_reducible rfl))); try simp only [Act.put, pz1, pz2, pz3]
                  refine wpAnyH_take (i := 14) (oi := ⟨some 136, .indexAddr 51 (.tmp 134) (.tmp 135), 0, "law.go:134", #[⟨12, .data⟩, ⟨13, .data⟩, ⟨10, .guard⟩], some (10, false)⟩) (v := ?_) rfl (by kernel_rfl) (by kernel_rfl) (by kernel_rfl) (fun _ _ _ h => h) (Or.inl ⟨by rfl, ?_⟩) (by assumption) ?_; rotate_left; (· (intro wS hSw; (try dsimp only at hSw); go_simp; (try with_reducible rfl))); try simp only [Act.put, pz1, pz2, pz3]
                  refine wpAnyH_take (i := 15) (oi := ⟨some 137, .fieldAddr 65 (.tmp 136) 1, 0, "law.go:134", #[⟨14, .data⟩, ⟨10, .guard⟩], some (10, false)⟩) (v := ?_) rfl (by kernel_rfl) (by kernel_rfl) (by kernel_rfl) (fun _ _ _ h => h) (Or.inl ⟨by rfl, ?_⟩) (by assumption) ?_; rotate_left; (· (intro wS hSw; (try dsimp only at hSw); go_simp; (try with_reducible rfl))); try simp only [Act.put, pz1, pz2, pz3]
                  refine wpAnyH_take (i := 16) (oi := ⟨some 138, .load 40 (.tmp 137), 40, "law.go:134", #[⟨15, .data⟩, ⟨10, .guard⟩], some (10, false)⟩) (v := ?_) rfl (by kernel_rfl) (by kernel_rfl) (by kernel_rfl) (fun _ _ _ h => h) (Or.inl ⟨by rfl, ?_⟩) (by assumption) ?_; rotate_left; (· (intro wS hSw; (try dsimp only at hSw); go_simp; (try with_reducible rfl))); try simp only [Act.put, pz1, pz2, pz3]
                  refine wpAnyH_take (i := 17) (oi := ⟨some 139, .binOp .neq 40 (.tmp 133) (.tmp 138) 40, 4, "law.go:134", #[⟨11, .data⟩, ⟨16, .data⟩, ⟨10, .guard⟩], some (10, false)⟩) (v := ?_) rfl (by kernel_rfl) (by kernel_rfl) (by kernel_rfl) (fun _ _ _ h => h) (Or.inl ⟨by rfl, ?_⟩) (by assumption) ?_; rotate_left; (· (intro wS hSw; (try dsimp only at hSw); go_simp; (try with_reducible rfl))); try simp only [Act.put, pz1, pz2, pz3]
                  refine wpAnyH_take (i := 18) (oi := ⟨some 140, .pick (.tmp 132) (.const (.bool true)) (.tmp 139), 4, "law.go:134", #[⟨10, .data⟩, ⟨17, .data⟩], none⟩) (v := ?_) rfl (by kernel_rfl) (by kernel_rfl) (by kernel_rfl) (fun _ _ _ h => h) (Or.inl ⟨by rfl, ?_⟩) (by assumption) ?_; rotate_left; (· (intro wS hSw; (try dsimp only at hSw); go_simp; (try with_reducible rfl))); try simp only [Act.put, pz1, pz2, pz3]
                  refine wpAnyH_take (i := 19) (oi := ⟨some 141, .move (.tmp 140), 4, "law.go:134", #[⟨18, .data⟩, ⟨10, .chain⟩], none⟩) (v := ?_) rfl (by kernel_rfl) (by kernel_rfl) (by kernel_rfl) (fun _ _ _ h => h) (Or.inl ⟨by rfl, ?_⟩) (by assumption) ?_; rotate_left; (· (intro wS hSw; (try dsimp only at hSw); go_simp; (try with_reducible rfl))); try simp only [Act.put, pz1, pz2, pz3]
                  refine wpAnyH_take (i := 20) (oi := ⟨some 142, .move (.tmp 7), 29, "law.go:134", #[⟨19, .guard⟩], some (19, false)⟩) (v := ?_) rfl (by kernel_rfl) (by kernel_rfl) (by kernel_rfl) (fun _ _ _ h => h) (Or.inl ⟨by rfl, ?_⟩) (by assumption) ?_; rotate_left; (· (intro wS hSw; (try dsimp only at hSw); go_simp; (try with_reducible rfl))); try simp only [Act.put, pz1, pz2, pz3]
                  refine wpAnyH_take (i := 21) (oi := ⟨some 143, .move (.tmp 14), 51, "law.go:134", #[⟨19, .guard⟩], some (19, false)⟩) (v := ?_) rfl (by kernel_rfl) (by kernel_rfl) (by kernel_rfl) (fun _ _ _ h => h) (Or.inl ⟨by rfl, ?_⟩) (by assumption) ?_; rotate_left; (· (intro wS hSw; (try dsimp only at hSw); go_simp; (try with_reducible rfl))); try simp only [Act.put, pz1, pz2, pz3]
                  refine wpAnyH_take (i := 22) (oi := ⟨some 144, .move (.tmp 18), 3, "law.go:134", #[⟨19, .guard⟩], some (19, false)⟩) (v := ?_) rfl (by kernel_rfl) (by kernel_rfl) (by kernel_rfl) (fun _ _ _ h => h) (Or.inl ⟨by rfl, ?_⟩) (by assumption) ?_; rotate_left; (· (intro wS hSw; (try dsimp only at hSw); go_simp; (try with_reducible rfl))); try simp only [Act.put, pz1, pz2, pz3]
                  refine wpAnyH_take (i := 23) (oi := ⟨some 145, .indexAddr 51 (.tmp 143) (.tmp 144), 0, "law.go:134", #[⟨21, .data⟩, ⟨22, .data⟩, ⟨19, .guard⟩], some (19, false)⟩) (v := ?_) rfl (by kernel_rfl) (by kernel_rfl) (by kernel_rfl) (fun _ _ _ h => h) (Or.inl ⟨by rfl, ?_⟩) (by assumption) ?_; rotate_left; (· (intro wS hSw; (try dsimp only at hSw); go_simp; (try with_reducible rfl))); try simp only [Act.put, pz1, pz2, pz3]
                  refine wpAnyH_take (i := 24) (oi := ⟨some 146, .fieldAddr 65 (.tmp 145) 0, 0, "law.go:134", #[⟨23, .data⟩, ⟨19, .guard⟩], some (19, false)⟩) (v := ?_) rfl (by kernel_rfl) (by kernel_rfl) (by kernel_rfl) (fun _ _ _ h => h) (Or.inl ⟨by rfl, ?_⟩) (by assumption) ?_; rotate_left; (· (intro wS hSw; (try dsimp only at hSw); go_simp; (try with_reducible rfl))); try simp only [Act.put, pz1, pz2, pz3]
                  refine wpAnyH_take (i := 25) (oi := ⟨some 147, .fieldAddr 27 (.tmp 146) 0, 0, "law.go:134", #[⟨24, .data⟩, ⟨19, .guard⟩], some (19, false)⟩) (v := ?_) rfl (by kernel_rfl) (by kernel_rfl) (by kernel_rfl) (fun _ _ _ h => h) (Or.inl ⟨by rfl, ?_⟩) (by assumption) ?_; rotate_left; (· (intro wS hSw; (try dsimp only at hSw); go_simp; (try with_reducible rfl))); try simp only [Act.put, pz1, pz2, pz3]
                  refine wpAnyH_take (i := 26) (oi := ⟨some 148, .load 3 (.tmp 147), 3, "law.go:134", #[⟨25, .data⟩, ⟨19, .guard⟩], some (19, false)⟩) (v := ?_) rfl (by kernel_rfl) (by kernel_rfl) (by kernel_rfl) (fun _ _ _ h => h) (Or.inl ⟨by rfl, ?_⟩) (by assumption) ?_; rotate_left; (· (intro wS hSw; (try dsimp only at hSw); go_simp; (try with_reducible rfl))); try simp only [Act.put, pz1, pz2, pz3]
                  refine wpAnyH_ready (rs := [27]) (by kernel_rfl) (by simp) ?_
                  refine AllReadyH.cons (o := ⟨some 149, .call { callee := .value (.func 22), args := #[.tmp 142, .tmp 148], argTypes := #[29, 3] }, 4, "law.go:134", #[⟨20, .data⟩, ⟨26, .data⟩, ⟨19, .chain⟩, ⟨19, .guard⟩], some (19, false)⟩) rfl (fun K hK => ?_) AllReadyH.nil
                  go_simp
                  (first | (go_at_call 22; ((with_reducible refine (bad_v0 m gx gb AF fs.length cf a b c d e fs _ _ _ SK (by first | exact hCT | exact hCD) HBD).mono ?_); rintro e' wN ⟨rfl, hb⟩; (try have hb := undrew hb); replace HCs := HCs.below hb l1 l2 l3; replace l1 := Nat.lt_of_lt_of_le l1 hb.size; replace l2 := Nat.lt_of_lt_of_le l2 hb.size; replace l3 := Nat.lt_of_lt_of_le l3 hb.size; replace hCT := hCT.below hb; replace HTT := HTT.then hb)))
                  go_wp2_with fail
                  refine hK.out _ _ ?_ (fun hNew => ?_)
                  · (first | exact HCs | assumption)
                  clear hK K hHeld
                  have hHeld := hNew
                  clear hNew
                  try simp only [Act.put, pz1, pz2, pz3]
                  refine wpAnyH_take (i := 28) (oi := ⟨some 150, .pick (.tmp 141) (.const (.bool true)) (.tmp 149), 4, "law.go:134", #[⟨19, .data⟩, ⟨27, .data⟩], none⟩) (v := ?_) rfl (by kernel_rfl) (by kernel_rfl) (by kernel_rfl) (fun _ _ _ h => h) (Or.inl ⟨by rfl, ?_⟩) (by assumption) ?_; rotate_left; (· (intro wS hSw; (try dsimp only at hSw); go_simp; (try with_reducible rfl))); try simp only [Act.put, pz1, pz2, pz3]
                  refine wpAnyH_take (i := 29) (oi := ⟨some 151, .move (.tmp 150), 4, "law.go:134", #[⟨28, .data⟩, ⟨27, .chain⟩], none⟩) (v := ?_) rfl (by kernel_rfl) (by kernel_rfl) (by kernel_rfl) (fun _ _ _ h => h) (Or.inl ⟨by rfl, ?_⟩) (by assumption) ?_; rotate_left; (· (intro wS hSw; (try dsimp only at hSw); go_simp; (try with_reducible rfl))); try simp only [Act.put, pz1, pz2, pz3]
                  refine wpAnyH_take (i := 30) (oi := ⟨some 152, .move (.tmp 18), 3, "law.go:134", #[⟨29, .guard⟩], some (29, false)⟩) (v := ?_) rfl (by kernel_rfl) (by kernel_rfl) (by kernel_rfl) (fun _ _ _ h => h) (Or.inl ⟨by rfl, ?_⟩) (by assumption) ?_; rotate_left; (· (intro wS hSw; (try dsimp only at hSw); go_simp; (try with_reducible rfl))); try simp only [Act.put, pz1, pz2, pz3]
                  refine wpAnyH_take (i := 31) (oi := ⟨some 153, .binOp .gtr 3 (.tmp 152) (.const (.int .i64 0)) 3, 4, "law.go:134", #[⟨30, .data⟩, ⟨29, .guard⟩], some (29, false)⟩) (v := ?_) rfl (by kernel_rfl) (by kernel_rfl) (by kernel_rfl) (fun _ _ _ h => h) (Or.inl ⟨by rfl, ?_⟩) (by assumption) ?_; rotate_left; (· (intro wS hSw; (try dsimp only at hSw); go_simp; (try with_reducible rfl))); try simp only [Act.put, pz1, pz2, pz3]
                  refine wpAnyH_take (i := 32) (oi := ⟨some 154, .move (.tmp 153), 4, "law.go:134", #[⟨31, .data⟩, ⟨29, .chain⟩, ⟨29, .guard⟩], some (29, false)⟩) (v := ?_) rfl (by kernel_rfl) (by kernel_rfl) (by kernel_rfl) (fun _ _ _ h => h) (Or.inl ⟨by rfl, ?_⟩) (by assumption) ?_; rotate_left; (· (intro wS hSw; (try dsimp only at hSw); go_simp; (try with_reducible rfl))); try simp only [Act.put, pz1, pz2, pz3]
                  refine wpAnyH_take (i := 33) (oi := ⟨some 155, .load 23 (.tmp 3), 23, "law.go:134", #[⟨32, .guard⟩], some (32, true)⟩) (v := undef) rfl (by kernel_rfl) (by kernel_rfl) (by kernel_rfl) (fun _ _ _ h => h) (Or.inr ⟨by rfl, rfl⟩) (by assumption) ?_
                  try simp only [Act.put, pz1, pz2, pz3]
                  refine wpAnyH_take (i := 34) (oi := ⟨some 156, .move (.tmp 14), 51, "law.go:134", #[⟨32, .guard⟩], some (32, true)⟩) (v := undef) rfl (by kernel_rfl) (by kernel_rfl) (by kernel_rfl) (fun _ _ _ h => h) (Or.inr ⟨by rfl, rfl⟩) (by assumption) ?_
                  try simp only [Act.put, pz1, pz2, pz3]
                  refine wpAnyH_take (i := 35) (oi := ⟨some 157, .move (.tmp 18), 3, "law.go:134", #[⟨32, .guard⟩], some (32, true)⟩) (v := undef) rfl (by kernel_rfl) (by kernel_rfl) (by kernel_rfl) (fun _ _ _ h => h) (Or.inr ⟨by rfl, rfl⟩) (by assumption) ?_
                  try simp only [Act.put, pz1, pz2, pz3]
                  refine wpAnyH_take (i := 36) (oi := ⟨some 158, .indexAddr 51 (.tmp 156) (.tmp 157), 0, "law.go:134", #[⟨34, .data⟩, ⟨35, .data⟩, ⟨32, .guard⟩], some (32, true)⟩) (v := undef) rfl (by kernel_rfl) (by kernel_rfl) (by kernel_rfl) (fun _ _ _ h => h) (Or.inr ⟨by rfl, rfl⟩) (by assumption) ?_
                  try simp only [Act.put, pz1, pz2, pz3]
                  refine wpAnyH_take (i := 37) (oi := ⟨some 159, .fieldAddr 65 (.tmp 158) 0, 0, "law.go:134", #[⟨36, .data⟩, ⟨32, .guard⟩], some (32, true)⟩) (v := undef) rfl (by kernel_rfl) (by kernel_rfl) (by kernel_rfl) (fun _ _ _ h => h) (Or.inr ⟨by rfl, rfl⟩) (by assumption) ?_
                  try simp only [Act.put, pz1, pz2, pz3]
                  refine wpAnyH_take (i := 38) (oi := ⟨some 160, .load 27 (.tmp 159), 27, "law.go:134", #[⟨37, .data⟩, ⟨32, .guard⟩], some (32, true)⟩) (v := undef) rfl (by kernel_rfl) (by kernel_rfl) (by kernel_rfl) (fun _ _ _ h => h) (Or.inr ⟨by rfl, rfl⟩) (by assumption) ?_
                  try simp only [Act.put, pz1, pz2, pz3]
                  refine wpAnyH_take (i := 39) (oi := ⟨some 161, .call { callee := .value (.func 23), args := #[.tmp 155, .tmp 160], argTypes := #[23, 27] }, 3, "law.go:134", #[⟨33, .data⟩, ⟨38, .data⟩, ⟨32, .chain⟩, ⟨32, .guard⟩], some (32, true)⟩) (v := undef) rfl (by kernel_rfl) (by kernel_rfl) (by kernel_rfl) (fun _ _ _ h => h) (Or.inr ⟨by rfl, rfl⟩) (by assumption) ?_
                  try simp only [Act.put, pz1, pz2, pz3]
                  refine wpAnyH_take (i := 40) (oi := ⟨some 162, .load 23 (.tmp 3), 23, "law.go:134", #[⟨32, .guard⟩], some (32, true)⟩) (v := undef) rfl (by kernel_rfl) (by kernel_rfl) (by kernel_rfl) (fun _ _ _ h => h) (Or.inr ⟨by rfl, rfl⟩) (by assumption) ?_
                  try simp only [Act.put, pz1, pz2, pz3]
                  refine wpAnyH_take (i := 41) (oi := ⟨some 163, .move (.tmp 14), 51, "law.go:134", #[⟨32, .guard⟩], some (32, true)⟩) (v := undef) rfl (by kernel_rfl) (by kernel_rfl) (by kernel_rfl) (fun _ _ _ h => h) (Or.inr ⟨by rfl, rfl⟩) (by assumption) ?_
                  try simp only [Act.put, pz1, pz2, pz3]
                  refine wpAnyH_take (i := 42) (oi := ⟨some 164, .move (.tmp 18), 3, "law.go:134", #[⟨32, .guard⟩], some (32, true)⟩) (v := undef) rfl (by kernel_rfl) (by kernel_rfl) (by kernel_rfl) (fun _ _ _ h => h) (Or.inr ⟨by rfl, rfl⟩) (by assumption) ?_
                  try simp only [Act.put, pz1, pz2, pz3]
                  refine wpAnyH_take (i := 43) (oi := ⟨some 165, .binOp .sub 3 (.tmp 164) (.const (.int .i64 1)) 3, 3, "law.go:134", #[⟨42, .data⟩, ⟨32, .guard⟩], some (32, true)⟩) (v := undef) rfl (by kernel_rfl) (by kernel_rfl) (by kernel_rfl) (fun _ _ _ h => h) (Or.inr ⟨by rfl, rfl⟩) (by assumption) ?_
                  try simp only [Act.put, pz1, pz2, pz3]
                  refine wpAnyH_take (i := 44) (oi := ⟨some 166, .indexAddr 51 (.tmp 163) (.tmp 165), 0, "law.go:134", #[⟨41, .data⟩, ⟨43, .data⟩, ⟨32, .guard⟩], some (32, true)⟩) (v := undef) rfl (by kernel_rfl) (by kernel_rfl) (by kernel_rfl) (fun _ _ _ h => h) (Or.inr ⟨by rfl, rfl⟩) (by assumption) ?_
                  try simp only [Act.put, pz1, pz2, pz3]
                  refine wpAnyH_take (i := 45) (oi := ⟨some 167, .fieldAddr 65 (.tmp 166) 0, 0, "law.go:134", #[⟨44, .data⟩, ⟨32, .guard⟩], some (32, true)⟩) (v := undef) rfl (by kernel_rfl) (by kernel_rfl) (by kernel_rfl) (fun _ _ _ h => h) (Or.inr ⟨by rfl, rfl⟩) (by assumption) ?_
                  try simp only [Act.put, pz1, pz2, pz3]
                  refine wpAnyH_take (i := 46) (oi := ⟨some 168, .load 27 (.tmp 167), 27, "law.go:134", #[⟨45, .data⟩, ⟨32, .guard⟩], some (32, true)⟩) (v := undef) rfl (by kernel_rfl) (by kernel_rfl) (by kernel_rfl) (fun _ _ _ h => h) (Or.inr ⟨by rfl, rfl⟩) (by assumption) ?_
                  try simp only [Act.put, pz1, pz2, pz3]
                  refine wpAnyH_take (i := 47) (oi := ⟨some 169, .call { callee := .value (.func 23), args := #[.tmp 162, .tmp 168], argTypes := #[23, 27] }, 3, "law.go:134", #[⟨40, .data⟩, ⟨46, .data⟩, ⟨39, .chain⟩, ⟨32, .guard⟩], some (32, true)⟩) (v := undef) rfl (by kernel_rfl) (by kernel_rfl) (by kernel_rfl) (fun _ _ _ h => h) (Or.inr ⟨by rfl, rfl⟩) (by assumption) ?_
                  try simp only [Act.put, pz1, pz2, pz3]
                  refine wpAnyH_take (i := 48) (oi := ⟨some 170, .binOp .leq 3 (.tmp 161) (.tmp 169) 3, 4, "law.go:134", #[⟨39, .data⟩, ⟨47, .data⟩, ⟨32, .guard⟩], some (32, true)⟩) (v := undef) rfl (by kernel_rfl) (by kernel_rfl) (by kernel_rfl) (fun _ _ _ h => h) (Or.inr ⟨by rfl, rfl⟩) (by assumption) ?_
                  try simp only [Act.put, pz1, pz2, pz3]
                  refine wpAnyH_take (i := 49) (oi := ⟨some 171, .pick (.tmp 154) (.tmp 170) (.const (.bool false)), 4, "law.go:134", #[⟨32, .data⟩, ⟨48, .data⟩, ⟨29, .guard⟩], some (29, false)⟩) (v := ?_) rfl (by kernel_rfl) (by kernel_rfl) (by kernel_rfl) (fun _ _ _ h => h) (Or.inl ⟨by rfl, ?_⟩) (by assumption) ?_; rotate_left; (· (intro wS hSw; (try dsimp only at hSw); go_simp; (try with_reducible rfl))); try simp only [Act.put, pz1, pz2, pz3]
                  refine wpAnyH_take (i := 50) (oi := ⟨some 172, .pick (.tmp 151) (.const (.bool true)) (.tmp 171), 4, "law.go:134", #[⟨29, .data⟩, ⟨49, .data⟩], none⟩) (v := ?_) rfl (by kernel_rfl) (by kernel_rfl) (by kernel_rfl) (fun _ _ _ h => h) (Or.inl ⟨by rfl, ?_⟩) (by assumption) ?_; rotate_left; (· (intro wS hSw; (try dsimp only at hSw); go_simp; (try with_reducible rfl))); try simp only [Act.put, pz1, pz2, pz3]
                  refine wpAnyH_done (by kernel_rfl) ?_ _
                  refine NoPanic.normal ?_
                  clear hHeld
                  go_wp2_with fail
                  go_roundw
                  case rel => exact ⟨0 + 1, SK, by omega, by go_num, (by first | exact hCT | exact hCT.like), Lib.hid ⟨hgK.mono (by omega), hLK, hXK.trans (hXM.trans HK.out.2.2)⟩, (by first | exact HTT | exact HTT.like)⟩
                  case measure => simp [iOf]; omega
                · obtain ⟨m2, hm2⟩ : ∃ m2, mm = m2 + 1 := ⟨mm - 1, by omega⟩
                  have hmp : (0 : Int) < (mm : Int) := by omega
                  have hmp2 : 0 < mm := by omega
                  have hwr : IntKind.i64.wrap (m2 : Int) = (m2 : Int) := by
                    have hq9 : m2 < 160 := by omega
                    simp [IntKind.wrap, IntKind.bits, IntKind.signed]
                    omega
                  have hCD : ChipW wT.drew m gx gb AF fs.length cf a b c d e fs SK := hCT.like
                  have hms : (mm : Int) - 1 = (m2 : Int) := by omega
                  obtain ⟨i2, hi2⟩ : ∃ i, idx[m2]? = some i := ⟨_, List.getElem?_eq_getElem (by omega)⟩
                  have hx2 : (fdsOf acc)[m2]? = some (fdI NB RW S2.X i2) := by rw [hE.fd.out, List.getElem?_map, hi2]; rfl
                  have hlt2 : ¬ ((i : Int) ≤ (i2 : Int)) := by
                    have := hE.lt m2 i2 i hi2 (by rw [← hm2]; exact hI.out)
                    omega
                  have hnum2 := num_at hE.na hE.nb hNB0 (hE.mem i2 (List.mem_of_getElem? hi2)).1
                  obtain ⟨u2, v2, hu2⟩ : ∃ u v : Int, ((i2 / NB : Nat) : Int) = u ∧ ((i2 % NB : Nat) : Int) = v := ⟨_, _, rfl, rfl⟩
                  rw [hu2.1, hu2.2] at hnum2
                  obtain ⟨w0, w1, -⟩ := HQ.out m2 _ hx2
                  unfold fdI at w0 w1
                  dsimp only at w0 w1
                  rw [hu2.1] at w0
                  rw [hu2.2] at w1
                  have HN2 := Lib.hid hnum2
                  have hcb := hTW.far b1 hl1r hnb1
                  have HCs : CsN wT b1 (o1 + mm * 6) (o1 + m2 * 6) w.heap.size tb u v K P Sq E u2 v2 a b c d e := ⟨(World.cell?_of_block (w := wr) hcb).trans w0, (World.cell?_of_block (w := wr) hcb).trans w1, HCs⟩
                  have m20 : (0 : Int) ≤ (m2 : Int) := by omega
                  have m21 : (m2 : Int) < (q : Int) := by omega
                  clear hnum2 hx2 w0 w1 hcb hTW hbT hu2 hi2 hm2 hmz
                  refine wp_region_noPanic ?_
                  refine wp_region_held_drew (S := (fun w' => w'.cell? ⟨b1, o1 + m2 * 6, none⟩ = some (.int .i64 u2) ∧ w'.cell? ⟨b1, o1 + m2 * 6 + 1, none⟩ = some (.int .i64 v2) ∧ w'.cell? ⟨b1, o1 + mm * 6, none⟩ = some (.int .i64 u) ∧ w'.cell? ⟨b1, o1 + mm * 6 + 1, none⟩ = some (.int .i64 v) ∧ w'.cell? ⟨b1, o1 + mm * 6 + 2, none⟩ = some (.int .i64 (K : Int)) ∧ w'.cell? ⟨b1, o1 + mm * 6 + 3, none⟩ = some (.int .i64 (P : Int)) ∧ w'.cell? ⟨b1, o1 + mm * 6 + 4, none⟩ = some (.int .i64 (Sq : Int)) ∧ w'.cell? ⟨b1, o1 + mm * 6 + 5, none⟩ = some (.int .i64 (E : Int)) ∧ w'.cell? ⟨tb, 0, none⟩ = some (.int .i64 (K : Int)) ∧ w'.cell? ⟨tb, 1, none⟩ = some (.int .i64 (P : Int)) ∧ w'.cell? ⟨tb, 2, none⟩ = some (.int .i64 (Sq : Int)) ∧ w'.cell? ⟨tb, 3, none⟩ = some (.int .i64 (E : Int)) ∧ w'.cell? ⟨w.heap.size, 0, none⟩ = some (.int .i64 a) ∧ w'.cell? ⟨w.heap.size, 1, none⟩ = some (.int .i64 b) ∧ w'.cell? ⟨w.heap.size, 2, none⟩ = some (.int .i64 c) ∧ w'.cell? ⟨w.heap.size, 3, none⟩ = some (.int .i64 d) ∧ w'.cell? ⟨w.heap.size, 4, none⟩ = some (.int .i64 e))) (by kernel_rfl) ?_ (fun hHeld => ?_)
                  · (first | exact HCs | assumption)
                  refine wpAnyH_take (i := 0) (oi := ⟨some 122, .move (.tmp 19), 3, "law.go:134", #[], none⟩) (v := ?_) rfl (by kernel_rfl) (by kernel_rfl) (by kernel_rfl) (fun _ _ _ h => h) (Or.inl ⟨by rfl, ?_⟩) (by assumption) ?_; rotate_left; (· (intro wS hSw; (try dsimp only at hSw); go_simp; (try with_reducible rfl))); try simp only [Act.put, pz1, pz2, pz3]
                  refine wpAnyH_take (i := 1) (oi := ⟨some 123, .binOp .neq 3 (.tmp 122) (.const (.int .i64 1)) 3, 4, "law.go:134", #[⟨0, .data⟩], none⟩) (v := ?_) rfl (by kernel_rfl) (by kernel_rfl) (by kernel_rfl) (fun _ _ _ h => h) (Or.inl ⟨by rfl, ?_⟩) (by assumption) ?_; rotate_left; (· (intro wS hSw; (try dsimp only at hSw); go_simp; (try with_reducible rfl))); try simp only [Act.put, pz1, pz2, pz3]
                  refine wpAnyH_take (i := 2) (oi := ⟨some 124, .move (.tmp 123), 4, "law.go:134", #[⟨1, .data⟩], none⟩) (v := ?_) rfl (by kernel_rfl) (by kernel_rfl) (by kernel_rfl) (fun _ _ _ h => h) (Or.inl ⟨by rfl, ?_⟩) (by assumption) ?_; rotate_left; (· (intro wS hSw; (try dsimp only at hSw); go_simp; (try with_reducible rfl))); try simp only [Act.put, pz1, pz2, pz3]
                  refine wpAnyH_take (i := 3) (oi := ⟨some 125, .move (.tmp 20), 33, "law.go:134", #[⟨2, .guard⟩], some (2, false)⟩) (v := ?_) rfl (by kernel_rfl) (by kernel_rfl) (by kernel_rfl) (fun _ _ _ h => h) (Or.inl ⟨by rfl, ?_⟩) (by assumption) ?_; rotate_left; (· (intro wS hSw; (try dsimp only at hSw); go_simp; (try with_reducible rfl))); try simp only [Act.put, pz1, pz2, pz3]
                  refine wpAnyH_take (i := 4) (oi := ⟨some 126, .binOp .neq 33 (.tmp 125) (.const (.int .i64 0)) 33, 4, "law.go:134", #[⟨3, .data⟩, ⟨2, .guard⟩], some (2, false)⟩) (v := ?_) rfl (by kernel_rfl) (by kernel_rfl) (by kernel_rfl) (fun _ _ _ h => h) (Or.inl ⟨by rfl, ?_⟩) (by assumption) ?_; rotate_left; (· (intro wS hSw; (try dsimp only at hSw); go_simp; (try with_reducible rfl))); try simp only [Act.put, pz1, pz2, pz3]
                  refine wpAnyH_take (i := 5) (oi := ⟨some 127, .pick (.tmp 124) (.const (.bool true)) (.tmp 126), 4, "law.go:134", #[⟨2, .data⟩, ⟨4, .data⟩], none⟩) (v := ?_) rfl (by kernel_rfl) (by kernel_rfl) (by kernel_rfl) (fun _ _ _ h => h) (Or.inl ⟨by rfl, ?_⟩) (by assumption) ?_; rotate_left; (· (intro wS hSw; (try dsimp only at hSw); go_simp; (try with_reducible rfl))); try simp only [Act.put, pz1, pz2, pz3]
                  refine wpAnyH_take (i := 6) (oi := ⟨some 128, .move (.tmp 127), 4, "law.go:134", #[⟨5, .data⟩, ⟨2, .chain⟩], none⟩) (v := ?_) rfl (by kernel_rfl) (by kernel_rfl) (by kernel_rfl) (fun _ _ _ h => h) (Or.inl ⟨by rfl, ?_⟩) (by assumption) ?_; rotate_left; (· (intro wS hSw; (try dsimp only at hSw); go_simp; (try with_reducible rfl))); try simp only [Act.put, pz1, pz2, pz3]
                  refine wpAnyH_take (i := 7) (oi := ⟨some 129, .move (.tmp 23), 33, "law.go:134", #[⟨6, .guard⟩], some (6, false)⟩) (v := ?_) rfl (by kernel_rfl) (by kernel_rfl) (by kernel_rfl) (fun _ _ _ h => h) (Or.inl ⟨by rfl, ?_⟩) (by assumption) ?_; rotate_left; (· (intro wS hSw; (try dsimp only at hSw); go_simp; (try with_reducible rfl))); try simp only [Act.put, pz1, pz2, pz3]
                  refine wpAnyH_take (i := 8) (oi := ⟨some 130, .binOp .neq 33 (.tmp 129) (.const (.int .i64 0)) 33, 4, "law.go:134", #[⟨7, .data⟩, ⟨6, .guard⟩], some (6, false)⟩) (v := ?_) rfl (by kernel_rfl) (by kernel_rfl) (by kernel_rfl) (fun _ _ _ h => h) (Or.inl ⟨by rfl, ?_⟩) (by assumption) ?_; rotate_left; (· (intro wS hSw; (try dsimp only at hSw); go_simp; (try with_reducible rfl))); try simp only [Act.put, pz1, pz2, pz3]
                  refine wpAnyH_take (i := 9) (oi := ⟨some 131, .pick (.tmp 128) (.const (.bool true)) (.tmp 130), 4, "law.go:134", #[⟨6, .data⟩, ⟨8, .data⟩], none⟩) (v := ?_) rfl (by kernel_rfl) (by kernel_rfl) (by kernel_rfl) (fun _ _ _ h => h) (Or.inl ⟨by rfl, ?_⟩) (by assumption) ?_; rotate_left; (· (intro wS hSw; (try dsimp only at hSw); go_simp; (try with_reducible rfl))); try simp only [Act.put, pz1, pz2, pz3]
                  refine wpAnyH_take (i := 10) (oi := ⟨some 132, .move (.tmp 131), 4, "law.go:134", #[⟨9, .data⟩, ⟨6, .chain⟩], none⟩) (v := ?_) rfl (by kernel_rfl) (by kernel_rfl) (by kernel_rfl) (fun _ _ _ h => h) (Or.inl ⟨by rfl, ?_⟩) (by assumption) ?_; rotate_left; (· (intro wS hSw; (try dsimp only at hSw); go_simp; (try with_reducible rfl))); try simp only [Act.put, pz1, pz2, pz3]
                  refine wpAnyH_take (i := 11) (oi := ⟨some 133, .load 40 (.tmp 22), 40, "law.go:134", #[⟨10, .guard⟩], some (10, false)⟩) (v := ?_) rfl (by kernel_rfl) (by kernel_rfl) (by kernel_rfl) (fun _ _ _ h => h) (Or.inl ⟨by rfl, ?_⟩) (by assumption) ?_; rotate_left; (· (intro wS hSw; (try dsimp only at hSw); go_simp; (try with_reducible rfl))); try simp only [Act.put, pz1, pz2, pz3]
                  refine wpAnyH_take (i := 12) (oi := ⟨some 134, .move (.tmp 14), 51, "law.go:134", #[⟨10, .guard⟩], some (10, false)⟩) (v := ?_) rfl (by kernel_rfl) (by kernel_rfl) (by kernel_rfl) (fun _ _ _ h => h) (Or.inl ⟨by rfl, ?_⟩) (by assumption) ?_; rotate_left; (· (intro wS hSw; (try dsimp only at hSw); go_simp; (try with_reducible rfl))); try simp only [Act.put, pz1, pz2, pz3]
                  refine wpAnyH_take (i := 13) (oi := ⟨some 135, .move (.tmp 18), 3, "law.go:134", #[⟨10, .guard⟩], some (10, false)⟩) (v := ?_) rfl (by kernel_rfl) (by kernel_rfl) (by kernel_rfl) (fun _ _ _ h => h) (Or.inl ⟨by rfl, ?_⟩) (by assumption) ?_; rotate_left; (· (intro wS hSw; (try dsimp only at hSw); go_simp; (try with_reducible rfl))); try simp only [Act.put, pz1, pz2, pz3]
                  refine wpAnyH_take (i := 14) (oi := ⟨some 136, .indexAddr 51 (.tmp 134) (.tmp 135), 0, "law.go:134", #[⟨12, .data⟩, ⟨13, .data⟩, ⟨10, .guard⟩], some (10, false)⟩) (v := ?_) rfl (by kernel_rfl) (by kernel_rfl) (by kernel_rfl) (fun _ _ _ h => h) (Or.inl ⟨by rfl, ?_⟩) (by assumption) ?_; rotate_left; (· (intro wS hSw; (try dsimp only at hSw); go_simp; (try with_reducible rfl))); try simp only [Act.put, pz1, pz2, pz3]
                  refine wpAnyH_take (i := 15) (oi := ⟨some 137, .fieldAddr 65 (.tmp 136) 1, 0, "law.go:134", #[⟨14, .data⟩, ⟨10, .guard⟩], some (10, false)⟩) (v := ?_) rfl (by kernel_rfl) (by kernel_rfl) (by kernel_rfl) (fun _ _ _ h => h) (Or.inl ⟨by rfl, ?_⟩) (by assumption) ?_; rotate_left; (· (intro wS hSw; (try dsimp only at hSw); go_simp; (try with_reducible rfl))); try simp only [Act.put, pz1, pz2, pz3]
                  refine wpAnyH_take (i := 16) (oi := ⟨some 138, .load 40 (.tmp 137), 40, "law.go:134", #[⟨15, .data⟩, ⟨10, .guard⟩], some (10, false)⟩) (v := ?_) rfl (by kernel_rfl) (by kernel_rfl) (by kernel_rfl) (fun _ _ _ h => h) (Or.inl ⟨by rfl, ?_⟩) (by assumption) ?_; rotate_left; (· (intro wS hSw; (try dsimp only at hSw); go_simp; (try with_reducible rfl))); try simp only [Act.put, pz1, pz2, pz3]
                  refine wpAnyH_take (i := 17) (oi := ⟨some 139, .binOp .neq 40 (.tmp 133) (.tmp 138) 40, 4, "law.go:134", #[⟨11, .data⟩, ⟨16, .data⟩, ⟨10, .guard⟩], some (10, false)⟩) (v := ?_) rfl (by kernel_rfl) (by kernel_rfl) (by kernel_rfl) (fun _ _ _ h => h) (Or.inl ⟨by rfl, ?_⟩) (by assumption) ?_; rotate_left; (· (intro wS hSw; (try dsimp only at hSw); go_simp; (try with_reducible rfl))); try simp only [Act.put, pz1, pz2, pz3]
                  refine wpAnyH_take (i := 18) (oi := ⟨some 140, .pick (.tmp 132) (.const (.bool true)) (.tmp 139), 4, "law.go:134", #[⟨10, .data⟩, ⟨17, .data⟩], none⟩) (v := ?_) rfl (by kernel_rfl) (by kernel_rfl) (by kernel_rfl) (fun _ _ _ h => h) (Or.inl ⟨by rfl, ?_⟩) (by assumption) ?_; rotate_left; (· (intro wS hSw; (try dsimp only at hSw); go_simp; (try with_reducible rfl))); try simp only [Act.put, pz1, pz2, pz3]
                  refine wpAnyH_take (i := 19) (oi := ⟨some 141, .move (.tmp 140), 4, "law.go:134", #[⟨18, .data⟩, ⟨10, .chain⟩], none⟩) (v := ?_) rfl (by kernel_rfl) (by kernel_rfl) (by kernel_rfl) (fun _ _ _ h => h) (Or.inl ⟨by rfl, ?_⟩) (by assumption) ?_; rotate_left; (· (intro wS hSw; (try dsimp only at hSw); go_simp; (try with_reducible rfl))); try simp only [Act.put, pz1, pz2, pz3]
                  refine wpAnyH_take (i := 20) (oi := ⟨some 142, .move (.tmp 7), 29, "law.go:134", #[⟨19, .guard⟩], some (19, false)⟩) (v := ?_) rfl (by kernel_rfl) (by kernel_rfl) (by kernel_rfl) (fun _ _ _ h => h) (Or.inl ⟨by rfl, ?_⟩) (by assumption) ?_; rotate_left; (· (intro wS hSw; (try dsimp only at hSw); go_simp; (try with_reducible rfl))); try simp only [Act.put, pz1, pz2, pz3]
                  refine wpAnyH_take (i := 21) (oi := ⟨some 143, .move (.tmp 14), 51, "law.go:134", #[⟨19, .guard⟩], some (19, false)⟩) (v := ?_) rfl (by kernel_rfl) (by kernel_rfl) (by kernel_rfl) (fun _ _ _ h => h) (Or.inl ⟨by rfl, ?_⟩) (by assumption) ?_; rotate_left; (· (intro wS hSw; (try dsimp only at hSw); go_simp; (try with_reducible rfl))); try simp only [Act.put, pz1, pz2, pz3]
                  refine wpAnyH_take (i := 22) (oi := ⟨some 144, .move (.tmp 18), 3, "law.go:134", #[⟨19, .guard⟩], some (19, false)⟩) (v := ?_) rfl (by kernel_rfl) (by kernel_rfl) (by kernel_rfl) (fun _ _ _ h => h) (Or.inl ⟨by rfl, ?_⟩) (by assumption) ?_; rotate_left; (· (intro wS hSw; (try dsimp only at hSw); go_simp; (try with_reducible rfl))); try simp only [Act.put, pz1, pz2, pz3]
                  refine wpAnyH_take (i := 23) (oi := ⟨some 145, .indexAddr 51 (.tmp 143) (.tmp 144), 0, "law.go:134", #[⟨21, .data⟩, ⟨22, .data⟩, ⟨19, .guard⟩], some (19, false)⟩) (v := ?_) rfl (by kernel_rfl) (by kernel_rfl) (by kernel_rfl) (fun _ _ _ h => h) (Or.inl ⟨by rfl, ?_⟩) (by assumption) ?_; rotate_left; (· (intro wS hSw; (try dsimp only at hSw); go_simp; (try with_reducible rfl))); try simp only [Act.put, pz1, pz2, pz3]
                  refine wpAnyH_take (i := 24) (oi := ⟨some 146, .fieldAddr 65 (.tmp 145) 0, 0, "law.go:134", #[⟨23, .data⟩, ⟨19, .guard⟩], some (19, false)⟩) (v := ?_) rfl (by kernel_rfl) (by kernel_rfl) (by kernel_rfl) (fun _ _ _ h => h) (Or.inl ⟨by rfl, ?_⟩) (by assumption) ?_; rotate_left; (· (intro wS hSw; (try dsimp only at hSw); go_simp; (try with_reducible rfl))); try simp only [Act.put, pz1, pz2, pz3]
                  refine wpAnyH_take (i := 25) (oi := ⟨some 147, .fieldAddr 27 (.tmp 146) 0, 0, "law.go:134", #[⟨24, .data⟩, ⟨19, .guard⟩], some (19, false)⟩) (v := ?_) rfl (by kernel_rfl) (by kernel_rfl) (by kernel_rfl) (fun _ _ _ h => h) (Or.inl ⟨by rfl, ?_⟩) (by assumption) ?_; rotate_left; (· (intro wS hSw; (try dsimp only at hSw); go_simp; (try with_reducible rfl))); try simp only [Act.put, pz1, pz2, pz3]
                  refine wpAnyH_take (i := 26) (oi := ⟨some 148, .load 3 (.tmp 147), 3, "law.go:134", #[⟨25, .data⟩, ⟨19, .guard⟩], some (19, false)⟩) (v := ?_) rfl (by kernel_rfl) (by kernel_rfl) (by kernel_rfl) (fun _ _ _ h => h) (Or.inl ⟨by rfl, ?_⟩) (by assumption) ?_; rotate_left; (· (intro wS hSw; (try dsimp only at hSw); go_simp; (try with_reducible rfl))); try simp only [Act.put, pz1, pz2, pz3]
                  refine wpAnyH_ready (rs := [27]) (by kernel_rfl) (by simp) ?_
                  refine AllReadyH.cons (o := ⟨some 149, .call { callee := .value (.func 22), args := #[.tmp 142, .tmp 148], argTypes := #[29, 3] }, 4, "law.go:134", #[⟨20, .data⟩, ⟨26, .data⟩, ⟨19, .chain⟩, ⟨19, .guard⟩], some (19, false)⟩) rfl (fun K hK => ?_) AllReadyH.nil
                  go_simp
                  (first | (go_at_call 22; ((with_reducible refine (bad_v0 m gx gb AF fs.length cf a b c d e fs _ _ _ SK (by first | exact hCT | exact hCD) HBD).mono ?_); rintro e' wN ⟨rfl, hb⟩; (try have hb := undrew hb); replace HCs := HCs.below hb l1 l2 l3; replace l1 := Nat.lt_of_lt_of_le l1 hb.size; replace l2 := Nat.lt_of_lt_of_le l2 hb.size; replace l3 := Nat.lt_of_lt_of_le l3 hb.size; replace hCT := hCT.below hb; replace HTT := HTT.then hb)) | (go_at_call 23; ((with_reducible refine (rnum_c _ _ _ _ _ u v i _ HM HN1).mono ?_); rintro e' wN ⟨rfl, hb⟩; (try have hb := undrew hb); replace HCs := HCs.below hb l1 l2 l3; replace l1 := Nat.lt_of_lt_of_le l1 hb.size; replace l2 := Nat.lt_of_lt_of_le l2 hb.size; replace l3 := Nat.lt_of_lt_of_le l3 hb.size; replace hCT := hCT.below hb; replace HTT := HTT.then hb)) | (go_at_call 23; ((with_reducible refine (rnum_c _ _ _ _ _ u2 v2 i2 _ HM HN2).mono ?_); rintro e' wN ⟨rfl, hb⟩; (try have hb := undrew hb); replace HCs := HCs.below hb l1 l2 l3; replace l1 := Nat.lt_of_lt_of_le l1 hb.size; replace l2 := Nat.lt_of_lt_of_le l2 hb.size; replace l3 := Nat.lt_of_lt_of_le l3 hb.size; replace hCT := hCT.below hb; replace HTT := HTT.then hb)))
                  go_wp2_with fail
                  refine hK.out _ _ ?_ (fun hNew => ?_)
                  · (first | exact HCs | assumption)
                  clear hK K hHeld
                  have hHeld := hNew
                  clear hNew
                  try simp only [Act.put, pz1, pz2, pz3]
                  refine wpAnyH_take (i := 28) (oi := ⟨some 150, .pick (.tmp 141) (.const (.bool true)) (.tmp 149), 4, "law.go:134", #[⟨19, .data⟩, ⟨27, .data⟩], none⟩) (v := ?_) rfl (by kernel_rfl) (by kernel_rfl) (by kernel_rfl) (fun _ _ _ h => h) (Or.inl ⟨by rfl, ?_⟩) (by assumption) ?_; rotate_left; (· (intro wS hSw; (try dsimp only at hSw); go_simp; (try with_reducible rfl))); try simp only [Act.put, pz1, pz2, pz3]
                  refine wpAnyH_take (i := 29) (oi := ⟨some 151, .move (.tmp 150), 4, "law.go:134", #[⟨28, .data⟩, ⟨27, .chain⟩], none⟩) (v := ?_) rfl (by kernel_rfl) (by kernel_rfl) (by kernel_rfl) (fun _ _ _ h => h) (Or.inl ⟨by rfl, ?_⟩) (by assumption) ?_; rotate_left; (· (intro wS hSw; (try dsimp only at hSw); go_simp; (try with_reducible rfl))); try simp only [Act.put, pz1, pz2, pz3]
                  refine wpAnyH_take (i := 30) (oi := ⟨some 152, .move (.tmp 18), 3, "law.go:134", #[⟨29, .guard⟩], some (29, false)⟩) (v := ?_) rfl (by kernel_rfl) (by kernel_rfl) (by kernel_rfl) (fun _ _ _ h => h) (Or.inl ⟨by rfl, ?_⟩) (by assumption) ?_; rotate_left; (· (intro wS hSw; (try dsimp only at hSw); go_simp; (try with_reducible rfl))); try simp only [Act.put, pz1, pz2, pz3]
                  refine wpAnyH_take (i := 31) (oi := ⟨some 153, .binOp .gtr 3 (.tmp 152) (.const (.int .i64 0)) 3, 4, "law.go:134", #[⟨30, .data⟩, ⟨29, .guard⟩], some (29, false)⟩) (v := ?_) rfl (by kernel_rfl) (by kernel_rfl) (by kernel_rfl) (fun _ _ _ h => h) (Or.inl ⟨by rfl, ?_⟩) (by assumption) ?_; rotate_left; (· (intro wS hSw; (try dsimp only at hSw); go_simp; (try with_reducible rfl))); try simp only [Act.put, pz1, pz2, pz3]
                  refine wpAnyH_take (i := 32) (oi := ⟨some 154, .move (.tmp 153), 4, "law.go:134", #[⟨31, .data⟩, ⟨29, .chain⟩, ⟨29, .guard⟩], some (29, false)⟩) (v := ?_) rfl (by kernel_rfl) (by kernel_rfl) (by kernel_rfl) (fun _ _ _ h => h) (Or.inl ⟨by rfl, ?_⟩) (by assumption) ?_; rotate_left; (· (intro wS hSw; (try dsimp only at hSw); go_simp; (try with_reducible rfl))); try simp only [Act.put, pz1, pz2, pz3]
                  refine wpAnyH_take (i := 33) (oi := ⟨some 155, .load 23 (.tmp 3), 23, "law.go:134", #[⟨32, .guard⟩], some (32, true)⟩) (v := ?_) rfl (by kernel_rfl) (by kernel_rfl) (by kernel_rfl) (fun _ _ _ h => h) (Or.inl ⟨by rfl, ?_⟩) (by assumption) ?_; rotate_left; (· (intro wS hSw; (try dsimp only at hSw); go_simp; (try with_reducible rfl))); try simp only [Act.put, pz1, pz2, pz3]
                  refine wpAnyH_take (i := 34) (oi := ⟨some 156, .move (.tmp 14), 51, "law.go:134", #[⟨32, .guard⟩], some (32, true)⟩) (v := ?_) rfl (by kernel_rfl) (by kernel_rfl) (by kernel_rfl) (fun _ _ _ h => h) (Or.inl ⟨by rfl, ?_⟩) (by assumption) ?_; rotate_left; (· (intro wS hSw; (try dsimp only at hSw); go_simp; (try with_reducible rfl))); try simp only [Act.put, pz1, pz2, pz3]
                  refine wpAnyH_take (i := 35) (oi := ⟨some 157, .move (.tmp 18), 3, "law.go:134", #[⟨32, .guard⟩], some (32, true)⟩) (v := ?_) rfl (by kernel_rfl) (by kernel_rfl) (by kernel_rfl) (fun _ _ _ h => h) (Or.inl ⟨by rfl, ?_⟩) (by assumption) ?_; rotate_left; (· (intro wS hSw; (try dsimp only at hSw); go_simp; (try with_reducible rfl))); try simp only [Act.put, pz1, pz2, pz3]
                  refine wpAnyH_take (i := 36) (oi := ⟨some 158, .indexAddr 51 (.tmp 156) (.tmp 157), 0, "law.go:134", #[⟨34, .data⟩, ⟨35, .data⟩, ⟨32, .guard⟩], some (32, true)⟩) (v := ?_) rfl (by kernel_rfl) (by kernel_rfl) (by kernel_rfl) (fun _ _ _ h => h) (Or.inl ⟨by rfl, ?_⟩) (by assumption) ?_; rotate_left; (· (intro wS hSw; (try dsimp only at hSw); go_simp; (try with_reducible rfl))); try simp only [Act.put, pz1, pz2, pz3]
                  refine wpAnyH_take (i := 37) (oi := ⟨some 159, .fieldAddr 65 (.tmp 158) 0, 0, "law.go:134", #[⟨36, .data⟩, ⟨32, .guard⟩], some (32, true)⟩) (v := ?_) rfl (by kernel_rfl) (by kernel_rfl) (by kernel_rfl) (fun _ _ _ h => h) (Or.inl ⟨by rfl, ?_⟩) (by assumption) ?_; rotate_left; (· (intro wS hSw; (try dsimp only at hSw); go_simp; (try with_reducible rfl))); try simp only [Act.put, pz1, pz2, pz3]
                  refine wpAnyH_take (i := 38) (oi := ⟨some 160, .load 27 (.tmp 159), 27, "law.go:134", #[⟨37, .data⟩, ⟨32, .guard⟩], some (32, true)⟩) (v := ?_) rfl (by kernel_rfl) (by kernel_rfl) (by kernel_rfl) (fun _ _ _ h => h) (Or.inl ⟨by rfl, ?_⟩) (by assumption) ?_; rotate_left; (· (intro wS hSw; (try dsimp only at hSw); go_simp; (try with_reducible rfl))); try simp only [Act.put, pz1, pz2, pz3]
                  refine wpAnyH_take (i := 40) (oi := ⟨some 162, .load 23 (.tmp 3), 23, "law.go:134", #[⟨32, .guard⟩], some (32, true)⟩) (v := ?_) rfl (by kernel_rfl) (by kernel_rfl) (by kernel_rfl) (fun _ _ _ h => h) (Or.inl ⟨by rfl, ?_⟩) (by assumption) ?_; rotate_left; (· (intro wS hSw; (try dsimp only at hSw); go_simp; (try with_reducible rfl))); try simp only [Act.put, pz1, pz2, pz3]
                  refine wpAnyH_take (i := 41) (oi := ⟨some 163, .move (.tmp 14), 51, "law.go:134", #[⟨32, .guard⟩], some (32, true)⟩) (v := ?_) rfl (by kernel_rfl) (by kernel_rfl) (by kernel_rfl) (fun _ _ _ h => h) (Or.inl ⟨by rfl, ?_⟩) (by assumption) ?_; rotate_left; (· (intro wS hSw; (try dsimp only at hSw); go_simp; (try with_reducible rfl))); try simp only [Act.put, pz1, pz2, pz3]
                  refine wpAnyH_take (i := 42) (oi := ⟨some 164, .move (.tmp 18), 3, "law.go:134", #[⟨32, .guard⟩], some (32, true)⟩) (v := ?_) rfl (by kernel_rfl) (by kernel_rfl) (by kernel_rfl) (fun _ _ _ h => h) (Or.inl ⟨by rfl, ?_⟩) (by assumption) ?_; rotate_left; (· (intro wS hSw; (try dsimp only at hSw); go_simp; (try with_reducible rfl))); try simp only [Act.put, pz1, pz2, pz3]
                  refine wpAnyH_take (i := 43) (oi := ⟨some 165, .binOp .sub 3 (.tmp 164) (.const (.int .i64 1)) 3, 3, "law.go:134", #[⟨42, .data⟩, ⟨32, .guard⟩], some (32, true)⟩) (v := ?_) rfl (by kernel_rfl) (by kernel_rfl) (by kernel_rfl) (fun _ _ _ h => h) (Or.inl ⟨by rfl, ?_⟩) (by assumption) ?_; rotate_left; (· (intro wS hSw; (try dsimp only at hSw); go_simp; (try with_reducible rfl))); try simp only [Act.put, pz1, pz2, pz3]
                  refine wpAnyH_take (i := 44) (oi := ⟨some 166, .indexAddr 51 (.tmp 163) (.tmp 165), 0, "law.go:134", #[⟨41, .data⟩, ⟨43, .data⟩, ⟨32, .guard⟩], some (32, true)⟩) (v := ?_) rfl (by kernel_rfl) (by kernel_rfl) (by kernel_rfl) (fun _ _ _ h => h) (Or.inl ⟨by rfl, ?_⟩) (by assumption) ?_; rotate_left; (· (intro wS hSw; (try dsimp only at hSw); go_simp; (try with_reducible rfl))); try simp only [Act.put, pz1, pz2, pz3]
                  refine wpAnyH_take (i := 45) (oi := ⟨some 167, .fieldAddr 65 (.tmp 166) 0, 0, "law.go:134", #[⟨44, .data⟩, ⟨32, .guard⟩], some (32, true)⟩) (v := ?_) rfl (by kernel_rfl) (by kernel_rfl) (by kernel_rfl) (fun _ _ _ h => h) (Or.inl ⟨by rfl, ?_⟩) (by assumption) ?_; rotate_left; (· (intro wS hSw; (try dsimp only at hSw); go_simp; (try with_reducible rfl))); try simp only [Act.put, pz1, pz2, pz3]
                  refine wpAnyH_take (i := 46) (oi := ⟨some 168, .load 27 (.tmp 167), 27, "law.go:134", #[⟨45, .data⟩, ⟨32, .guard⟩], some (32, true)⟩) (v := ?_) rfl (by kernel_rfl) (by kernel_rfl) (by kernel_rfl) (fun _ _ _ h => h) (Or.inl ⟨by rfl, ?_⟩) (by assumption) ?_; rotate_left; (· (intro wS hSw; (try dsimp only at hSw); go_simp; (try with_reducible rfl))); try simp only [Act.put, pz1, pz2, pz3]
                  refine wpAnyH_ready (rs := [39]) (by kernel_rfl) (by simp) ?_
                  refine AllReadyH.cons (o := ⟨some 161, .call { callee := .value (.func 23), args := #[.tmp 155, .tmp 160], argTypes := #[23, 27] }, 3, "law.go:134", #[⟨33, .data⟩, ⟨38, .data⟩, ⟨32, .chain⟩, ⟨32, .guard⟩], some (32, true)⟩) rfl (fun K hK => ?_) AllReadyH.nil
                  go_simp
                  (first | (go_at_call 22; ((with_reducible refine (bad_v0 m gx gb AF fs.length cf a b c d e fs _ _ _ SK (by first | exact hCT | exact hCD) HBD).mono ?_); rintro e' wN ⟨rfl, hb⟩; (try have hb := undrew hb); replace HCs := HCs.below hb l1 l2 l3; replace l1 := Nat.lt_of_lt_of_le l1 hb.size; replace l2 := Nat.lt_of_lt_of_le l2 hb.size; replace l3 := Nat.lt_of_lt_of_le l3 hb.size; replace hCT := hCT.below hb; replace HTT := HTT.then hb)) | (go_at_call 23; ((with_reducible refine (rnum_c _ _ _ _ _ u v i _ HM HN1).mono ?_); rintro e' wN ⟨rfl, hb⟩; (try have hb := undrew hb); replace HCs := HCs.below hb l1 l2 l3; replace l1 := Nat.lt_of_lt_of_le l1 hb.size; replace l2 := Nat.lt_of_lt_of_le l2 hb.size; replace l3 := Nat.lt_of_lt_of_le l3 hb.size; replace hCT := hCT.below hb; replace HTT := HTT.then hb)) | (go_at_call 23; ((with_reducible refine (rnum_c _ _ _ _ _ u2 v2 i2 _ HM HN2).mono ?_); rintro e' wN ⟨rfl, hb⟩; (try have hb := undrew hb); replace HCs := HCs.below hb l1 l2 l3; replace l1 := Nat.lt_of_lt_of_le l1 hb.size; replace l2 := Nat.lt_of_lt_of_le l2 hb.size; replace l3 := Nat.lt_of_lt_of_le l3 hb.size; replace hCT := hCT.below hb; replace HTT := HTT.then hb)))
                  go_wp2_with fail
                  refine hK.out _ _ ?_ (fun hNew => ?_)
                  · (first | exact HCs | assumption)
                  clear hK K hHeld
                  have hHeld := hNew
                  clear hNew
                  try simp only [Act.put, pz1, pz2, pz3]
                  refine wpAnyH_ready (rs := [47]) (by kernel_rfl) (by simp) ?_
                  refine AllReadyH.cons (o := ⟨some 169, .call { callee := .value (.func 23), args := #[.tmp 162, .tmp 168], argTypes := #[23, 27] }, 3, "law.go:134", #[⟨40, .data⟩, ⟨46, .data⟩, ⟨39, .chain⟩, ⟨32, .guard⟩], some (32, true)⟩) rfl (fun K hK => ?_) AllReadyH.nil
                  go_simp
                  (first | (go_at_call 22; ((with_reducible refine (bad_v0 m gx gb AF fs.length cf a b c d e fs _ _ _ SK (by first | exact hCT | exact hCD) HBD).mono ?_); rintro e' wN ⟨rfl, hb⟩; (try have hb := undrew hb); replace HCs := HCs.below hb l1 l2 l3; replace l1 := Nat.lt_of_lt_of_le l1 hb.size; replace l2 := Nat.lt_of_lt_of_le l2 hb.size; replace l3 := Nat.lt_of_lt_of_le l3 hb.size; replace hCT := hCT.below hb; replace HTT := HTT.then hb)) | (go_at_call 23; ((with_reducible refine (rnum_c _ _ _ _ _ u v i _ HM HN1).mono ?_); rintro e' wN ⟨rfl, hb⟩; (try have hb := undrew hb); replace HCs := HCs.below hb l1 l2 l3; replace l1 := Nat.lt_of_lt_of_le l1 hb.size; replace l2 := Nat.lt_of_lt_of_le l2 hb.size; replace l3 := Nat.lt_of_lt_of_le l3 hb.size; replace hCT := hCT.below hb; replace HTT := HTT.then hb)) | (go_at_call 23; ((with_reducible refine (rnum_c _ _ _ _ _ u2 v2 i2 _ HM HN2).mono ?_); rintro e' wN ⟨rfl, hb⟩; (try have hb := undrew hb); replace HCs := HCs.below hb l1 l2 l3; replace l1 := Nat.lt_of_lt_of_le l1 hb.size; replace l2 := Nat.lt_of_lt_of_le l2 hb.size; replace l3 := Nat.lt_of_lt_of_le l3 hb.size; replace hCT := hCT.below hb; replace HTT := HTT.then hb)))
                  go_wp2_with fail
                  refine hK.out _ _ ?_ (fun hNew => ?_)
                  · (first | exact HCs | assumption)
                  clear hK K hHeld
                  have hHeld := hNew
                  clear hNew
                  try simp only [Act.put, pz1, pz2, pz3]
                  refine wpAnyH_take (i := 48) (oi := ⟨some 170, .binOp .leq 3 (.tmp 161) (.tmp 169) 3, 4, "law.go:134", #[⟨39, .data⟩, ⟨47, .data⟩, ⟨32, .guard⟩], some (32, true)⟩) (v := ?_) rfl (by kernel_rfl) (by kernel_rfl) (by kernel_rfl) (fun _ _ _ h => h) (Or.inl ⟨by rfl, ?_⟩) (by assumption) ?_; rotate_left; (· (intro wS hSw; (try dsimp only at hSw); go_simp; (try with_reducible rfl))); try simp only [Act.put, pz1, pz2, pz3]
                  refine wpAnyH_take (i := 49) (oi := ⟨some 171, .pick (.tmp 154) (.tmp 170) (.const (.bool false)), 4, "law.go:134", #[⟨32, .data⟩, ⟨48, .data⟩, ⟨29, .guard⟩], some (29, false)⟩) (v := ?_) rfl (by kernel_rfl) (by kernel_rfl) (by kernel_rfl) (fun _ _ _ h => h) (Or.inl ⟨by rfl, ?_⟩) (by assumption) ?_; rotate_left; (· (intro wS hSw; (try dsimp only at hSw); go_simp; (try with_reducible rfl))); try simp only [Act.put, pz1, pz2, pz3]
                  refine wpAnyH_take (i := 50) (oi := ⟨some 172, .pick (.tmp 151) (.const (.bool true)) (.tmp 171), 4, "law.go:134", #[⟨29, .data⟩, ⟨49, .data⟩], none⟩) (v := ?_) rfl (by kernel_rfl) (by kernel_rfl) (by kernel_rfl) (fun _ _ _ h => h) (Or.inl ⟨by rfl, ?_⟩) (by assumption) ?_; rotate_left; (· (intro wS hSw; (try dsimp only at hSw); go_simp; (try with_reducible rfl))); try simp only [Act.put, pz1, pz2, pz3]
                  refine wpAnyH_done (by kernel_rfl) ?_ _
                  refine NoPanic.normal ?_
                  clear hHeld
                  go_wp2_with fail
                  go_roundw
                  case rel => exact ⟨mm + 1, SK, by omega, by go_num, (by first | exact hCT | exact hCT.like), Lib.hid ⟨hgK.mono (by omega), hLK, hXK.trans (hXM.trans HK.out.2.2)⟩, (by first | exact HTT | exact HTT.like)⟩
                  case measure => simp [iOf]; omega
              · obtain rfl : mm = q := by omega
                have HBF := btrT HBR HT hlow
                have hmm : ¬ ((mm : Int) < (mm : Int)) := by omega
                go_wp2_with (go_at_call 6; ((with_reducible refine (awake9 _).mono ?_); rintro e' wN ⟨rfl, hbZ⟩; skip))
                go_ret
                exact ⟨rfl, btr HBF HBF.size hbZ⟩
    · have hi20 : (20 : Int) < (fs.length : Int) := by omega
      go_enter Try.func4, Try.ntmps4
      go_wp2_with (go_at_call 6; ((with_reducible refine (awake9 _).mono ?_); rintro e' wN ⟨rfl, hbZ⟩; skip))
      go_ret
      exact ⟨rfl, btr HB0 HB0.size hbZ⟩
  · have hi60 : (60 : Int) < (len : Int) := by omega
    go_enter Try.func4, Try.ntmps4
    go_wp2_with (go_at_call 6; ((with_reducible refine (awake9 _).mono ?_); rintro e' wN ⟨rfl, hbZ⟩; skip))
    go_ret
    exact ⟨rfl, btr HB0 HB0.size hbZ⟩
end Go.Proofs.Ytcpniplfkillbaa
namespace Go.Proofs.Ytcpniplfkillbaa
open Go.ChangeShapes Go.WideShapes Go.ChangeAt Go.RowKit Go.Deep
section
variable {H : Type} {enc : TypeId × Value → H} {P : Program} {w : World} {base : Nat} {spare : Nat → Bool} {held : Bool}
end
end Go.Proofs.Ytcpniplfkillbaa
