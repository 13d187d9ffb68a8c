/- Chapter 9's both: a chip and chapter 7's own, with pages programmed. -/
import Derived.Test.YtcpniplfkillbaaLe6
import Derived.Test.YtcpniplfkillbaaLe7
import Derived.Test.YtcpniplfkillbaaLe2
import Derived.Test.YtcpniplfkillbaaLe1
import Derived.Deep.Slices
namespace Go.Proofs.Ytcpniplfkillbaa
open Go.ChangeShapes Go.WideShapes Go.ChangeAt Go.RowKit
set_option linter.unusedSimpArgs false
set_option linter.unusedVariables false

attribute [local go_sem ↓] Go.wp_at_zero Go.wp_at_succ
theorem SlF.drew_ {w : World} {A : Option Addr} {fs : List Flt} (h : SlF w w.heap.size A fs) : SlF w.drew w.drew.heap.size A fs := h
theorem two_start {w1 w2 : World} {m gx gb : Nat} {Af : Option Addr} {nf cf mR gB gN gW gD : Nat} {AfR : Option Addr} {nfR cfR : Nat} {a b c d e : Int} {fs : List Flt} {s : ChS} (hC : ChipW w1 m gx gb Af nf cf a b c d e fs s) (hR : RefW w2 mR gB gN gW gD w1.heap.size AfR nfR cfR a b c d e fs s) (hb : Below w1.heap.size w1 w2) : Two w2 w1.heap.size m gx gb Af nf cf mR gB gN gW gD AfR nfR cfR a b c d e fs s s := by
  have hlt := hC.lt
  refine ⟨⟨hC.below hb, fun g hg => ?_, ?_⟩, hR⟩
  · rcases hg with rfl | rfl | rfl
    · exact hlt.1
    · exact hlt.2.1
    · exact hlt.2.2
  · rcases hC.flt with h1 | ⟨g, off, e, hl, _⟩
    · exact Or.inl h1
    · exact Or.inr ⟨g, off, e, hl⟩
theorem two_startE {w1 w2 : World} {m gx gb : Nat} {Af : Option Addr} {nf cf mR gB gN gW gD : Nat} {AfR : Option Addr} {nfR cfR : Nat} {a b c d e : Int} {fs : List Flt} {s : ChS} (hC : ChipW w1 m gx gb Af nf cf a b c d e fs s) (hR : RefW w2 mR gB gN gW gD w1.heap.size AfR nfR cfR a b c d e fs s) (hb : Below w1.heap.size w1 w2) : ∃ L, Two w2 L m gx gb Af nf cf mR gB gN gW gD AfR nfR cfR a b c d e fs s s := ⟨_, two_start hC hR hb⟩
theorem put_cells {e : List Value} (h : Flat [some .i64, some .i64, some .u8, some .i64, some .i64, some .i64, some .i64, some .i64] e) : ∃ (px py : Int) (nn : Nat) (k p s f torn : Int), e = [.int .i64 px, .int .i64 py, .int .u8 (nn : Int), .int .i64 k, .int .i64 p, .int .i64 s, .int .i64 f, .int .i64 torn] ∧ nn < 256 := by
  obtain ⟨x0, r0, rfl, h0, h⟩ := h.int
  obtain ⟨x1, r1, rfl, h1, h⟩ := h.int
  obtain ⟨x2, r2, rfl, h2, h⟩ := h.int
  obtain ⟨x3, r3, rfl, h3, h⟩ := h.int
  obtain ⟨x4, r4, rfl, h4, h⟩ := h.int
  obtain ⟨x5, r5, rfl, h5, h⟩ := h.int
  obtain ⟨x6, r6, rfl, h6, h⟩ := h.int
  obtain ⟨x7, r7, rfl, h7, h⟩ := h.int
  obtain rfl := h.nil
  have e1 : IntKind.u8.min = 0 := rfl
  have e2 : IntKind.u8.max = 255 := rfl
  simp only [Lit.wf, Bool.and_eq_true, decide_eq_true_eq, e1, e2] at h2
  refine ⟨x0, x1, x2.toNat, x3, x4, x5, x6, x7, ?_, by omega⟩
  rw [Int.toNat_of_nonneg h2.1]
theorem two_low {w2 : World} {m gx gb mR gB gN gW gD : Nat} {AfR : Option Addr} {nfR cfR : Nat} {a b c d e : Int} {fs : List Flt} {s : ChS} {K w0s w1s : Nat} (hA : K + 1 ≤ w0s) (hB : K + 1 ≤ w1s) (hm : w0s ≤ m) (hgx : w0s ≤ gx) (hgb : w0s ≤ gb) (hR : RefW w2 mR gB gN gW gD w1s AfR nfR cfR a b c d e fs s) : ∀ g, twB m gx gb mR gB gN gW gD g → K < g := by
  intro g hg
  rcases hg with hg | hg
  · rcases hg with rfl | rfl | rfl <;> omega
  · have := hR.ge g hg
    omega
theorem good_new (NX NB : Nat) : Good (ChS.new NX NB) 20 := by
  have hz : ∀ i, (List.replicate (3 * NB) (0 : Int)).getD i 0 = 0 := by
    intro i
    rw [List.getD_eq_getElem?_getD, List.getElem?_replicate]
    split <;> rfl
  exact ⟨⟨⟨by simp [ChS.new], by simp [ChS.new], by simp [ChS.new], by simp [ChS.new], fun i => by show 0 ≤ (List.replicate (3 * NB) (0 : Int)).getD i 0; rw [hz]; omega, fun i => by show (List.replicate (3 * NB) (0 : Int)).getD i 0 ≤ 20; rw [hz]; omega⟩, by simp [ChS.new], by simp [ChS.new]⟩, ⟨fun h => by simp [ChS.new] at h, fun h => by simp [ChS.new] at h⟩⟩
/-- On, and no cut to come. -/
structure Liv (s : ChS) : Prop where
  on : s.on = true
  ar : s.armed = false
  b8 : Bytes8 s.X
theorem Liv.cut {s : ChS} (h : Liv s) : s.cutB = false := by unfold ChS.cutB; rw [h.ar]; rfl
theorem Liv.tick {s : ChS} (h : Liv s) : Liv s.tick := by
  unfold ChS.tick
  rw [h.cut]
  exact ⟨h.on, h.ar, h.b8⟩
theorem Liv.new (NX NB : Nat) : Liv (ChS.new NX NB) := ⟨rfl, rfl, fun x hx => by
  have := List.eq_of_mem_replicate hx
  omega⟩
theorem putX_8 {X vs : List Nat} {F : Nat} (h : Bytes8 X) (hv : Bytes8 vs) : Bytes8 (putX X F vs) := by
  intro x hx
  unfold putX at hx
  rcases List.mem_append.1 hx with hx | hx
  · rcases List.mem_append.1 hx with hx | hx
    · exact h x (List.mem_of_mem_take hx)
    · exact hv x hx
  · exact h x (List.mem_of_mem_drop hx)
theorem tick_X8 (s : ChS) : s.tick.X = s.X := by unfold ChS.tick; split <;> rfl
theorem Liv.prog {s : ChS} (h : Liv s) (a b c : Int) (fs : List Flt) (x y : Int) {bs : List Nat} (hb : Bytes8 bs) : Liv (s.progS a b c fs x y bs) := by
  unfold ChS.progS
  split
  · split
    · rw [h.cut]
      have ht := h.tick
      exact ⟨ht.on, ht.ar, putX_8 h.b8 hb⟩
    · exact h.tick
  · exact h
theorem Liv.read {s : ChS} (h : Liv s) (a b x y : Int) : Liv (s.readS a b x y) := by
  unfold ChS.readS
  split
  · exact h.tick
  · exact h
theorem RowT.like_ {w : World} {g : Nat} {t : TypeId} {xs : List Value} (h : RowT w g t xs) : RowT w.drew g t xs := h
theorem tw_progR (L m gx gb : Nat) (Af : Option Addr) (nf cf mR gB gN gW gD : Nat) (AfR : Option Addr) (nfR cfR : Nat) (a b c d e : Int) (fs : List Flt) (x y : Int) (bs : List Nat) (gA cA Q : Nat) (n : Int) (w : World) (s t : ChS) (h : Two w L m gx gb Af nf cf mR gB gN gW gD AfR nfR cfR a b c d e fs s t) (hs : Fine s n) (hn : n ≤ 900000000) (hQ : bs.length = Q) (hR : RowT w gA 5 (bs.map byteV)) (hgn : ¬ chB m gx gb gA) (hcA : Q ≤ cA) (hcA2 : cA ≤ maxLen) (Z : Int) (S : ChS) (hZ : Hid (s.progZ a b c fs x y Q = Z ∧ s.progS a b c fs x y bs = S)) :
    Calls Try.prog 30 #[.pointer (some ⟨m, 0, none⟩), .agg #[.int .i64 x, .int .i64 y], .slice (some ⟨gA, 0, none⟩) Q cA] w fun e' w' => e' = .returned (.int .i64 Z) ∧ Two w' L m gx gb Af nf cf mR gB gN gW gD AfR nfR cfR a b c d e fs S t ∧ Tch (chB m gx gb) w w' := by
  obtain ⟨rfl, rfl⟩ := hZ.out
  subst hQ
  refine (prog_allC m gx gb Af nf cf a b c d e fs x y bs gA cA n w s h.cl.chip hs hn ?_ hR.lt hcA hcA2 hgn).mono ?_
  · intro j u hj
    rw [Nat.zero_add]
    exact hR.cell_ hj
  · rintro e' w' ⟨rfl, hC, hT⟩
    exact ⟨rfl, h.chip hC hT, hT⟩
set_option maxRecDepth 100000 in
set_option maxHeartbeats 8000000 in
theorem both_any (a b c d e : Int) (A1 : Option Addr) (c1 : Nat) (fs : List Flt) (A : Option Addr) (len cap : Nat) (es : List (List Value)) (w : World) (hq1 : fs.length ≤ c1) (hq2 : c1 ≤ maxLen) (hsf : SlF w w.heap.size A1 fs) (hf20 : fs.length ≤ 20) (hlen : es.length = len) (hl60 : len ≤ 60) (hsl : SlE 8 w w.heap.size A es) (hfl : ∀ x ∈ es, Flat [some .i64, some .i64, some .u8, some .i64, some .i64, some .i64, some .i64, some .i64] x) :
    Calls Try.prog 7 #[.agg #[.int .i64 a, .int .i64 b, .int .i64 c, .int .i64 d, .int .i64 e], .slice A1 fs.length c1, .slice A len cap] w fun e' w' => ((e' = .returned (.tuple #[.pointer none, .pointer none, .bool true]) ∧ planMay a b c d e fs = false) ∨ (∃ (L m gx gb : Nat) (AF : Option Addr) (cf mR gB gN gW gD : Nat) (AF2 : Option Addr) (cf2 : Nat) (S : ChS), e' = .returned (.tuple #[.pointer (some ⟨m, 0, none⟩), .pointer (some ⟨mR, 0, none⟩), .bool true]) ∧ Two w' L m gx gb AF fs.length cf mR gB gN gW gD AF2 fs.length cf2 a b c d e fs S S ∧ Good S (20 + 3 * (len : Int)) ∧ Liv S ∧ (∀ g, twB m gx gb mR gB gN gW gD g → w.heap.size < g))) ∧ Below w.heap.size w w' := by
  have HLen := Lib.hid hlen
  have HC0 := Lib.hid hq1
  have HC1 := Lib.hid hq2
  clear hq1 hq2 hlen
  have HB0 : Below w.heap.size w (w.alloc (.cells #[.int .i64 a, .int .i64 b, .int .i64 c, .int .i64 d, .int .i64 e] 23)) := (Below.refl _ _).alloc (Nat.le_refl _) _
  have G1 : Blk (w.alloc (.cells #[.int .i64 a, .int .i64 b, .int .i64 c, .int .i64 d, .int .i64 e] 23)) w.heap.size 23 #[.int .i64 a, .int .i64 b, .int .i64 c, .int .i64 d, .int .i64 e] := Blk.new_ _ _ _
  have HY := cells5 G1
  have HSF := hsf.next HB0
  clear hsf
  rcases (by cases hq : planMay a b c d e fs <;> simp : planMay a b c d e fs = false ∨ planMay a b c d e fs = true) with hpm | hpm
  · have HP := Lib.hid hpm
    clear hpm
    go_enter Try.func7, Try.ntmps7
    go_upto_region 1 with fail
    refine wp_region_noPanic ?_
    refine wp_region_held_drew (S := (fun w' => w'.cell? ⟨w.heap.size, 0, none⟩ = some (.int .i64 a) ∧ w'.cell? ⟨w.heap.size, 1, none⟩ = some (.int .i64 b) ∧ w'.cell? ⟨w.heap.size, 2, none⟩ = some (.int .i64 c) ∧ w'.cell? ⟨w.heap.size, 3, none⟩ = some (.int .i64 d) ∧ w'.cell? ⟨w.heap.size, 4, none⟩ = some (.int .i64 e))) (by kernel_rfl) ?_ (fun hHeld => ?_)
    · (first | exact HY | assumption)
    refine wpAnyH_take (i := 0) (oi := ⟨some 13, .load 23 (.tmp 3), 23, "law.go:67", #[], none⟩) (v := ?_) rfl (by kernel_rfl) (by kernel_rfl) (by kernel_rfl) (fun _ _ _ h => h) (Or.inl ⟨by rfl, ?_⟩) (by assumption) ?_
    rotate_left
    · (intro wS hSw; (try dsimp only at hSw); go_simp; (try with_reducible rfl))
    try simp only [Act.put, pz1, pz2, pz3]
    refine wpAnyH_take (i := 1) (oi := ⟨some 14, .move (.tmp 1), 24, "law.go:67", #[], none⟩) (v := ?_) rfl (by kernel_rfl) (by kernel_rfl) (by kernel_rfl) (fun _ _ _ h => h) (Or.inl ⟨by rfl, ?_⟩) (by assumption) ?_
    rotate_left
    · (intro wS hSw; (try dsimp only at hSw); go_simp; (try with_reducible rfl))
    try simp only [Act.put, pz1, pz2, pz3]
    refine wpAnyH_take (i := 3) (oi := ⟨some 16, .load 23 (.tmp 3), 23, "law.go:67", #[], none⟩) (v := ?_) rfl (by kernel_rfl) (by kernel_rfl) (by kernel_rfl) (fun _ _ _ h => h) (Or.inl ⟨by rfl, ?_⟩) (by assumption) ?_
    rotate_left
    · (intro wS hSw; (try dsimp only at hSw); go_simp; (try with_reducible rfl))
    try simp only [Act.put, pz1, pz2, pz3]
    refine wpAnyH_take (i := 4) (oi := ⟨some 17, .move (.tmp 1), 24, "law.go:67", #[], none⟩) (v := ?_) rfl (by kernel_rfl) (by kernel_rfl) (by kernel_rfl) (fun _ _ _ h => h) (Or.inl ⟨by rfl, ?_⟩) (by assumption) ?_
    rotate_left
    · (intro wS hSw; (try dsimp only at hSw); go_simp; (try with_reducible rfl))
    try simp only [Act.put, pz1, pz2, pz3]
    refine wpAnyH_ready (rs := [2]) (by kernel_rfl) (by simp) ?_
    refine AllReadyH.cons (o := ⟨some 15, .call { callee := .value (.func 26), args := #[.tmp 13, .tmp 14], argTypes := #[23, 24] }, 29, "law.go:67", #[⟨0, .data⟩, ⟨1, .data⟩], none⟩) rfl (fun K hK => ?_) AllReadyH.nil
    go_simp
    (first | (go_at_call 26; go_loud (((with_reducible refine (newF_no _ _ _ _ _ fs _ _ _ (by first | exact HSF | exact SlF.drew_ HSF) HC0.out HC1.out HP).mono ?_); rintro e' wN ⟨rfl, hb⟩; (try have hb := undrew hb); replace HB0 := btr HB0 HB0.size hb; replace HSF := HSF.next hb; replace G1 := G1.below hb G1.lt; (try clear HY); have HY := cells5 G1))) | (go_at_call 31; go_loud (((with_reducible refine (rnew_no _ _ _ _ _ fs _ _ _ (by first | exact HSF | exact SlF.drew_ HSF) HP).mono ?_); rintro e' wN ⟨rfl, hb⟩; (try have hb := undrew hb); replace HB0 := btr HB0 HB0.size hb; replace HSF := HSF.next hb; replace G1 := G1.below hb G1.lt; (try clear HY); have HY := cells5 G1))))
    go_wp2_with fail
    refine hK.out _ _ ?_ (fun hNew => ?_)
    · (first | exact HY | assumption)
    clear hK K hHeld
    have hHeld := hNew
    clear hNew
    try simp only [Act.put, pz1, pz2, pz3]
    refine wpAnyH_ready (rs := [5]) (by kernel_rfl) (by simp) ?_
    refine AllReadyH.cons (o := ⟨some 18, .call { callee := .value (.func 31), args := #[.tmp 16, .tmp 17], argTypes := #[23, 24] }, 30, "law.go:67", #[⟨3, .data⟩, ⟨4, .data⟩, ⟨2, .chain⟩], none⟩) rfl (fun K hK => ?_) AllReadyH.nil
    go_simp
    (first | (go_at_call 26; go_loud (((with_reducible refine (newF_no _ _ _ _ _ fs _ _ _ (by first | exact HSF | exact SlF.drew_ HSF) HC0.out HC1.out HP).mono ?_); rintro e' wN ⟨rfl, hb⟩; (try have hb := undrew hb); replace HB0 := btr HB0 HB0.size hb; replace HSF := HSF.next hb; replace G1 := G1.below hb G1.lt; (try clear HY); have HY := cells5 G1))) | (go_at_call 31; go_loud (((with_reducible refine (rnew_no _ _ _ _ _ fs _ _ _ (by first | exact HSF | exact SlF.drew_ HSF) HP).mono ?_); rintro e' wN ⟨rfl, hb⟩; (try have hb := undrew hb); replace HB0 := btr HB0 HB0.size hb; replace HSF := HSF.next hb; replace G1 := G1.below hb G1.lt; (try clear HY); have HY := cells5 G1))))
    go_wp2_with fail
    refine hK.out _ _ ?_ (fun hNew => ?_)
    · (first | exact HY | assumption)
    clear hK K hHeld
    have hHeld := hNew
    clear hNew
    try simp only [Act.put, pz1, pz2, pz3]
    refine wpAnyH_take (i := 6) (oi := ⟨some 9, .assign (.tmp 15), 29, "law.go:67", #[⟨2, .data⟩, ⟨5, .chain⟩, ⟨0, .phase⟩, ⟨1, .phase⟩, ⟨2, .phase⟩, { on := 3, ground := Ground.textOnly Departure.lateStores }, { on := 4, ground := Ground.textOnly Departure.lateStores }, { on := 5, ground := Ground.textOnly Departure.lateStoresUnsure }], none⟩) (v := ?_) rfl (by kernel_rfl) (by kernel_rfl) (by kernel_rfl) (fun _ _ _ h => h) (Or.inl ⟨by rfl, ?_⟩) (by assumption) ?_
    rotate_left
    · (intro wS hSw; (try dsimp only at hSw); go_simp; (try with_reducible rfl))
    try simp only [Act.put, pz1, pz2, pz3]
    refine wpAnyH_take (i := 7) (oi := ⟨some 10, .assign (.tmp 18), 30, "law.go:67", #[⟨5, .data⟩, ⟨6, .chain⟩, ⟨0, .phase⟩, ⟨1, .phase⟩, ⟨2, .phase⟩, ⟨3, .phase⟩, ⟨4, .phase⟩, ⟨5, .phase⟩, ⟨6, .phase⟩], none⟩) (v := ?_) rfl (by kernel_rfl) (by kernel_rfl) (by kernel_rfl) (fun _ _ _ h => h) (Or.inl ⟨by rfl, ?_⟩) (by assumption) ?_
    rotate_left
    · (intro wS hSw; (try dsimp only at hSw); go_simp; (try with_reducible rfl))
    try simp only [Act.put, pz1, pz2, pz3]
    refine wpAnyH_done (by kernel_rfl) ?_ _
    refine NoPanic.normal ?_
    go_wp2_with fail
    refine bodyPost_ret (v := .tuple #[.pointer none, .pointer none, .bool true]) (by simp [results, Try.results7, go_sem]) rfl ⟨Or.inl ⟨rfl, HP.out⟩, (by first | exact HB0 | exact HB0.drew)⟩
  have HP := Lib.hid hpm
  obtain ⟨q1, q2, q3, q4, q5, q6, -⟩ := may_bd (planMay_bd hpm).1
  obtain ⟨p1, p2⟩ := mul_bd (x := a) (y := b) (lo := 8) (hi := 20) (l2 := 4) (h2 := 8) q1 q2 q3 q4 (by omega) (by omega)
  obtain ⟨p3, p4⟩ := mul_bd (x := a * b) (y := c + 16) (lo := 32) (hi := 160) (l2 := 40) (h2 := 80) (by omega) (by omega) (by omega) (by omega) (by omega) (by omega)
  obtain ⟨NX, hNX⟩ : ∃ NX : Nat, (NX : Int) = a * b * (c + 16) := ⟨(a * b * (c + 16)).toNat, by omega⟩
  obtain ⟨NB, hNB⟩ : ∃ NB : Nat, (NB : Int) = a := ⟨a.toNat, by omega⟩
  obtain ⟨RW, hRW⟩ : ∃ RW : Nat, (RW : Int) = c + 16 := ⟨(c + 16).toNat, by omega⟩
  obtain ⟨C, hCC⟩ : ∃ C : Nat, (C : Int) = c := ⟨c.toNat, by omega⟩
  have hc24 : 24 ≤ C := by omega
  have hc64 : C ≤ 64 := by omega
  obtain ⟨Q, hQ⟩ : ∃ Q, C + 16 = Q := ⟨_, rfl⟩
  have HQ := Lib.hid hQ
  have HCC := Lib.hid hCC
  have hNXn : NX = (a * b * (c + 16)).toNat := by omega
  have nx1 : 1 ≤ NX := by omega
  have nx2 : NX ≤ 100000 := by omega
  have nb1 : NB ≤ 1000 := by omega
  have HNX := Lib.hid hNX
  have HNXn := Lib.hid hNXn
  have HNB := Lib.hid hNB
  have HRW := Lib.hid hRW
  clear hNX hNXn hNB hRW p1 p2 p3 p4 hpm q5 q6 hCC hQ
  go_enter Try.func7, Try.ntmps7
  go_upto_region 1 with fail
  refine wp_region_noPanic ?_
  refine wp_region_held_drew (S := (fun w' => w'.cell? ⟨w.heap.size, 0, none⟩ = some (.int .i64 a) ∧ w'.cell? ⟨w.heap.size, 1, none⟩ = some (.int .i64 b) ∧ w'.cell? ⟨w.heap.size, 2, none⟩ = some (.int .i64 c) ∧ w'.cell? ⟨w.heap.size, 3, none⟩ = some (.int .i64 d) ∧ w'.cell? ⟨w.heap.size, 4, none⟩ = some (.int .i64 e))) (by kernel_rfl) ?_ (fun hHeld => ?_)
  · (first | exact HY | assumption)
  refine wpAnyH_take (i := 0) (oi := ⟨some 13, .load 23 (.tmp 3), 23, "law.go:67", #[], none⟩) (v := ?_) rfl (by kernel_rfl) (by kernel_rfl) (by kernel_rfl) (fun _ _ _ h => h) (Or.inl ⟨by rfl, ?_⟩) (by assumption) ?_
  rotate_left
  · (intro wS hSw; (try dsimp only at hSw); go_simp; (try with_reducible rfl))
  try simp only [Act.put, pz1, pz2, pz3]
  refine wpAnyH_take (i := 1) (oi := ⟨some 14, .move (.tmp 1), 24, "law.go:67", #[], none⟩) (v := ?_) rfl (by kernel_rfl) (by kernel_rfl) (by kernel_rfl) (fun _ _ _ h => h) (Or.inl ⟨by rfl, ?_⟩) (by assumption) ?_
  rotate_left
  · (intro wS hSw; (try dsimp only at hSw); go_simp; (try with_reducible rfl))
  try simp only [Act.put, pz1, pz2, pz3]
  refine wpAnyH_take (i := 3) (oi := ⟨some 16, .load 23 (.tmp 3), 23, "law.go:67", #[], none⟩) (v := ?_) rfl (by kernel_rfl) (by kernel_rfl) (by kernel_rfl) (fun _ _ _ h => h) (Or.inl ⟨by rfl, ?_⟩) (by assumption) ?_
  rotate_left
  · (intro wS hSw; (try dsimp only at hSw); go_simp; (try with_reducible rfl))
  try simp only [Act.put, pz1, pz2, pz3]
  refine wpAnyH_take (i := 4) (oi := ⟨some 17, .move (.tmp 1), 24, "law.go:67", #[], none⟩) (v := ?_) rfl (by kernel_rfl) (by kernel_rfl) (by kernel_rfl) (fun _ _ _ h => h) (Or.inl ⟨by rfl, ?_⟩) (by assumption) ?_
  rotate_left
  · (intro wS hSw; (try dsimp only at hSw); go_simp; (try with_reducible rfl))
  try simp only [Act.put, pz1, pz2, pz3]
  refine wpAnyH_ready (rs := [2]) (by kernel_rfl) (by simp) ?_
  refine AllReadyH.cons (o := ⟨some 15, .call { callee := .value (.func 26), args := #[.tmp 13, .tmp 14], argTypes := #[23, 24] }, 29, "law.go:67", #[⟨0, .data⟩, ⟨1, .data⟩], none⟩) rfl (fun K hK => ?_) AllReadyH.nil
  go_simp
  (go_at_call 26; go_loud (((with_reducible refine (newF_yes _ _ _ _ _ fs _ _ NX NB _ (by first | exact HSF | exact SlF.drew_ HSF) HC0.out HC1.out (by omega) HP HNX.out HNB.out (by omega) (by omega) (by omega)).mono ?_); rintro e' wN ⟨⟨m, gx, gb, AF, cf, rfl, hC, hm, hgx, hgb⟩, hb⟩; have hszA := Nat.succ_le_of_lt G1.lt; (try have hb := undrew hb); replace HB0 := btr HB0 HB0.size hb; replace HSF := HSF.next hb; replace G1 := G1.below hb G1.lt; (try clear HY); have HY := cells5 G1)))
  go_wp2_with fail
  refine hK.out _ _ ?_ (fun hNew => ?_)
  · (first | exact HY | assumption)
  clear hK K hHeld
  have hHeld := hNew
  clear hNew
  try simp only [Act.put, pz1, pz2, pz3]
  refine wpAnyH_ready (rs := [5]) (by kernel_rfl) (by simp) ?_
  refine AllReadyH.cons (o := ⟨some 18, .call { callee := .value (.func 31), args := #[.tmp 16, .tmp 17], argTypes := #[23, 24] }, 30, "law.go:67", #[⟨3, .data⟩, ⟨4, .data⟩, ⟨2, .chain⟩], none⟩) rfl (fun K hK => ?_) AllReadyH.nil
  go_simp
  (go_at_call 31; go_loud (((with_reducible refine (rnew_yes _ _ _ _ _ fs _ _ _ (by first | exact HSF | exact SlF.drew_ HSF) NB NX RW HNB.out HNXn.out HRW (by omega) HP).mono ?_); rintro e' wN ⟨mR, gB, gN, gW, gD, AF2, cf2, rfl, hR, hb⟩; (try have hb := undrew hb); have hszB := Nat.succ_le_of_lt G1.lt; obtain ⟨L, h⟩ := two_startE hC hR hb; have hLo := two_low (K := w.heap.size) hszA hszB hm hgx hgb hR; (try have hb := undrew hb); replace HB0 := btr HB0 HB0.size hb; replace HSF := HSF.next hb; replace G1 := G1.below hb G1.lt; (try clear HY); have HY := cells5 G1)))
  go_wp2_with fail
  refine hK.out _ _ ?_ (fun hNew => ?_)
  · (first | exact HY | assumption)
  clear hK K hHeld
  have hHeld := hNew
  clear hNew
  try simp only [Act.put, pz1, pz2, pz3]
  refine wpAnyH_take (i := 6) (oi := ⟨some 9, .assign (.tmp 15), 29, "law.go:67", #[⟨2, .data⟩, ⟨5, .chain⟩, ⟨0, .phase⟩, ⟨1, .phase⟩, ⟨2, .phase⟩, { on := 3, ground := Ground.textOnly Departure.lateStores }, { on := 4, ground := Ground.textOnly Departure.lateStores }, { on := 5, ground := Ground.textOnly Departure.lateStoresUnsure }], none⟩) (v := ?_) rfl (by kernel_rfl) (by kernel_rfl) (by kernel_rfl) (fun _ _ _ h => h) (Or.inl ⟨by rfl, ?_⟩) (by assumption) ?_
  rotate_left
  · (intro wS hSw; (try dsimp only at hSw); go_simp; (try with_reducible rfl))
  try simp only [Act.put, pz1, pz2, pz3]
  refine wpAnyH_take (i := 7) (oi := ⟨some 10, .assign (.tmp 18), 30, "law.go:67", #[⟨5, .data⟩, ⟨6, .chain⟩, ⟨0, .phase⟩, ⟨1, .phase⟩, ⟨2, .phase⟩, ⟨3, .phase⟩, ⟨4, .phase⟩, ⟨5, .phase⟩, ⟨6, .phase⟩], none⟩) (v := ?_) rfl (by kernel_rfl) (by kernel_rfl) (by kernel_rfl) (fun _ _ _ h => h) (Or.inl ⟨by rfl, ?_⟩) (by assumption) ?_
  rotate_left
  · (intro wS hSw; (try dsimp only at hSw); go_simp; (try with_reducible rfl))
  try simp only [Act.put, pz1, pz2, pz3]
  refine wpAnyH_done (by kernel_rfl) ?_ _
  refine NoPanic.normal ?_
  clear hHeld
  obtain ⟨wm, hwm⟩ : ∃ V : World, V = wN := ⟨_, rfl⟩
  rw [← hwm] at h HB0 G1 HY ⊢
  clear hwm hb hm hgx hgb hszA hszB hC hR HSF
  have hnb : ¬ (twB m gx gb mR gB gN gW gD) w.heap.size := fun e => by have := hLo _ e; omega
  have HT : Tch (twB m gx gb mR gB gN gW gD) wm wm := Tch.refl _
  have HK0 : Hid (Good (ChS.new NX NB) 20) := Lib.hid (good_new NX NB)
  go_wp2_with fail
  go_loopw [11] (fun s11 wr => ∃ (i : Nat) (S : ChS), i ≤ len ∧ s11 = .int .i64 (i : Int) ∧ Two wr L m gx gb AF fs.length cf mR gB gN gW gD AF2 fs.length cf2 a b c d e fs S S ∧ Hid (Good S (20 + 3 * (i : Int)) ∧ Liv S) ∧ Tch (twB m gx gb mR gB gN gW gD) wm wr) (fun s11 _ => len - (iV s11).toNat)
  case atStart => exact ⟨0, _, Nat.zero_le _, rfl, (by first | exact h | exact h.drew), Lib.hid ⟨HK0.out.mono (by omega), Liv.new NX NB⟩, (by first | exact HT | exact HT.like)⟩
  case round =>
    clear h HK0 HT HY
    obtain ⟨i, S, hi, rfl, h, HK, HT⟩ := hrel
    have GR := HT.blk G1 hnb
    have HY := cells5 GR
    by_cases hlt : i < len
    · have i1 : (i : Int) < (len : Int) := by omega
      have i0 : (0 : Int) ≤ (i : Int) := by omega
      obtain ⟨g, off, rfl, hgl, hcl⟩ := hsl.at_ (by have := HLen.out; omega)
      have hget : es[i]? = some (es[i]'(by have := HLen.out; omega)) := List.getElem?_eq_getElem _
      obtain ⟨px, py, nn, k, p, s, f, torn, he, hnn⟩ := put_cells (hfl _ (List.getElem_mem (h := by have := HLen.out; omega)) : Flat _ (es[i]'(by have := HLen.out; omega)))
      have hc8 := hcl i _ hget
      rw [he] at hc8
      have hw0 : w.cell? ⟨g, off + i * 8, none⟩ = some (.int .i64 px) := hc8 0 _ rfl
      have hw1 : w.cell? ⟨g, off + i * 8 + 1, none⟩ = some (.int .i64 py) := hc8 1 _ rfl
      have hw2 : w.cell? ⟨g, off + i * 8 + 2, none⟩ = some (.int .u8 (nn : Int)) := hc8 2 _ rfl
      have hw3 : w.cell? ⟨g, off + i * 8 + 3, none⟩ = some (.int .i64 k) := hc8 3 _ rfl
      have hw4 : w.cell? ⟨g, off + i * 8 + 4, none⟩ = some (.int .i64 p) := hc8 4 _ rfl
      have hw5 : w.cell? ⟨g, off + i * 8 + 5, none⟩ = some (.int .i64 s) := hc8 5 _ rfl
      have hw6 : w.cell? ⟨g, off + i * 8 + 6, none⟩ = some (.int .i64 f) := hc8 6 _ rfl
      have hw7 : w.cell? ⟨g, off + i * 8 + 7, none⟩ = some (.int .i64 torn) := hc8 7 _ rfl
      have c0 := (World.cell?_of_block (w := w) ((HT.far g (by have := HB0.size; omega) (fun e => by have := hLo g e; omega)).trans (HB0.block g hgl))).trans hw0
      have c1 := (World.cell?_of_block (w := w) ((HT.far g (by have := HB0.size; omega) (fun e => by have := hLo g e; omega)).trans (HB0.block g hgl))).trans hw1
      have c2 := (World.cell?_of_block (w := w) ((HT.far g (by have := HB0.size; omega) (fun e => by have := hLo g e; omega)).trans (HB0.block g hgl))).trans hw2
      have c3 := (World.cell?_of_block (w := w) ((HT.far g (by have := HB0.size; omega) (fun e => by have := hLo g e; omega)).trans (HB0.block g hgl))).trans hw3
      have c4 := (World.cell?_of_block (w := w) ((HT.far g (by have := HB0.size; omega) (fun e => by have := hLo g e; omega)).trans (HB0.block g hgl))).trans hw4
      have c5 := (World.cell?_of_block (w := w) ((HT.far g (by have := HB0.size; omega) (fun e => by have := hLo g e; omega)).trans (HB0.block g hgl))).trans hw5
      have c6 := (World.cell?_of_block (w := w) ((HT.far g (by have := HB0.size; omega) (fun e => by have := hLo g e; omega)).trans (HB0.block g hgl))).trans hw6
      have c7 := (World.cell?_of_block (w := w) ((HT.far g (by have := HB0.size; omega) (fun e => by have := hLo g e; omega)).trans (HB0.block g hgl))).trans hw7
      have hltw := h.lt
      clear hcl hc8 hget he
      go_upto_region 7 with fail
      refine wp_region_noPanic ?_
      refine wp_region_held_drew (S := (fun w' => (w'.cell? ⟨w.heap.size, 0, none⟩ = some (.int .i64 a) ∧ w'.cell? ⟨w.heap.size, 1, none⟩ = some (.int .i64 b) ∧ w'.cell? ⟨w.heap.size, 2, none⟩ = some (.int .i64 c) ∧ w'.cell? ⟨w.heap.size, 3, none⟩ = some (.int .i64 d) ∧ w'.cell? ⟨w.heap.size, 4, none⟩ = some (.int .i64 e)) ∧ w'.cell? ⟨g, off + i * 8, none⟩ = some (.int .i64 px) ∧ w'.cell? ⟨g, off + i * 8 + 1, none⟩ = some (.int .i64 py) ∧ w'.cell? ⟨g, off + i * 8 + 2, none⟩ = some (.int .u8 (nn : Int)) ∧ w'.cell? ⟨g, off + i * 8 + 3, none⟩ = some (.int .i64 k) ∧ w'.cell? ⟨g, off + i * 8 + 4, none⟩ = some (.int .i64 p) ∧ w'.cell? ⟨g, off + i * 8 + 5, none⟩ = some (.int .i64 s) ∧ w'.cell? ⟨g, off + i * 8 + 6, none⟩ = some (.int .i64 f) ∧ w'.cell? ⟨g, off + i * 8 + 7, none⟩ = some (.int .i64 torn))) (by kernel_rfl) ?_ (fun hHeld => ?_)
      · (first | exact ⟨HY, c0, c1, c2, c3, c4, c5, c6, c7⟩ | exact ⟨HYN, d0, d1, d2, d3, d4, d5, d6, d7⟩ | assumption)
      refine wpAnyH_take (i := 0) (oi := ⟨some 36, .load 23 (.tmp 3), 23, "law.go:72", #[], none⟩) (v := ?_) rfl (by kernel_rfl) (by kernel_rfl) (by kernel_rfl) (fun _ _ _ h => h) (Or.inl ⟨by rfl, ?_⟩) (by assumption) ?_
      rotate_left
      · (intro wS hSw; (try dsimp only at hSw); go_simp; (try with_reducible rfl))
      try simp only [Act.put, pz1, pz2, pz3]
      refine wpAnyH_take (i := 1) (oi := ⟨some 37, .move (.tmp 2), 25, "law.go:72", #[], none⟩) (v := ?_) rfl (by kernel_rfl) (by kernel_rfl) (by kernel_rfl) (fun _ _ _ h => h) (Or.inl ⟨by rfl, ?_⟩) (by assumption) ?_
      rotate_left
      · (intro wS hSw; (try dsimp only at hSw); go_simp; (try with_reducible rfl))
      try simp only [Act.put, pz1, pz2, pz3]
      refine wpAnyH_take (i := 2) (oi := ⟨some 38, .move (.tmp 11), 3, "law.go:72", #[], none⟩) (v := ?_) rfl (by kernel_rfl) (by kernel_rfl) (by kernel_rfl) (fun _ _ _ h => h) (Or.inl ⟨by rfl, ?_⟩) (by assumption) ?_
      rotate_left
      · (intro wS hSw; (try dsimp only at hSw); go_simp; (try with_reducible rfl))
      try simp only [Act.put, pz1, pz2, pz3]
      refine wpAnyH_take (i := 3) (oi := ⟨some 39, .indexAddr 25 (.tmp 37) (.tmp 38), 0, "law.go:72", #[⟨1, .data⟩, ⟨2, .data⟩], none⟩) (v := ?_) rfl (by kernel_rfl) (by kernel_rfl) (by kernel_rfl) (fun _ _ _ h => h) (Or.inl ⟨by rfl, ?_⟩) (by assumption) ?_
      rotate_left
      · (intro wS hSw; (try dsimp only at hSw); go_simp; (try with_reducible rfl))
      try simp only [Act.put, pz1, pz2, pz3]
      refine wpAnyH_take (i := 4) (oi := ⟨some 40, .load 80 (.tmp 39), 80, "law.go:72", #[⟨3, .data⟩], none⟩) (v := ?_) rfl (by kernel_rfl) (by kernel_rfl) (by kernel_rfl) (fun _ _ _ h => h) (Or.inl ⟨by rfl, ?_⟩) (by assumption) ?_
      rotate_left
      · (intro wS hSw; (try dsimp only at hSw); go_simp; (try with_reducible rfl))
      try simp only [Act.put, pz1, pz2, pz3]
      refine wpAnyH_ready (rs := [5]) (by kernel_rfl) (by simp) ?_
      refine AllReadyH.cons (o := ⟨some 41, .call { callee := .value (.func 32), args := #[.tmp 36, .tmp 40], argTypes := #[23, 80] }, 38, "law.go:72", #[⟨0, .data⟩, ⟨4, .data⟩], none⟩) rfl (fun K hK => ?_) AllReadyH.nil
      go_simp
      (go_at_call 32; go_loud (((with_reducible refine (raw_any a b c d e px py k p s f torn nn C Q _ HCC.out hc24 hc64 hnn HQ.out).mono ?_); rintro e' wN ⟨⟨bs, gA, cA, rfl, hbl, hb8, hrA, hgA, hcA, hcA2⟩, hb⟩; (try have hb := undrew hb); have hgA2 : wr.heap.size ≤ gA := hgA; replace h := h.below hb; replace HT := HT.then hb; replace GR := GR.below hb GR.lt; have HYN := cells5 GR; have d0 := (World.cell?_of_block (w := w) ((HT.far g (by have := HB0.size; omega) (fun e => by have := hLo g e; omega)).trans (HB0.block g hgl))).trans hw0; have d1 := (World.cell?_of_block (w := w) ((HT.far g (by have := HB0.size; omega) (fun e => by have := hLo g e; omega)).trans (HB0.block g hgl))).trans hw1; have d2 := (World.cell?_of_block (w := w) ((HT.far g (by have := HB0.size; omega) (fun e => by have := hLo g e; omega)).trans (HB0.block g hgl))).trans hw2; have d3 := (World.cell?_of_block (w := w) ((HT.far g (by have := HB0.size; omega) (fun e => by have := hLo g e; omega)).trans (HB0.block g hgl))).trans hw3; have d4 := (World.cell?_of_block (w := w) ((HT.far g (by have := HB0.size; omega) (fun e => by have := hLo g e; omega)).trans (HB0.block g hgl))).trans hw4; have d5 := (World.cell?_of_block (w := w) ((HT.far g (by have := HB0.size; omega) (fun e => by have := hLo g e; omega)).trans (HB0.block g hgl))).trans hw5; have d6 := (World.cell?_of_block (w := w) ((HT.far g (by have := HB0.size; omega) (fun e => by have := hLo g e; omega)).trans (HB0.block g hgl))).trans hw6; have d7 := (World.cell?_of_block (w := w) ((HT.far g (by have := HB0.size; omega) (fun e => by have := hLo g e; omega)).trans (HB0.block g hgl))).trans hw7)))
      go_wp2_with fail
      refine hK.out _ _ ?_ (fun hNew => ?_)
      · (first | exact ⟨HY, c0, c1, c2, c3, c4, c5, c6, c7⟩ | exact ⟨HYN, d0, d1, d2, d3, d4, d5, d6, d7⟩ | assumption)
      clear hK K hHeld
      have hHeld := hNew
      clear hNew
      try simp only [Act.put, pz1, pz2, pz3]
      refine wpAnyH_take (i := 6) (oi := ⟨some 12, .assign (.tmp 41), 38, "law.go:72", #[⟨5, .data⟩, ⟨5, .chain⟩, ⟨0, .phase⟩, ⟨1, .phase⟩, ⟨2, .phase⟩, ⟨3, .phase⟩, ⟨4, .phase⟩, ⟨5, .phase⟩], none⟩) (v := ?_) rfl (by kernel_rfl) (by kernel_rfl) (by kernel_rfl) (fun _ _ _ h => h) (Or.inl ⟨by rfl, ?_⟩) (by assumption) ?_
      rotate_left
      · (intro wS hSw; (try dsimp only at hSw); go_simp; (try with_reducible rfl))
      try simp only [Act.put, pz1, pz2, pz3]
      refine wpAnyH_done (by kernel_rfl) ?_ _
      refine NoPanic.normal ?_
      clear hHeld
      have HnA : ¬ chB m gx gb gA ∧ ¬ rfB mR gB gN gW gD gA := ⟨fun e => by have := hltw gA (Or.inl e); omega, fun e => by have := hltw gA (Or.inr e); omega⟩
      obtain ⟨Z, hZ⟩ : ∃ Z, S.progZ a b c fs px py Q = Z := ⟨_, rfl⟩
      obtain ⟨S2, hS2⟩ : ∃ S2, S.progS a b c fs px py bs = S2 := ⟨_, rfl⟩
      have HK2 : Hid (Good S2 (23 + 3 * (i : Int)) ∧ Liv S2) := Lib.hid ⟨by rw [← hS2]; exact (HK.out.1.prog h.cl.chip px py bs).mono (by omega), by rw [← hS2]; exact HK.out.2.prog a b c fs px py hb8⟩
      have HZ := Lib.hid (And.intro hZ hS2)
      have HBL := Lib.hid hbl
      clear hZ hS2 hbl hb hgA hgA2 hltw
      go_upto_region 8 with fail
      refine wp_region_noPanic ?_
      refine wp_region_held_drew (S := (fun w' => w'.cell? ⟨g, off + i * 8, none⟩ = some (.int .i64 px) ∧ w'.cell? ⟨g, off + i * 8 + 1, none⟩ = some (.int .i64 py))) (by kernel_rfl) ?_ (fun hHeld => ?_)
      · (first | exact ⟨d0, d1⟩ | assumption)
      refine wpAnyH_take (i := 0) (oi := ⟨some 42, .move (.tmp 9), 29, "law.go:73", #[], none⟩) (v := ?_) rfl (by kernel_rfl) (by kernel_rfl) (by kernel_rfl) (fun _ _ _ h => h) (Or.inl ⟨by rfl, ?_⟩) (by assumption) ?_
      rotate_left
      · (intro wS hSw; (try dsimp only at hSw); go_simp; (try with_reducible rfl))
      try simp only [Act.put, pz1, pz2, pz3]
      refine wpAnyH_take (i := 1) (oi := ⟨some 43, .move (.tmp 2), 25, "law.go:73", #[], none⟩) (v := ?_) rfl (by kernel_rfl) (by kernel_rfl) (by kernel_rfl) (fun _ _ _ h => h) (Or.inl ⟨by rfl, ?_⟩) (by assumption) ?_
      rotate_left
      · (intro wS hSw; (try dsimp only at hSw); go_simp; (try with_reducible rfl))
      try simp only [Act.put, pz1, pz2, pz3]
      refine wpAnyH_take (i := 2) (oi := ⟨some 44, .move (.tmp 11), 3, "law.go:73", #[], none⟩) (v := ?_) rfl (by kernel_rfl) (by kernel_rfl) (by kernel_rfl) (fun _ _ _ h => h) (Or.inl ⟨by rfl, ?_⟩) (by assumption) ?_
      rotate_left
      · (intro wS hSw; (try dsimp only at hSw); go_simp; (try with_reducible rfl))
      try simp only [Act.put, pz1, pz2, pz3]
      refine wpAnyH_take (i := 3) (oi := ⟨some 45, .indexAddr 25 (.tmp 43) (.tmp 44), 0, "law.go:73", #[⟨1, .data⟩, ⟨2, .data⟩], none⟩) (v := ?_) rfl (by kernel_rfl) (by kernel_rfl) (by kernel_rfl) (fun _ _ _ h => h) (Or.inl ⟨by rfl, ?_⟩) (by assumption) ?_
      rotate_left
      · (intro wS hSw; (try dsimp only at hSw); go_simp; (try with_reducible rfl))
      try simp only [Act.put, pz1, pz2, pz3]
      refine wpAnyH_take (i := 4) (oi := ⟨some 46, .fieldAddr 80 (.tmp 45) 0, 0, "law.go:73", #[⟨3, .data⟩], none⟩) (v := ?_) rfl (by kernel_rfl) (by kernel_rfl) (by kernel_rfl) (fun _ _ _ h => h) (Or.inl ⟨by rfl, ?_⟩) (by assumption) ?_
      rotate_left
      · (intro wS hSw; (try dsimp only at hSw); go_simp; (try with_reducible rfl))
      try simp only [Act.put, pz1, pz2, pz3]
      refine wpAnyH_take (i := 5) (oi := ⟨some 47, .load 27 (.tmp 46), 27, "law.go:73", #[⟨4, .data⟩], none⟩) (v := ?_) rfl (by kernel_rfl) (by kernel_rfl) (by kernel_rfl) (fun _ _ _ h => h) (Or.inl ⟨by rfl, ?_⟩) (by assumption) ?_
      rotate_left
      · (intro wS hSw; (try dsimp only at hSw); go_simp; (try with_reducible rfl))
      try simp only [Act.put, pz1, pz2, pz3]
      refine wpAnyH_take (i := 6) (oi := ⟨some 48, .move (.tmp 12), 38, "law.go:73", #[], none⟩) (v := ?_) rfl (by kernel_rfl) (by kernel_rfl) (by kernel_rfl) (fun _ _ _ h => h) (Or.inl ⟨by rfl, ?_⟩) (by assumption) ?_
      rotate_left
      · (intro wS hSw; (try dsimp only at hSw); go_simp; (try with_reducible rfl))
      try simp only [Act.put, pz1, pz2, pz3]
      refine wpAnyH_take (i := 9) (oi := ⟨some 51, .move (.tmp 10), 30, "law.go:73", #[], none⟩) (v := ?_) rfl (by kernel_rfl) (by kernel_rfl) (by kernel_rfl) (fun _ _ _ h => h) (Or.inl ⟨by rfl, ?_⟩) (by assumption) ?_
      rotate_left
      · (intro wS hSw; (try dsimp only at hSw); go_simp; (try with_reducible rfl))
      try simp only [Act.put, pz1, pz2, pz3]
      refine wpAnyH_take (i := 10) (oi := ⟨some 52, .move (.tmp 2), 25, "law.go:73", #[], none⟩) (v := ?_) rfl (by kernel_rfl) (by kernel_rfl) (by kernel_rfl) (fun _ _ _ h => h) (Or.inl ⟨by rfl, ?_⟩) (by assumption) ?_
      rotate_left
      · (intro wS hSw; (try dsimp only at hSw); go_simp; (try with_reducible rfl))
      try simp only [Act.put, pz1, pz2, pz3]
      refine wpAnyH_take (i := 11) (oi := ⟨some 53, .move (.tmp 11), 3, "law.go:73", #[], none⟩) (v := ?_) rfl (by kernel_rfl) (by kernel_rfl) (by kernel_rfl) (fun _ _ _ h => h) (Or.inl ⟨by rfl, ?_⟩) (by assumption) ?_
      rotate_left
      · (intro wS hSw; (try dsimp only at hSw); go_simp; (try with_reducible rfl))
      try simp only [Act.put, pz1, pz2, pz3]
      refine wpAnyH_take (i := 12) (oi := ⟨some 54, .indexAddr 25 (.tmp 52) (.tmp 53), 0, "law.go:73", #[⟨10, .data⟩, ⟨11, .data⟩], none⟩) (v := ?_) rfl (by kernel_rfl) (by kernel_rfl) (by kernel_rfl) (fun _ _ _ h => h) (Or.inl ⟨by rfl, ?_⟩) (by assumption) ?_
      rotate_left
      · (intro wS hSw; (try dsimp only at hSw); go_simp; (try with_reducible rfl))
      try simp only [Act.put, pz1, pz2, pz3]
      refine wpAnyH_take (i := 13) (oi := ⟨some 55, .fieldAddr 80 (.tmp 54) 0, 0, "law.go:73", #[⟨12, .data⟩], none⟩) (v := ?_) rfl (by kernel_rfl) (by kernel_rfl) (by kernel_rfl) (fun _ _ _ h => h) (Or.inl ⟨by rfl, ?_⟩) (by assumption) ?_
      rotate_left
      · (intro wS hSw; (try dsimp only at hSw); go_simp; (try with_reducible rfl))
      try simp only [Act.put, pz1, pz2, pz3]
      refine wpAnyH_take (i := 14) (oi := ⟨some 56, .load 27 (.tmp 55), 27, "law.go:73", #[⟨13, .data⟩], none⟩) (v := ?_) rfl (by kernel_rfl) (by kernel_rfl) (by kernel_rfl) (fun _ _ _ h => h) (Or.inl ⟨by rfl, ?_⟩) (by assumption) ?_
      rotate_left
      · (intro wS hSw; (try dsimp only at hSw); go_simp; (try with_reducible rfl))
      try simp only [Act.put, pz1, pz2, pz3]
      refine wpAnyH_take (i := 15) (oi := ⟨some 57, .move (.tmp 12), 38, "law.go:73", #[], none⟩) (v := ?_) rfl (by kernel_rfl) (by kernel_rfl) (by kernel_rfl) (fun _ _ _ h => h) (Or.inl ⟨by rfl, ?_⟩) (by assumption) ?_
      rotate_left
      · (intro wS hSw; (try dsimp only at hSw); go_simp; (try with_reducible rfl))
      try simp only [Act.put, pz1, pz2, pz3]
      refine wpAnyH_ready (rs := [7]) (by kernel_rfl) (by simp) ?_
      refine AllReadyH.cons (o := ⟨some 49, .call { callee := .value (.func 30), args := #[.tmp 42, .tmp 47, .tmp 48], argTypes := #[29, 27, 38] }, 33, "law.go:73", #[⟨0, .data⟩, ⟨5, .data⟩, ⟨6, .data⟩], none⟩) rfl (fun K hK => ?_) AllReadyH.nil
      go_simp
      (first | (go_at_call 12; go_loud (((with_reducible refine (num_any _ _).mono ?_); rintro e' wN ⟨rfl, rfl⟩; skip))) | (go_at_call 30; go_loud (((with_reducible refine (tw_progR L m gx gb AF fs.length cf mR gB gN gW gD AF2 fs.length cf2 a b c d e fs px py bs gA cA Q (20 + 3 * (i : Int)) _ S S (by first | exact h | exact Two.drew h) HK.out.1.fine (by omega) HBL.out (by first | exact hrA | exact RowT.like_ hrA) HnA.1 hcA hcA2 Z S2 HZ).mono ?_); rintro e' wN ⟨rfl, h, hT⟩; replace HT := (by first | exact HT.trans (tw_c hT) | exact HT.trans (tw_c hT.like0)); have hrA := hrA.keep (hT.far gA hrA.lt HnA.1); have d0 := (World.cell?_of_block (w := w) ((HT.far g (by have := HB0.size; omega) (fun e => by have := hLo g e; omega)).trans (HB0.block g hgl))).trans hw0; have d1 := (World.cell?_of_block (w := w) ((HT.far g (by have := HB0.size; omega) (fun e => by have := hLo g e; omega)).trans (HB0.block g hgl))).trans hw1))) | (go_at_call 33; go_loud (((with_reducible refine (tw_rprog L m gx gb AF fs.length cf mR gB gN gW gD AF2 fs.length cf2 a b c d e fs px py bs gA cA Q (20 + 3 * (i : Int)) _ S2 S (by first | exact h | exact Two.drew h) HK.out.1.fine (by omega) HK.out.1.wt HBL.out (by first | exact hrA | exact RowT.like_ hrA) hcA HnA.2 Z S2 HZ).mono ?_); rintro e' wN ⟨rfl, h, hT, -⟩; replace HT := (by first | exact HT.trans (tw_f hT) | exact HT.trans (tw_f hT.like0)); have d0 := (World.cell?_of_block (w := w) ((HT.far g (by have := HB0.size; omega) (fun e => by have := hLo g e; omega)).trans (HB0.block g hgl))).trans hw0; have d1 := (World.cell?_of_block (w := w) ((HT.far g (by have := HB0.size; omega) (fun e => by have := hLo g e; omega)).trans (HB0.block g hgl))).trans hw1))))
      go_wp2_with fail
      refine hK.out _ _ ?_ (fun hNew => ?_)
      · (first | exact ⟨d0, d1⟩ | assumption)
      clear hK K hHeld
      have hHeld := hNew
      clear hNew
      try simp only [Act.put, pz1, pz2, pz3]
      refine wpAnyH_ready (rs := [8]) (by kernel_rfl) (by simp) ?_
      refine AllReadyH.cons (o := ⟨some 50, .call { callee := .value (.func 12), args := #[.tmp 49], argTypes := #[33] }, 3, "law.go:73", #[⟨7, .data⟩, ⟨7, .chain⟩], none⟩) rfl (fun K hK => ?_) AllReadyH.nil
      go_simp
      (first | (go_at_call 12; go_loud (((with_reducible refine (num_any _ _).mono ?_); rintro e' wN ⟨rfl, rfl⟩; skip))) | (go_at_call 30; go_loud (((with_reducible refine (tw_progR L m gx gb AF fs.length cf mR gB gN gW gD AF2 fs.length cf2 a b c d e fs px py bs gA cA Q (20 + 3 * (i : Int)) _ S S (by first | exact h | exact Two.drew h) HK.out.1.fine (by omega) HBL.out (by first | exact hrA | exact RowT.like_ hrA) HnA.1 hcA hcA2 Z S2 HZ).mono ?_); rintro e' wN ⟨rfl, h, hT⟩; replace HT := (by first | exact HT.trans (tw_c hT) | exact HT.trans (tw_c hT.like0)); have hrA := hrA.keep (hT.far gA hrA.lt HnA.1); have d0 := (World.cell?_of_block (w := w) ((HT.far g (by have := HB0.size; omega) (fun e => by have := hLo g e; omega)).trans (HB0.block g hgl))).trans hw0; have d1 := (World.cell?_of_block (w := w) ((HT.far g (by have := HB0.size; omega) (fun e => by have := hLo g e; omega)).trans (HB0.block g hgl))).trans hw1))) | (go_at_call 33; go_loud (((with_reducible refine (tw_rprog L m gx gb AF fs.length cf mR gB gN gW gD AF2 fs.length cf2 a b c d e fs px py bs gA cA Q (20 + 3 * (i : Int)) _ S2 S (by first | exact h | exact Two.drew h) HK.out.1.fine (by omega) HK.out.1.wt HBL.out (by first | exact hrA | exact RowT.like_ hrA) hcA HnA.2 Z S2 HZ).mono ?_); rintro e' wN ⟨rfl, h, hT, -⟩; replace HT := (by first | exact HT.trans (tw_f hT) | exact HT.trans (tw_f hT.like0)); have d0 := (World.cell?_of_block (w := w) ((HT.far g (by have := HB0.size; omega) (fun e => by have := hLo g e; omega)).trans (HB0.block g hgl))).trans hw0; have d1 := (World.cell?_of_block (w := w) ((HT.far g (by have := HB0.size; omega) (fun e => by have := hLo g e; omega)).trans (HB0.block g hgl))).trans hw1))))
      go_wp2_with fail
      refine hK.out _ _ ?_ (fun hNew => ?_)
      · (first | exact ⟨d0, d1⟩ | assumption)
      clear hK K hHeld
      have hHeld := hNew
      clear hNew
      try simp only [Act.put, pz1, pz2, pz3]
      refine wpAnyH_ready (rs := [16]) (by kernel_rfl) (by simp) ?_
      refine AllReadyH.cons (o := ⟨some 58, .call { callee := .value (.func 33), args := #[.tmp 51, .tmp 56, .tmp 57], argTypes := #[30, 27, 38] }, 3, "law.go:73", #[⟨9, .data⟩, ⟨14, .data⟩, ⟨15, .data⟩, ⟨8, .chain⟩], none⟩) rfl (fun K hK => ?_) AllReadyH.nil
      go_simp
      (first | (go_at_call 12; go_loud (((with_reducible refine (num_any _ _).mono ?_); rintro e' wN ⟨rfl, rfl⟩; skip))) | (go_at_call 30; go_loud (((with_reducible refine (tw_progR L m gx gb AF fs.length cf mR gB gN gW gD AF2 fs.length cf2 a b c d e fs px py bs gA cA Q (20 + 3 * (i : Int)) _ S S (by first | exact h | exact Two.drew h) HK.out.1.fine (by omega) HBL.out (by first | exact hrA | exact RowT.like_ hrA) HnA.1 hcA hcA2 Z S2 HZ).mono ?_); rintro e' wN ⟨rfl, h, hT⟩; replace HT := (by first | exact HT.trans (tw_c hT) | exact HT.trans (tw_c hT.like0)); have hrA := hrA.keep (hT.far gA hrA.lt HnA.1); have d0 := (World.cell?_of_block (w := w) ((HT.far g (by have := HB0.size; omega) (fun e => by have := hLo g e; omega)).trans (HB0.block g hgl))).trans hw0; have d1 := (World.cell?_of_block (w := w) ((HT.far g (by have := HB0.size; omega) (fun e => by have := hLo g e; omega)).trans (HB0.block g hgl))).trans hw1))) | (go_at_call 33; go_loud (((with_reducible refine (tw_rprog L m gx gb AF fs.length cf mR gB gN gW gD AF2 fs.length cf2 a b c d e fs px py bs gA cA Q (20 + 3 * (i : Int)) _ S2 S (by first | exact h | exact Two.drew h) HK.out.1.fine (by omega) HK.out.1.wt HBL.out (by first | exact hrA | exact RowT.like_ hrA) hcA HnA.2 Z S2 HZ).mono ?_); rintro e' wN ⟨rfl, h, hT, -⟩; replace HT := (by first | exact HT.trans (tw_f hT) | exact HT.trans (tw_f hT.like0)); have d0 := (World.cell?_of_block (w := w) ((HT.far g (by have := HB0.size; omega) (fun e => by have := hLo g e; omega)).trans (HB0.block g hgl))).trans hw0; have d1 := (World.cell?_of_block (w := w) ((HT.far g (by have := HB0.size; omega) (fun e => by have := hLo g e; omega)).trans (HB0.block g hgl))).trans hw1))))
      go_wp2_with fail
      refine hK.out _ _ ?_ (fun hNew => ?_)
      · (first | exact ⟨d0, d1⟩ | assumption)
      clear hK K hHeld
      have hHeld := hNew
      clear hNew
      try simp only [Act.put, pz1, pz2, pz3]
      refine wpAnyH_take (i := 17) (oi := ⟨some 59, .binOp .neq 3 (.tmp 50) (.tmp 58) 3, 4, "law.go:73", #[⟨8, .data⟩, ⟨16, .data⟩], none⟩) (v := ?_) rfl (by kernel_rfl) (by kernel_rfl) (by kernel_rfl) (fun _ _ _ h => h) (Or.inl ⟨by rfl, ?_⟩) (by assumption) ?_
      rotate_left
      · (intro wS hSw; (try dsimp only at hSw); go_simp; (try with_reducible rfl))
      try simp only [Act.put, pz1, pz2, pz3]
      refine wpAnyH_done (by kernel_rfl) ?_ _
      refine NoPanic.normal ?_
      clear hHeld
      go_wp2_with fail
      exact ⟨⟨i + 1, S2, by omega, by go_num, h, Lib.hid ⟨HK2.out.1.mono (by omega), HK2.out.2⟩, HT⟩, by simp [iV]; omega⟩
      
    · have hil : i = len := by omega
      subst hil
      go_wp2_with fail
      refine bodyPost_ret (v := .tuple #[.pointer (some ⟨m, 0, none⟩), .pointer (some ⟨mR, 0, none⟩), .bool true]) (by simp [results, Try.results7, go_sem]) rfl ⟨Or.inr ⟨L, m, gx, gb, AF, cf, mR, gB, gN, gW, gD, AF2, cf2, S, rfl, h, HK.out.1, HK.out.2, hLo⟩, HB0.trans (HT.below HB0.size (fun g hg => Nat.le_of_lt (hLo g hg)))⟩
end Go.Proofs.Ytcpniplfkillbaa
namespace Go.Proofs.Ytcpniplfkillbaa
open Go.ChangeShapes Go.WideShapes Go.ChangeAt Go.RowKit
set_option linter.unusedSimpArgs false
set_option linter.unusedVariables false

/-- Page i's bytes. -/
def pg (X : List Nat) (RW i : Nat) : List Nat := (X.drop (i * RW)).take RW
def visF (NB RW : Nat) (fs : List Flt) (X : List Nat) : Nat → Nat → List Vis
  | 0, _ => []
  | r + 1, i => (if badB fs ((i / NB : Nat) : Int) = true then [] else [(i / NB, i % NB, pg X RW i)]) ++ visF NB RW fs X r (i + 1)
theorem live_read {a b c : Int} {NA NB RW i : Nat} {s : ChS} (h : Liv s) (hA : (NA : Int) = a) (hB : (NB : Int) = b) (hR : (RW : Int) = c + 16) (h0 : 0 < NB) (hi : i < NA * NB) : s.readZ a b ((i / NB : Nat) : Int) ((i % NB : Nat) : Int) = 0 ∧ s.readB a b c ((i / NB : Nat) : Int) ((i % NB : Nat) : Int) = pg s.X RW i := by
  have ht := there_in hA hB h0 hi
  obtain ⟨h1, h2, h3⟩ := divmod h0 hi
  have e1 : (((i / NB : Nat) : Int) * b + ((i % NB : Nat) : Int)).toNat = i := by rw [← hB, ← Int.natCast_mul]; omega
  have e2 : (c + 16).toNat = RW := by omega
  unfold ChS.readZ ChS.readB
  rw [h.on, ht, h.cut]
  refine ⟨by simp, ?_⟩
  simp only [Bool.not_false, Bool.and_true, Bool.and_self, if_true, reduceIte]
  unfold ChS.pageOf pg
  rw [e1, e2]
theorem walkF_liv {a b c : Int} {NA NB RW : Nat} {fs : List Flt} (hA : (NA : Int) = a) (hB : (NB : Int) = b) (hR : (RW : Int) = c + 16) (h0 : 0 < NB) : ∀ (r i : Nat) (s : ChS) (acc : List Vis), i + r ≤ NA * NB → Liv s → ∃ S1, walkF a b c NB fs r i s acc = (0, acc ++ visF NB RW fs s.X r i, S1) ∧ S1.X = s.X ∧ Liv S1
  | 0, i, s, acc, _, h => ⟨s, by simp [walkF, visF], rfl, h⟩
  | r + 1, i, s, acc, hi, h => by
    cases hb : badB fs ((i / NB : Nat) : Int) with
    | true =>
      rw [walkF_bad hb]
      obtain ⟨S1, h1, h2, h3⟩ := walkF_liv hA hB hR h0 r (i + 1) s acc (by omega) h
      refine ⟨S1, ?_, h2, h3⟩
      rw [h1, visF, if_pos hb, List.nil_append]
    | false =>
      obtain ⟨z1, z2⟩ := live_read (c := c) h hA hB hR h0 (show i < NA * NB by omega)
      rw [walkF_ok hb z1 rfl z2]
      obtain ⟨S1, h1, h2, h3⟩ := walkF_liv hA hB hR h0 r (i + 1) (s.readS a b ((i / NB : Nat) : Int) ((i % NB : Nat) : Int)) (acc ++ [(i / NB, i % NB, pg s.X RW i)]) (by omega) (h.read a b _ _)
      rw [readS_X] at h1 h2
      refine ⟨S1, ?_, h2, h3⟩
      rw [h1, visF, if_neg (by rw [hb]; simp), List.append_assoc]
theorem badB_nil (B : Int) : badB [] B = false := rfl
theorem visF_nil {NB RW : Nat} {X : List Nat} {r i : Nat} : visF NB RW [] X (r + 1) i = (i / NB, i % NB, pg X RW i) :: visF NB RW [] X r (i + 1) := by
  rw [visF, if_neg (by rw [badB_nil]; simp)]
  rfl
theorem visF_add {NB RW : Nat} {X : List Nat} : ∀ (r1 r2 i : Nat), visF NB RW [] X (r1 + r2) i = visF NB RW [] X r1 i ++ visF NB RW [] X r2 (i + r1)
  | 0, r2, i => by simp [visF]
  | r1 + 1, r2, i => by
    rw [show r1 + 1 + r2 = (r1 + r2) + 1 by omega, visF_nil, visF_nil, visF_add r1 r2 (i + 1), show i + 1 + r1 = i + (r1 + 1) by omega]
    rfl
theorem fds_cons (v : Vis) (l : List Vis) : fdsOf (v :: l) = fdOf v ++ fdsOf l := rfl
theorem fds_app (l l' : List Vis) : fdsOf (l ++ l') = fdsOf l ++ fdsOf l' := by simp [fdsOf]
theorem cnt_app (p : Nat → Bool) (l l' : List Vis) : cnt p (l ++ l') = cnt p l + cnt p l' := by simp [cnt]
theorem cnt_cons (p : Nat → Bool) (v : Vis) (l : List Vis) : cnt p (v :: l) = (if p (readSt v.2.2) = true then 1 else 0) + cnt p l := by
  unfold cnt
  rw [List.filter_cons]
  split <;> simp <;> omega
theorem vis_blank {NB RW : Nat} {X : List Nat} : ∀ (r i : Nat), (∀ t, i ≤ t → t < i + r → readSt (pg X RW t) = 0) → fdsOf (visF NB RW [] X r i) = [] ∧ cnt (fun s => s == 0) (visF NB RW [] X r i) = r ∧ cnt (fun s => s == 1) (visF NB RW [] X r i) = 0 ∧ cnt (fun s => !(s == 0 || s == 1)) (visF NB RW [] X r i) = 0
  | 0, i, _ => ⟨rfl, rfl, rfl, rfl⟩
  | r + 1, i, h => by
    obtain ⟨h1, h2, h3, h4⟩ := vis_blank (NB := NB) r (i + 1) (fun t ht1 ht2 => h t (by omega) (by omega))
    have hz := h i (Nat.le_refl _) (by omega)
    rw [visF_nil, fds_cons, cnt_cons, cnt_cons, cnt_cons, h1, h2, h3, h4]
    dsimp only
    rw [hz]
    refine ⟨?_, ?_, by simp, by simp⟩
    · unfold fdOf
      rw [if_neg (by dsimp only; rw [hz]; omega)]
      rfl
    · simp
      omega
theorem pg_get {X : List Nat} {RW i q : Nat} (hq : q < RW) : (pg X RW i)[q]? = X[i * RW + q]? := by
  unfold pg
  rw [List.getElem?_take_of_lt hq, List.getElem?_drop]
theorem pg_ext {X Y : List Nat} {RW i : Nat} (h : ∀ q, q < RW → X[i * RW + q]? = Y[i * RW + q]?) : pg X RW i = pg Y RW i := by
  apply List.ext_getElem?
  intro q
  by_cases hq : q < RW
  · rw [pg_get hq, pg_get hq]
    exact h q hq
  · rw [List.getElem?_eq_none (by unfold pg; rw [List.length_take]; omega), List.getElem?_eq_none (by unfold pg; rw [List.length_take]; omega)]
theorem pg_far {X vs : List Nat} {RW i F : Nat} (h : F + vs.length ≤ X.length) (hf : i * RW + RW ≤ F ∨ F + vs.length ≤ i * RW) : pg (putX X F vs) RW i = pg X RW i :=
  pg_ext fun q hq => by
    rw [putX_get h]
    rcases hf with hf | hf
    · rw [if_pos (by omega)]
    · rw [if_neg (by omega), if_neg (by omega)]
theorem pg_at {X vs : List Nat} {RW i : Nat} (h : i * RW + vs.length ≤ X.length) (hl : vs.length = RW) : pg (putX X (i * RW) vs) RW i = vs := by
  apply List.ext_getElem?
  intro q
  by_cases hq : q < RW
  · rw [pg_get hq, putX_get h, if_neg (by omega), if_pos (by omega)]
    congr 1
    omega
  · rw [List.getElem?_eq_none (by unfold pg; rw [List.length_take]; omega), List.getElem?_eq_none (by omega)]
theorem pg_in {X : List Nat} {RW i F SZ f : Nat} (h : F + SZ ≤ X.length) (h1 : F ≤ i * RW) (h2 : i * RW + RW ≤ F + SZ) : pg (putX X F (List.replicate SZ f)) RW i = List.replicate RW f := by
  apply List.ext_getElem?
  intro q
  by_cases hq : q < RW
  · rw [pg_get hq, putX_get (by rw [List.length_replicate]; exact h), if_neg (by omega), if_pos (by rw [List.length_replicate]; omega), List.getElem?_replicate, List.getElem?_replicate, if_pos (by omega), if_pos hq]
  · rw [List.getElem?_eq_none (by unfold pg; rw [List.length_take]; omega), List.getElem?_eq_none (by rw [List.length_replicate]; omega)]
theorem pg_rep {n RW i f : Nat} (h : i * RW + RW ≤ n) : pg (List.replicate n f) RW i = List.replicate RW f := by
  unfold pg
  rw [List.drop_replicate, List.take_replicate, Nat.min_eq_left (by omega)]
theorem st_blank {RW : Nat} (h1 : 40 ≤ RW) (h2 : RW ≤ 80) : readSt (List.replicate RW 255) = 0 := by
  unfold readSt
  rw [List.length_replicate, if_pos ⟨h1, h2⟩, if_pos]
  unfold blankB
  rw [List.all_eq_true]
  intro x hx
  rw [List.eq_of_mem_replicate hx]
  rfl
end Go.Proofs.Ytcpniplfkillbaa
namespace Go.Proofs.Ytcpniplfkillbaa
open Go.ChangeShapes Go.WideShapes Go.ChangeAt Go.RowKit
set_option linter.unusedSimpArgs false
set_option linter.unusedVariables false

attribute [local go_sem ↓] Go.wp_at_zero Go.wp_at_succ
theorem small9 (w : World) : Calls Try.prog 27 #[] w fun e' w' => e' = .returned (.agg #[.int .i64 8, .int .i64 4, .int .i64 32, .int .i64 0, .int .i64 2]) ∧ Below w.heap.size w w' := by
  go_enter Try.func27, Try.ntmps27
  go_wp2
  refine bodyPost_ret (v := .agg #[.int .i64 8, .int .i64 4, .int .i64 32, .int .i64 0, .int .i64 2]) (by simp [results, Try.results27, go_sem]) rfl ⟨rfl, ?_⟩
  exact (Below.refl _ _).alloc (Nat.le_refl _) _
theorem one9 (w : World) : Calls Try.prog 29 #[] w fun e' w' => e' = .returned (.agg #[.int .i64 1, .int .i64 3, .int .i64 5, .int .i64 2]) ∧ Below w.heap.size w w' := by
  go_enter Try.func29, Try.ntmps29
  go_wp2
  refine bodyPost_ret (v := .agg #[.int .i64 1, .int .i64 3, .int .i64 5, .int .i64 2]) (by simp [results, Try.results29, go_sem]) rfl ⟨rfl, ?_⟩
  exact (Below.refl _ _).alloc (Nat.le_refl _) _
def rawA : List Nat := rawB (List.replicate 32 0) 1 3 5 2
theorem layA : LayOk (List.replicate 32 0) 1 3 5 2 := ⟨by simp, by simp, by omega, by omega, by omega, by omega, by omega, by omega, fun x hx => by have := List.eq_of_mem_replicate hx; omega⟩
theorem rawA_len : rawA.length = 48 := by unfold rawA; rw [rawB_len, List.length_replicate]
theorem rawA_8 : Bytes8 rawA := rawB_8 layA.2.2.2.2.2.2.2.2 (by omega)
theorem rawA_st : readSt rawA = 1 := raw_valid layA
theorem rawA_tag : lkT rawA = (1, 3, 5, 2) := by
  have h := raw_drop (List.replicate 32 0) 1 3 5 2
  rw [List.length_replicate] at h
  unfold lkT
  rw [if_pos rawA_st, rawA_len, show 48 - 16 = 32 from rfl]
  unfold rawA
  rw [h, tail_tK, tail_tP (by omega), tail_tS (by omega), tail_tE (by omega)]
theorem lay9 (A : Option Addr) (c : Nat) (w : World) (h : Sl w w.heap.size A ((List.replicate 32 0).map byteV)) : Calls Try.prog 28 #[.slice A 32 c, .agg #[.int .i64 1, .int .i64 3, .int .i64 5, .int .i64 2]] w fun e' w' => (∃ g cA, e' = .returned (.tuple #[.slice (some ⟨g, 0, none⟩) 48 cA, .int .i64 0]) ∧ RowT w' g 5 (rawA.map byteV) ∧ w.heap.size < g ∧ 48 ≤ cA ∧ cA ≤ maxLen) ∧ Below w.heap.size w w' := by
  have h9 := rlay_yes (List.replicate 32 0) A c 1 3 5 2 w h layA
  rw [List.length_replicate] at h9
  refine h9.mono ?_
  rintro e' w' ⟨sv, rfl, ho, hb⟩
  obtain ⟨g, cA, rfl, h1, h2, h3, h4⟩ := own_cut ho (by omega)
  exact ⟨⟨g, cA, rfl, h1, h2, h3, h4⟩, hb⟩
/-- The chip behind one page. -/
def sA : ChS := (ChS.new 1536 8).progS 8 4 32 [] 2 0 rawA
theorem new_k (N B : Nat) (x : Int) (j : Nat) : (ChS.new N B).k x j = 0 := by
  unfold ChS.k ChS.new
  rw [List.getD_eq_getElem?_getD, List.getElem?_replicate]
  split <;> rfl
theorem wrongA : (ChS.new 1536 8).wrong 8 [] 2 0 = 0 := by
  unfold ChS.wrong failedB
  rw [new_k, new_k]
  rfl
theorem progA : (ChS.new 1536 8).progZ 8 4 32 [] 2 0 48 = 0 := by
  unfold ChS.progZ
  rw [show (2 : Int).toNat = 2 from rfl, show (0 : Int).toNat = 0 from rfl, wrongA]
  rfl
theorem sA_X : sA.X = putX (List.replicate 1536 255) 384 rawA := by
  unfold sA ChS.progS
  rw [show (2 : Int).toNat = 2 from rfl, show (0 : Int).toNat = 0 from rfl, wrongA, rawA_len]
  rfl
theorem sA_liv : Liv sA := (Liv.new 1536 8).prog 8 4 32 [] 2 0 rawA_8
theorem visA : fdsOf (visF 4 48 [] sA.X 32 0) = [⟨2, 0, 1, 3, 5, 2⟩] ∧ cnt (fun s => s == 0) (visF 4 48 [] sA.X 32 0) = 31 ∧ cnt (fun s => s == 1) (visF 4 48 [] sA.X 32 0) = 1 ∧ cnt (fun s => !(s == 0 || s == 1)) (visF 4 48 [] sA.X 32 0) = 0 := by
  have hl := rawA_len
  have hfar : ∀ t, t < 32 → t ≠ 8 → readSt (pg sA.X 48 t) = 0 := fun t h1 h2 => by
    rw [sA_X, pg_far (by rw [hl, List.length_replicate]; omega) (by rw [hl]; omega), pg_rep (by omega)]
    exact st_blank (by omega) (by omega)
  have h8 : pg sA.X 48 8 = rawA := by
    rw [sA_X]
    exact pg_at (X := List.replicate 1536 255) (RW := 48) (i := 8) (by rw [hl, List.length_replicate]; omega) hl
  obtain ⟨a1, a2, a3, a4⟩ := vis_blank (NB := 4) (RW := 48) (X := sA.X) 8 0 (fun t _ h2 => hfar t (by omega) (by omega))
  obtain ⟨b1, b2, b3, b4⟩ := vis_blank (NB := 4) (RW := 48) (X := sA.X) 23 9 (fun t h1 h2 => hfar t (by omega) (by omega))
  have hv1 : visF 4 48 [] sA.X 1 (0 + 8) = [(8 / 4, 8 % 4, rawA)] := by
    have := visF_nil (NB := 4) (RW := 48) (X := sA.X) (r := 0) (i := 8)
    rw [h8] at this
    exact this
  rw [show (32 : Nat) = 8 + (1 + 23) from rfl, visF_add, visF_add, hv1]
  simp only [fds_app, cnt_app, fds_cons, cnt_cons, a1, a2, a3, a4, b1, b2, b3, b4, Nat.zero_add, Nat.reduceAdd]
  have hf : fdOf (8 / 4, 8 % 4, rawA) = [⟨2, 0, 1, 3, 5, 2⟩] := by
    unfold fdOf
    dsimp only
    rw [if_pos rawA_st, rawA_tag]
    rfl
  rw [hf, rawA_st]
  refine ⟨rfl, rfl, rfl, rfl⟩
theorem walkA : ∃ S1, walkF 8 4 32 4 [] (8 * 4) 0 sA [] = (0, visF 4 48 [] sA.X 32 0, S1) ∧ S1.X = sA.X ∧ Liv S1 := by
  obtain ⟨S1, h1, h2, h3⟩ := walkF_liv (a := 8) (b := 4) (c := 32) (NA := 8) (NB := 4) (RW := 48) (fs := []) rfl rfl rfl (by omega) 32 0 sA [] (by omega) sA_liv
  rw [List.nil_append] at h1
  exact ⟨S1, h1, h2, h3⟩
end Go.Proofs.Ytcpniplfkillbaa
namespace Go.Proofs.Ytcpniplfkillbaa
open Go.ChangeShapes Go.WideShapes Go.ChangeAt Go.RowKit
set_option linter.unusedSimpArgs false
set_option linter.unusedVariables false

attribute [local go_sem ↓] Go.wp_at_zero Go.wp_at_succ
theorem newA (w : World) : Calls Try.prog 26 #[.agg #[.int .i64 8, .int .i64 4, .int .i64 32, .int .i64 0, .int .i64 2], .slice none 0 0] w fun e' w' => (∃ m gx gb AF cf, e' = .returned (.pointer (some ⟨m, 0, none⟩)) ∧ ChipW w' m gx gb AF 0 cf 8 4 32 0 2 [] (ChS.new 1536 8) ∧ w.heap.size ≤ m ∧ w.heap.size ≤ gx ∧ w.heap.size ≤ gb) ∧ Below w.heap.size w w' :=
  newF_yes 8 4 32 0 2 [] none 0 1536 8 w (Or.inl rfl) (Nat.le_refl _) (Nat.zero_le _) (by simp) (Lib.hid (by decide)) (by decide) rfl (by omega) (by omega) (by omega)
theorem progA9 (m gx gb : Nat) (AF : Option Addr) (cf g cA : Nat) (w : World) (hC : ChipW w m gx gb AF 0 cf 8 4 32 0 2 [] (ChS.new 1536 8)) (hR : RowT w g 5 (rawA.map byteV)) (h1 : 48 ≤ cA) (h2 : cA ≤ maxLen) (hg : ¬ chB m gx gb g) :
    Calls Try.prog 30 #[.pointer (some ⟨m, 0, none⟩), .agg #[.int .i64 2, .int .i64 0], .slice (some ⟨g, 0, none⟩) 48 cA] w fun e' w' => e' = .returned (.int .i64 0) ∧ ChipW w' m gx gb AF 0 cf 8 4 32 0 2 [] sA ∧ Tch (chB m gx gb) w w' := by
  have h := prog_allC m gx gb AF 0 cf 8 4 32 0 2 [] 2 0 rawA g cA 20 w (ChS.new 1536 8) hC (good_new 1536 8).fine (by omega) (fun j u hj => by rw [Nat.zero_add]; exact hR.cell_ hj) hR.lt (by rw [rawA_len]; exact h1) h2 hg
  rw [rawA_len, progA] at h
  exact h
theorem walkA1 {S1 : ChS} (hX : S1.X = sA.X) (hL : Liv S1) : ∃ S2, walkF 8 4 32 4 [] (8 * 4) 0 S1 [] = (0, visF 4 48 [] sA.X 32 0, S2) := by
  obtain ⟨S2, h1, h2, h3⟩ := walkF_liv (a := 8) (b := 4) (c := 32) (NA := 8) (NB := 4) (RW := 48) (fs := []) rfl rfl rfl (by omega) 32 0 S1 [] (by omega) hL
  rw [List.nil_append, hX] at h1
  exact ⟨S2, h1⟩
theorem fd_lit (w : World) {g : Nat} (hg : g = w.heap.size) : SlFd (w.alloc (.cells #[.int .i64 2, .int .i64 0, .int .i64 1, .int .i64 3, .int .i64 5, .int .i64 2] 65)) (w.alloc (.cells #[.int .i64 2, .int .i64 0, .int .i64 1, .int .i64 3, .int .i64 5, .int .i64 2] 65)).heap.size (some ⟨g, 0, none⟩) [(⟨2, 0, 1, 3, 5, 2⟩ : Fd)] := by
  subst hg
  refine Or.inr ⟨w.heap.size, 0, rfl, (Blk.new_ w _ _).lt, fun k x hx j u hu => ?_⟩
  match k, hx with
  | 0, hx =>
    obtain rfl := Option.some.inj hx
    rw [(Blk.new_ w _ _).cell_, show 0 + 0 * 6 + j = j by omega, ← Array.getElem?_toList]
    exact hu
theorem SlE.tchF {w w' : World} {m gx gb B : Nat} {A : Option Addr} {L : List Fd} (h : SlFd w B A L) (hT : Tch (chB m gx gb) w w') (hB : B ≤ w.heap.size) (hn : ∀ b o, A = some ⟨b, o, none⟩ → ¬ chB m gx gb b) : SlFd w' w'.heap.size A L := by
  rcases h with h | ⟨b, off, e, hlt, hc⟩
  · exact Or.inl h
  · have hk := hT.far b (by omega) (hn b off e)
    exact Or.inr ⟨b, off, e, by have := hT.size; omega, fun k x hx j u hu => (World.cell?_of_block (w := w) hk).trans (hc k x hx j u hu)⟩
theorem own_atF {w : World} {base : Nat} {v : Value} {L : List Fd} (h : RowFd w base v L) : ∀ g, v.ownBlock = some g → base ≤ g := by
  intro g hg
  rcases h.2 with ⟨rfl, _⟩ | ⟨g', cap, cur, rfl, hb, _⟩
  · simp [Value.ownBlock] at hg
  · simp [Value.ownBlock] at hg
    omega
theorem btrT {w0 w w' : World} {m gx gb : Nat} (h : Below w0.heap.size w0 w) (hT : Tch (chB m gx gb) w w') (hl : ∀ g, chB m gx gb g → w0.heap.size ≤ g) : Below w0.heap.size w0 w' := h.trans (hT.below h.size hl)
theorem row_rep {w : World} {g : Nat} (h : RowT w g 5 (List.replicate (32 * 1) (Value.int .u8 0))) : RowT w g 5 ((List.replicate 32 0).map byteV) := by
  rw [List.map_replicate]
  exact h
set_option maxRecDepth 100000 in
set_option maxHeartbeats 8000000 in
theorem awake9 (w : World) : Calls Try.prog 6 #[] w fun e' w' => e' = .returned (.bool true) ∧ Below w.heap.size w w' := by
  obtain ⟨S1, hW1, hX1, hL1⟩ := walkA
  obtain ⟨S2, hW2⟩ := walkA1 hX1 hL1
  have HW1 := Lib.hid hW1
  have HW2 := Lib.hid hW2
  have HF := Lib.hid visA.1
  have HN1 : Hid ((fdsOf (visF 4 48 [] sA.X 32 0)).length = 1) := Lib.hid (by rw [HF.out]; rfl)
  have HP3 := Lib.hid visA.2
  clear hW1 hW2 hX1 hL1
  go_enter Try.func6, Try.ntmps6
  go_upto_region 4 with (first
    | (go_at_call 27; go_loud (((with_reducible refine (small9 w).mono ?_); rintro e' wN ⟨rfl, hb1⟩; skip)))
    | (go_at_call 26; go_loud (((with_reducible refine (newA _).mono ?_); rintro e' wN ⟨⟨m, gx, gb, AF, cf, rfl, hC, hm, hgx, hgb⟩, hbC⟩; have HBC := btr hb1 hb1.size hbC; have hsz1 := hb1.size))))
  obtain ⟨wC, hwC⟩ : ∃ V : World, V = wN := ⟨_, rfl⟩
  rw [← hwC] at hC HBC ⊢
  clear hwC hbC
  have HB4 : Below wC.heap.size wC wC := Below.refl _ _
  refine wp_region_noPanic ?_
  refine wp_region_held_drew (S := (fun _ => True)) (by kernel_rfl) ?_ (fun hHeld => ?_)
  · exact trivial
  refine wpAnyH_ready (rs := [0, 1]) (by kernel_rfl) (by simp) ?_
  refine (AllReadyH.cons (o := ⟨some 18, .makeSlice 38 (.const (.int .i64 32)) (.const (.int .i64 32)), 38, "law.go:29", #[], none⟩) rfl (fun K hK => ?_) (AllReadyH.cons (o := ⟨some 19, .call { callee := .value (.func 29), args := #[], argTypes := #[] }, 40, "law.go:29", #[], none⟩) rfl (fun K hK => ?_) AllReadyH.nil))
  · obtain ⟨ti0, hi, hz0, hz1, hz2⟩ := info_parts infoByte
    refine wp_make _ (.const (.int .i64 32)) (.const (.int .i64 32)) 38 rfl _ 5 ti0 (.int .u8 0) 1 Try.underlying38 hi hz0 hz1 .i64 .i64 32 32 32 rfl rfl rfl rfl (by rw [hz2]; omega) (by unfold maxLen; omega) (Nat.le_refl _) ?_
    intro wM hoM hgM
    clear hi hz0 hz1 hz2
    have hb := (Below.refl _ _).grown hgM (Nat.le_refl _) (fun j hj => by cases hj)
    (try have hb := undrew hb)
    replace HB4 := btr HB4 HB4.size hb
    have hrM0 := RowT.own hoM
    rw [show (madeCells (Value.int .u8 0).cells (32 * 1)).toList = List.replicate (32 * 1) (Value.int .u8 0) from toList_madeCells_one _ _] at hrM0
    have hrM := row_rep hrM0
    (try change RowT _ wC.heap.size _ _ at hrM)
    clear hoM hgM hrM0
    refine hK.out _ _ ?_ (fun hNew => ?_)
    · exact trivial
    clear hK K hHeld
    have hHeld := hNew
    clear hNew
    try simp only [Act.put, pz1, pz2, pz3]
    refine wpAnyH_ready (rs := [1]) (by kernel_rfl) (by simp) ?_
    refine AllReadyH.cons (o := ⟨some 19, .call { callee := .value (.func 29), args := #[], argTypes := #[] }, 40, "law.go:29", #[], none⟩) rfl (fun K hK => ?_) AllReadyH.nil
    go_simp
    (first | (go_at_call 29; go_loud (((with_reducible refine (one9 _).mono ?_); rintro e' wN ⟨rfl, hb⟩; (try have hb := undrew hb); replace HB4 := btr HB4 HB4.size hb; (try replace hrM := hrM.below hb)))) | (go_at_call 28; go_loud (((with_reducible refine (lay9 _ 32 _ (row_sl hrM)).mono ?_); rintro e' wN ⟨⟨g4, cA, rfl, hrA, hg4, hc1, hc2⟩, hb⟩; have hs4 := HB4.size; replace HB4 := btr HB4 HB4.size hb))))
    go_wp2_with fail
    refine hK.out _ _ ?_ (fun hNew => ?_)
    · exact trivial
    clear hK K hHeld
    have hHeld := hNew
    clear hNew
    try simp only [Act.put, pz1, pz2, pz3]
    refine wpAnyH_ready (rs := [2]) (by kernel_rfl) (by simp) ?_
    refine AllReadyH.cons (o := ⟨some 20, .call { callee := .value (.func 28), args := #[.tmp 18, .tmp 19], argTypes := #[38, 40] }, 73, "law.go:29", #[⟨0, .data⟩, ⟨1, .data⟩, ⟨1, .chain⟩], none⟩) rfl (fun K hK => ?_) AllReadyH.nil
    go_simp
    (first | (go_at_call 29; go_loud (((with_reducible refine (one9 _).mono ?_); rintro e' wN ⟨rfl, hb⟩; (try have hb := undrew hb); replace HB4 := btr HB4 HB4.size hb; (try replace hrM := hrM.below hb)))) | (go_at_call 28; go_loud (((with_reducible refine (lay9 _ 32 _ (row_sl hrM)).mono ?_); rintro e' wN ⟨⟨g4, cA, rfl, hrA, hg4, hc1, hc2⟩, hb⟩; have hs4 := HB4.size; replace HB4 := btr HB4 HB4.size hb))))
    go_wp2_with fail
    refine hK.out _ _ ?_ (fun hNew => ?_)
    · exact trivial
    clear hK K hHeld
    have hHeld := hNew
    clear hNew
    try simp only [Act.put, pz1, pz2, pz3]
    refine wpAnyH_take (i := 3) (oi := ⟨some 17, .move (.tmp 20), 73, "law.go:29", #[⟨2, .data⟩], none⟩) (v := ?_) rfl (by kernel_rfl) (by kernel_rfl) (by kernel_rfl) (fun _ _ _ h => h) (Or.inl ⟨by rfl, ?_⟩) (by assumption) ?_
    rotate_left
    · (intro wS hSw; (try dsimp only at hSw); go_simp; (try with_reducible rfl))
    try simp only [Act.put, pz1, pz2, pz3]
    refine wpAnyH_take (i := 4) (oi := ⟨some 21, .extract (.tmp 17) 0, 38, "law.go:29", #[⟨3, .data⟩], none⟩) (v := ?_) rfl (by kernel_rfl) (by kernel_rfl) (by kernel_rfl) (fun _ _ _ h => h) (Or.inl ⟨by rfl, ?_⟩) (by assumption) ?_
    rotate_left
    · (intro wS hSw; (try dsimp only at hSw); go_simp; (try with_reducible rfl))
    try simp only [Act.put, pz1, pz2, pz3]
    refine wpAnyH_take (i := 5) (oi := ⟨some 22, .extract (.tmp 17) 1, 3, "law.go:29", #[⟨3, .data⟩, { on := 6, ground := Ground.gcOnly Departure.lateStores }], none⟩) (v := ?_) rfl (by kernel_rfl) (by kernel_rfl) (by kernel_rfl) (fun _ _ _ h => h) (Or.inl ⟨by rfl, ?_⟩) (by assumption) ?_
    rotate_left
    · (intro wS hSw; (try dsimp only at hSw); go_simp; (try with_reducible rfl))
    try simp only [Act.put, pz1, pz2, pz3]
    refine wpAnyH_take (i := 6) (oi := ⟨some 2, .assign (.tmp 21), 38, "law.go:29", #[⟨4, .data⟩, ⟨2, .chain⟩, ⟨0, .phase⟩, ⟨1, .phase⟩, ⟨2, .phase⟩, ⟨3, .phase⟩, ⟨4, .phase⟩, { on := 5, ground := Ground.textOnly Departure.lateStores }], none⟩) (v := ?_) rfl (by kernel_rfl) (by kernel_rfl) (by kernel_rfl) (fun _ _ _ h => h) (Or.inl ⟨by rfl, ?_⟩) (by assumption) ?_
    rotate_left
    · (intro wS hSw; (try dsimp only at hSw); go_simp; (try with_reducible rfl))
    try simp only [Act.put, pz1, pz2, pz3]
    refine wpAnyH_take (i := 7) (oi := ⟨some 3, .assign (.tmp 22), 3, "law.go:29", #[⟨5, .data⟩, ⟨6, .chain⟩, ⟨0, .phase⟩, ⟨1, .phase⟩, ⟨2, .phase⟩, ⟨3, .phase⟩, ⟨4, .phase⟩, ⟨5, .phase⟩, ⟨6, .phase⟩], none⟩) (v := ?_) rfl (by kernel_rfl) (by kernel_rfl) (by kernel_rfl) (fun _ _ _ h => h) (Or.inl ⟨by rfl, ?_⟩) (by assumption) ?_
    rotate_left
    · (intro wS hSw; (try dsimp only at hSw); go_simp; (try with_reducible rfl))
    try simp only [Act.put, pz1, pz2, pz3]
    refine wpAnyH_done (by kernel_rfl) ?_ _
    refine NoPanic.normal ?_
    clear hHeld
    have HC4 : ChipW wN m gx gb AF 0 cf 8 4 32 0 2 [] (ChS.new 1536 8) := hC.below HB4
    have HBN := HBC.trans (HB4.mono HBC.size)
    have hlC := hC.lt
    have hng : ¬ chB m gx gb g4 := fun e => by rcases e with rfl | rfl | rfl <;> omega
    have hlow : ∀ g, chB m gx gb g → w.heap.size ≤ g := fun g e => by rcases e with rfl | rfl | rfl <;> omega
    go_wp2_with (first
      | (go_at_call 30; go_loud (((with_reducible refine (progA9 m gx gb AF cf g4 cA _ HC4 hrA hc1 hc2 hng).mono ?_); rintro e' wN ⟨rfl, hCP, hTP⟩; have HBP := btrT HBN hTP hlow; have hgd : Good sA 23 := ((good_new 1536 8).prog HC4 2 0 rawA).mono (show (20 : Int) + 3 ≤ 23 by omega))))
      | (go_at_call 16; go_loud (((with_reducible refine (scan_ok m gx gb AF 0 cf 8 4 32 0 2 [] 8 4 23 (visF 4 48 [] sA.X 32 0) sA S1 _ hCP hgd (by omega) sA_liv.b8 rfl rfl HW1 1 HN1).mono ?_); rintro e' wN ⟨⟨A5, c5, rfl, hrF⟩, hCS, hTS, hgS, hb8S⟩; have HBS := btrT HBP hTS hlow; obtain ⟨A6, c6, hv6, hsF, -, -⟩ := hrF.sl; have hnF : ∀ b o, A5 = some ⟨b, o, none⟩ → ¬ chB m gx gb b := fun b o e e2 => (by have h1 := (own_atF hrF b (by rw [e]; rfl)); have h2 := hCP.lt; rcases e2 with rfl | rfl | rfl <;> omega); rw [HF.out] at hv6 hsF; cases hv6)))
      | (go_at_call 18; go_loud (((with_reducible refine (count_ok m gx gb AF 0 cf 8 4 32 0 2 [] 8 4 (23 + 1000) (visF 4 48 [] sA.X 32 0) S1 S2 _ hCS hgS (by omega) hb8S rfl rfl HW2 31 1 0 HP3).mono ?_); rintro e' wN ⟨rfl, hCT, hTT, -, -⟩; have HBT := btrT HBS hTT hlow; have hsF2 := SlE.tchF hsF hTT (Nat.le_refl _) hnF)))
      | (go_at_call 8; go_loud (((with_reducible refine (state_nil 0 0 _).mono ?_); rintro e' wN ⟨rfl, hbU⟩; have HBU := btr HBT HBT.size hbU; have hsF3 := hsF2.next hbU)))
      | (go_at_call 29; go_loud (((with_reducible refine (one9 _).mono ?_); rintro e' wN ⟨rfl, hbV⟩; have HBV := btr HBU HBU.size hbV; have hsF4 := hsF3.next hbV)))
      | (go_at_call 20; go_loud (((with_reducible refine (same_yes [(⟨2, 0, 1, 3, 5, 2⟩ : Fd)] A5 _ 1 c5 1 _ rfl (by omega) (hsF4.next ((Below.refl _ _).alloc (Nat.le_refl _) _)) (fd_lit _ (by simp))).mono ?_); rintro e' wN ⟨rfl, hbW⟩; have HBW := (HBV.alloc HBV.size _).trans (hbW.mono (by have := HBV.size; simp; omega))))))
    go_ret
    exact ⟨rfl, HBW⟩
  · go_simp
    (first | (go_at_call 29; go_loud (((with_reducible refine (one9 _).mono ?_); rintro e' wN ⟨rfl, hb⟩; (try have hb := undrew hb); replace HB4 := btr HB4 HB4.size hb; (try replace hrM := hrM.below hb)))) | (go_at_call 28; go_loud (((with_reducible refine (lay9 _ 32 _ (row_sl hrM)).mono ?_); rintro e' wN ⟨⟨g4, cA, rfl, hrA, hg4, hc1, hc2⟩, hb⟩; have hs4 := HB4.size; replace HB4 := btr HB4 HB4.size hb))))
    go_wp2_with fail
    refine hK.out _ _ ?_ (fun hNew => ?_)
    · exact trivial
    clear hK K hHeld
    have hHeld := hNew
    clear hNew
    try simp only [Act.put, pz1, pz2, pz3]
    refine wpAnyH_ready (rs := [0]) (by kernel_rfl) (by simp) ?_
    refine AllReadyH.cons (o := ⟨some 18, .makeSlice 38 (.const (.int .i64 32)) (.const (.int .i64 32)), 38, "law.go:29", #[], none⟩) rfl (fun K hK => ?_) AllReadyH.nil
    obtain ⟨ti0, hi, hz0, hz1, hz2⟩ := info_parts infoByte
    refine wp_make _ (.const (.int .i64 32)) (.const (.int .i64 32)) 38 rfl _ 5 ti0 (.int .u8 0) 1 Try.underlying38 hi hz0 hz1 .i64 .i64 32 32 32 rfl rfl rfl rfl (by rw [hz2]; omega) (by unfold maxLen; omega) (Nat.le_refl _) ?_
    intro wM hoM hgM
    clear hi hz0 hz1 hz2
    have hb := (Below.refl _ _).grown hgM (Nat.le_refl _) (fun j hj => by cases hj)
    (try have hb := undrew hb)
    replace HB4 := btr HB4 HB4.size hb
    have hrM0 := RowT.own hoM
    rw [show (madeCells (Value.int .u8 0).cells (32 * 1)).toList = List.replicate (32 * 1) (Value.int .u8 0) from toList_madeCells_one _ _] at hrM0
    have hrM := row_rep hrM0
    (try change RowT _ wC.heap.size _ _ at hrM)
    clear hoM hgM hrM0
    refine hK.out _ _ ?_ (fun hNew => ?_)
    · exact trivial
    clear hK K hHeld
    have hHeld := hNew
    clear hNew
    try simp only [Act.put, pz1, pz2, pz3]
    refine wpAnyH_ready (rs := [2]) (by kernel_rfl) (by simp) ?_
    refine AllReadyH.cons (o := ⟨some 20, .call { callee := .value (.func 28), args := #[.tmp 18, .tmp 19], argTypes := #[38, 40] }, 73, "law.go:29", #[⟨0, .data⟩, ⟨1, .data⟩, ⟨1, .chain⟩], none⟩) rfl (fun K hK => ?_) AllReadyH.nil
    go_simp
    (first | (go_at_call 29; go_loud (((with_reducible refine (one9 _).mono ?_); rintro e' wN ⟨rfl, hb⟩; (try have hb := undrew hb); replace HB4 := btr HB4 HB4.size hb; (try replace hrM := hrM.below hb)))) | (go_at_call 28; go_loud (((with_reducible refine (lay9 _ 32 _ (row_sl hrM)).mono ?_); rintro e' wN ⟨⟨g4, cA, rfl, hrA, hg4, hc1, hc2⟩, hb⟩; have hs4 := HB4.size; replace HB4 := btr HB4 HB4.size hb))))
    go_wp2_with fail
    refine hK.out _ _ ?_ (fun hNew => ?_)
    · exact trivial
    clear hK K hHeld
    have hHeld := hNew
    clear hNew
    try simp only [Act.put, pz1, pz2, pz3]
    refine wpAnyH_take (i := 3) (oi := ⟨some 17, .move (.tmp 20), 73, "law.go:29", #[⟨2, .data⟩], none⟩) (v := ?_) rfl (by kernel_rfl) (by kernel_rfl) (by kernel_rfl) (fun _ _ _ h => h) (Or.inl ⟨by rfl, ?_⟩) (by assumption) ?_
    rotate_left
    · (intro wS hSw; (try dsimp only at hSw); go_simp; (try with_reducible rfl))
    try simp only [Act.put, pz1, pz2, pz3]
    refine wpAnyH_take (i := 4) (oi := ⟨some 21, .extract (.tmp 17) 0, 38, "law.go:29", #[⟨3, .data⟩], none⟩) (v := ?_) rfl (by kernel_rfl) (by kernel_rfl) (by kernel_rfl) (fun _ _ _ h => h) (Or.inl ⟨by rfl, ?_⟩) (by assumption) ?_
    rotate_left
    · (intro wS hSw; (try dsimp only at hSw); go_simp; (try with_reducible rfl))
    try simp only [Act.put, pz1, pz2, pz3]
    refine wpAnyH_take (i := 5) (oi := ⟨some 22, .extract (.tmp 17) 1, 3, "law.go:29", #[⟨3, .data⟩, { on := 6, ground := Ground.gcOnly Departure.lateStores }], none⟩) (v := ?_) rfl (by kernel_rfl) (by kernel_rfl) (by kernel_rfl) (fun _ _ _ h => h) (Or.inl ⟨by rfl, ?_⟩) (by assumption) ?_
    rotate_left
    · (intro wS hSw; (try dsimp only at hSw); go_simp; (try with_reducible rfl))
    try simp only [Act.put, pz1, pz2, pz3]
    refine wpAnyH_take (i := 6) (oi := ⟨some 2, .assign (.tmp 21), 38, "law.go:29", #[⟨4, .data⟩, ⟨2, .chain⟩, ⟨0, .phase⟩, ⟨1, .phase⟩, ⟨2, .phase⟩, ⟨3, .phase⟩, ⟨4, .phase⟩, { on := 5, ground := Ground.textOnly Departure.lateStores }], none⟩) (v := ?_) rfl (by kernel_rfl) (by kernel_rfl) (by kernel_rfl) (fun _ _ _ h => h) (Or.inl ⟨by rfl, ?_⟩) (by assumption) ?_
    rotate_left
    · (intro wS hSw; (try dsimp only at hSw); go_simp; (try with_reducible rfl))
    try simp only [Act.put, pz1, pz2, pz3]
    refine wpAnyH_take (i := 7) (oi := ⟨some 3, .assign (.tmp 22), 3, "law.go:29", #[⟨5, .data⟩, ⟨6, .chain⟩, ⟨0, .phase⟩, ⟨1, .phase⟩, ⟨2, .phase⟩, ⟨3, .phase⟩, ⟨4, .phase⟩, ⟨5, .phase⟩, ⟨6, .phase⟩], none⟩) (v := ?_) rfl (by kernel_rfl) (by kernel_rfl) (by kernel_rfl) (fun _ _ _ h => h) (Or.inl ⟨by rfl, ?_⟩) (by assumption) ?_
    rotate_left
    · (intro wS hSw; (try dsimp only at hSw); go_simp; (try with_reducible rfl))
    try simp only [Act.put, pz1, pz2, pz3]
    refine wpAnyH_done (by kernel_rfl) ?_ _
    refine NoPanic.normal ?_
    clear hHeld
    have HC4 : ChipW wN m gx gb AF 0 cf 8 4 32 0 2 [] (ChS.new 1536 8) := hC.below HB4
    have HBN := HBC.trans (HB4.mono HBC.size)
    have hlC := hC.lt
    have hng : ¬ chB m gx gb g4 := fun e => by rcases e with rfl | rfl | rfl <;> omega
    have hlow : ∀ g, chB m gx gb g → w.heap.size ≤ g := fun g e => by rcases e with rfl | rfl | rfl <;> omega
    go_wp2_with (first
      | (go_at_call 30; go_loud (((with_reducible refine (progA9 m gx gb AF cf g4 cA _ HC4 hrA hc1 hc2 hng).mono ?_); rintro e' wN ⟨rfl, hCP, hTP⟩; have HBP := btrT HBN hTP hlow; have hgd : Good sA 23 := ((good_new 1536 8).prog HC4 2 0 rawA).mono (show (20 : Int) + 3 ≤ 23 by omega))))
      | (go_at_call 16; go_loud (((with_reducible refine (scan_ok m gx gb AF 0 cf 8 4 32 0 2 [] 8 4 23 (visF 4 48 [] sA.X 32 0) sA S1 _ hCP hgd (by omega) sA_liv.b8 rfl rfl HW1 1 HN1).mono ?_); rintro e' wN ⟨⟨A5, c5, rfl, hrF⟩, hCS, hTS, hgS, hb8S⟩; have HBS := btrT HBP hTS hlow; obtain ⟨A6, c6, hv6, hsF, -, -⟩ := hrF.sl; have hnF : ∀ b o, A5 = some ⟨b, o, none⟩ → ¬ chB m gx gb b := fun b o e e2 => (by have h1 := (own_atF hrF b (by rw [e]; rfl)); have h2 := hCP.lt; rcases e2 with rfl | rfl | rfl <;> omega); rw [HF.out] at hv6 hsF; cases hv6)))
      | (go_at_call 18; go_loud (((with_reducible refine (count_ok m gx gb AF 0 cf 8 4 32 0 2 [] 8 4 (23 + 1000) (visF 4 48 [] sA.X 32 0) S1 S2 _ hCS hgS (by omega) hb8S rfl rfl HW2 31 1 0 HP3).mono ?_); rintro e' wN ⟨rfl, hCT, hTT, -, -⟩; have HBT := btrT HBS hTT hlow; have hsF2 := SlE.tchF hsF hTT (Nat.le_refl _) hnF)))
      | (go_at_call 8; go_loud (((with_reducible refine (state_nil 0 0 _).mono ?_); rintro e' wN ⟨rfl, hbU⟩; have HBU := btr HBT HBT.size hbU; have hsF3 := hsF2.next hbU)))
      | (go_at_call 29; go_loud (((with_reducible refine (one9 _).mono ?_); rintro e' wN ⟨rfl, hbV⟩; have HBV := btr HBU HBU.size hbV; have hsF4 := hsF3.next hbV)))
      | (go_at_call 20; go_loud (((with_reducible refine (same_yes [(⟨2, 0, 1, 3, 5, 2⟩ : Fd)] A5 _ 1 c5 1 _ rfl (by omega) (hsF4.next ((Below.refl _ _).alloc (Nat.le_refl _) _)) (fd_lit _ (by simp))).mono ?_); rintro e' wN ⟨rfl, hbW⟩; have HBW := (HBV.alloc HBV.size _).trans (hbW.mono (by have := HBV.size; simp; omega))))))
    go_ret
    exact ⟨rfl, HBW⟩
end Go.Proofs.Ytcpniplfkillbaa
namespace Go.Proofs.Ytcpniplfkillbaa
open Go.ChangeShapes Go.WideShapes Go.ChangeAt Go.RowKit
set_option linter.unusedSimpArgs false
set_option linter.unusedVariables false

theorem erase_liv {a b c : Int} {s : ChS} {k NB RW : Nat} (h : Liv s) (hk : (k : Int) < a) (hB : (NB : Int) = b) (hR : (RW : Int) = c + 16) : s.eraseZ a [] (k : Int) = 0 ∧ (s.eraseS a b c [] (k : Int)).X = putX s.X (k * (NB * RW)) (List.replicate (NB * RW) 255) ∧ Liv (s.eraseS a b c [] (k : Int)) := by
  have hin : inB a (k : Int) = true := by unfold inB; simp; omega
  have hf : failedB a [] s (k : Int) = false := by unfold failedB; simp [failsB]
  have hsz : (b * (c + 16)).toNat = NB * RW := by rw [← hB, ← hR, ← Int.natCast_mul]; rfl
  have eX : (s.eraseS a b c [] (k : Int)) = s.tick.wipe b k (NB * RW) 255 := by
    unfold ChS.eraseS
    rw [h.on, hin, hf, h.cut, hsz]
    rfl
  have ht := h.tick
  refine ⟨?_, ?_, ?_⟩
  · unfold ChS.eraseZ
    rw [h.on, hin, h.cut, hf]
    rfl
  · rw [eX]
    show putX s.tick.X _ _ = _
    rw [tick_X8]
  · rw [eX]
    refine ⟨ht.on, ht.ar, ?_⟩
    show Bytes8 (putX s.tick.X _ _)
    exact putX_8 ht.b8 (fun x hx => by
      have := List.eq_of_mem_replicate hx
      omega)
theorem fdOf_b {k l : Nat} {bs : List Nat} : ∀ f ∈ fdOf (k, l, bs), f.b = (k : Int) := by
  intro f hf
  unfold fdOf at hf
  dsimp only at hf
  split at hf
  · rw [List.mem_singleton.1 hf]
  · cases hf
theorem fdOf_blank {k l RW : Nat} (h1 : 40 ≤ RW) (h2 : RW ≤ 80) : fdOf (k, l, List.replicate RW 255) = [] := by
  unfold fdOf
  dsimp only
  rw [st_blank h1 h2, if_neg (by omega)]
/-- The founds behind an erase are those in other blocks. -/
theorem vis_erase {NA NB RW k : Nat} {X : List Nat} (h1 : 40 ≤ RW) (h2 : RW ≤ 80) (h0 : 0 < NB) (hk : k < NA) (hX : NA * NB * RW ≤ X.length) : ∀ (r i : Nat), i + r ≤ NA * NB → fdsOf (visF NB RW [] (putX X (k * (NB * RW)) (List.replicate (NB * RW) 255)) r i) = (fdsOf (visF NB RW [] X r i)).filter (fun f => decide (f.b ≠ (k : Int)))
  | 0, i, _ => rfl
  | r + 1, i, hi => by
    have hfit : k * (NB * RW) + NB * RW ≤ X.length := by
      have e1 : (k + 1) * (NB * RW) ≤ NA * (NB * RW) := Nat.mul_le_mul_right _ hk
      rw [Nat.add_mul, Nat.one_mul] at e1
      rw [Nat.mul_assoc] at hX
      omega
    have h3 : i / NB * NB + i % NB = i := by rw [Nat.mul_comm]; exact Nat.div_add_mod i NB
    have h4 : i % NB < NB := Nat.mod_lt _ h0
    rw [visF_nil, visF_nil, fds_cons, fds_cons, List.filter_append, vis_erase h1 h2 h0 hk hX r (i + 1) (by omega)]
    congr 1
    by_cases hq : i / NB = k
    · have e2 : pg (putX X (k * (NB * RW)) (List.replicate (NB * RW) 255)) RW i = List.replicate RW 255 := by
        refine pg_in hfit ?_ ?_
        · rw [← Nat.mul_assoc]
          exact Nat.mul_le_mul_right _ (by rw [← hq]; omega)
        · have e3 : (i + 1) * RW ≤ ((k + 1) * NB) * RW := Nat.mul_le_mul_right _ (by rw [Nat.add_mul, ← hq]; omega)
          rw [Nat.add_mul, Nat.one_mul, Nat.mul_assoc, Nat.add_mul, Nat.one_mul] at e3
          omega
      rw [e2, fdOf_blank h1 h2]
      symm
      rw [List.filter_eq_nil_iff]
      intro f hf
      have := fdOf_b f hf
      simp
      omega
    · have e2 : pg (putX X (k * (NB * RW)) (List.replicate (NB * RW) 255)) RW i = pg X RW i := by
        refine pg_far (by rw [List.length_replicate]; exact hfit) ?_
        rw [List.length_replicate]
        rcases Nat.lt_or_ge (i / NB) k with hl | hg
        · left
          have e3 : (i + 1) * RW ≤ (k * NB) * RW := Nat.mul_le_mul_right _ (by
            have : (i / NB + 1) * NB ≤ k * NB := Nat.mul_le_mul_right _ hl
            rw [Nat.add_mul] at this
            omega)
          rw [Nat.add_mul, Nat.one_mul, Nat.mul_assoc] at e3
          exact e3
        · right
          have e3 : ((k + 1) * NB) * RW ≤ i * RW := Nat.mul_le_mul_right _ (by
            have : (k + 1) * NB ≤ i / NB * NB := Nat.mul_le_mul_right _ (by omega)
            omega)
          rw [Nat.mul_assoc, Nat.add_mul, Nat.one_mul] at e3
          exact e3
      rw [e2]
      symm
      rw [List.filter_eq_self]
      intro f hf
      have := fdOf_b f hf
      simp
      omega
/-- An erased block's pages. -/
theorem pg_erased {NA NB RW k l : Nat} {X : List Nat} (hk : k < NA) (hl : l < NB) (hX : NA * NB * RW ≤ X.length) : pg (putX X (k * (NB * RW)) (List.replicate (NB * RW) 255)) RW (k * NB + l) = List.replicate RW 255 := by
  have hfit : k * (NB * RW) + NB * RW ≤ X.length := by
    have e1 : (k + 1) * (NB * RW) ≤ NA * (NB * RW) := Nat.mul_le_mul_right _ hk
    rw [Nat.add_mul, Nat.one_mul] at e1
    rw [Nat.mul_assoc] at hX
    omega
  refine pg_in hfit ?_ ?_
  · rw [Nat.add_mul, Nat.mul_assoc]
    omega
  · have e3 : (k * NB + l + 1) * RW ≤ ((k + 1) * NB) * RW := Nat.mul_le_mul_right _ (by rw [Nat.add_mul]; omega)
    rw [Nat.add_mul _ 1 RW, Nat.one_mul, Nat.mul_assoc (k + 1), Nat.add_mul k 1, Nat.one_mul] at e3
    exact e3
theorem at_page {k l NB : Nat} (h0 : 0 < NB) (hl : l < NB) : (k * NB + l) / NB = k ∧ (k * NB + l) % NB = l := by
  rw [Nat.mul_comm, Nat.mul_add_div h0, Nat.mul_add_mod, Nat.div_eq_of_lt hl, Nat.mod_eq_of_lt hl]
  exact ⟨rfl, rfl⟩
/-- Erase of a chip that lives. -/
theorem eraseL (m gx gb : Nat) (Af : Option Addr) (nf cf : Nat) (a b c d e : Int) (fs : List Flt) (x : Int) (n : Int) (w : World) (s S2 : ChS) (hC : ChipW w m gx gb Af nf cf a b c d e fs s) (hg : Good s n) (hn : n ≤ 900000000) (hZ : Hid (s.eraseZ a fs x = 0 ∧ s.eraseS a b c fs x = S2)) :
    Calls Try.prog 25 #[.pointer (some ⟨m, 0, none⟩), .int .i64 x] w fun e' w' => e' = .returned (.int .i64 0) ∧ ChipW w' m gx gb Af nf cf a b c d e fs S2 ∧ Tch (chB m gx gb) w w' := by
  obtain ⟨h1, rfl⟩ := hZ.out
  refine (erase_all m gx gb Af nf cf a b c d e fs x n w s hC hg.fine hn).mono ?_
  rintro e' w' ⟨rfl, h2, h3⟩
  rw [h1]
  exact ⟨rfl, h2, h3⟩
/-- State of an erased page. -/
theorem state_erased (m gx gb : Nat) (Af : Option Addr) (nf cf : Nat) (a b c d e : Int) (fs : List Flt) (NA NB RW k l : Nat) (n0 : Int) (w : World) (s : ChS) (hC : ChipW w m gx gb Af nf cf a b c d e fs s) (hg : Good s n0) (hn0 : n0 ≤ 800000000) (hL : Liv s) (hNA : (NA : Int) = a) (hNB : (NB : Int) = b) (hRW : (RW : Int) = c + 16) (h1 : 40 ≤ RW) (h2 : RW ≤ 80) (hk : k < NA) (hl : l < NB) (hp : pg s.X RW (k * NB + l) = List.replicate RW 255) (X : Int) (hX : Hid ((k : Int) = X)) :
    Calls Try.prog 8 #[.pointer (some ⟨m, 0, none⟩), .agg #[.int .i64 X, .int .i64 (l : Int)]] w fun e' w' => e' = .returned (.tuple #[.int .i64 0, .int .i64 0]) ∧ ∃ S1, ChipW w' m gx gb Af nf cf a b c d e fs S1 ∧ Tch (chB m gx gb) w w' ∧ Good S1 (n0 + 3) ∧ Liv S1 ∧ S1.X = s.X := by
  obtain rfl := hX.out
  have h0 : 0 < NB := by omega
  obtain ⟨e1, e2⟩ := at_page (k := k) h0 hl
  have hi : k * NB + l < NA * NB := by
    have : (k + 1) * NB ≤ NA * NB := Nat.mul_le_mul_right _ hk
    rw [Nat.add_mul] at this
    omega
  obtain ⟨z1, z2⟩ := live_read (c := c) hL hNA hNB hRW h0 hi
  rw [e1, e2] at z1 z2
  rw [hp] at z2
  obtain ⟨D, n, K, P, S, E, st, hlk⟩ := Lk.ex (List.replicate RW 255)
  have hst : st = 0 := by rw [← hlk.st]; exact st_blank h1 h2
  subst hst
  refine (state_yes m gx gb Af nf cf a b c d e fs (k : Int) (l : Int) n0 w s hC hg.fine (by omega) D n K P S E 0 (s.readS a b (k : Int) (l : Int)) (List.replicate RW 255) (fun x hx => by have := List.eq_of_mem_replicate hx; omega) (by rw [List.length_replicate]; omega) (Lib.hid ⟨z1, z2, rfl⟩) (Lib.hid hlk)).mono ?_
  rintro e' w' ⟨rfl, h3, h4⟩
  exact ⟨rfl, _, h3, h4, hg.read a b _ _, hL.read a b _ _, readS_X s a b _ _⟩
theorem filt_take {L : List Fd} {j : Nat} {x : Fd} (P : Fd → Bool) (h : L[j]? = some x) : (L.take (j + 1)).filter P = (L.take j).filter P ++ (if P x = true then [x] else []) := by
  rw [List.take_add_one, h, List.filter_append]
  congr 1
  cases hp : P x <;> simp [hp]
theorem vis_len {NB RW : Nat} {X : List Nat} : ∀ (r i : Nat), (visF NB RW [] X r i).length = r
  | 0, i => rfl
  | r + 1, i => by rw [visF_nil, List.length_cons, vis_len r (i + 1)]
/-- What stands ahead of an erase and behind it. -/
structure ESet (a b c z : Int) (NA NB RW k : Nat) (S S1 S2 S3 : ChS) (n1 n2 : Nat) (acc1 acc2 : List Vis) : Prop where
  na : (NA : Int) = a
  nb : (NB : Int) = b
  rw : (RW : Int) = c + 16
  r1 : 40 ≤ RW
  r2 : RW ≤ 80
  b1 : 4 ≤ NB
  b2 : NB ≤ 8
  kz : Hid ((k : Int) = lowI z a)
  k1 : k < NA
  w1 : Hid (walkF a b c NB [] (NA * NB) 0 S [] = (0, acc1, S1))
  m1 : Hid ((fdsOf acc1).length = n1)
  q1 : n1 ≤ 1000000
  l1 : Liv S1
  er : Hid (S1.eraseZ a [] (lowI z a) = 0 ∧ S1.eraseS a b c [] (lowI z a) = S2)
  l2 : Liv S2
  w2 : Hid (walkF a b c NB [] (NA * NB) 0 S2 [] = (0, acc2, S3))
  m2 : Hid ((fdsOf acc2).length = n2)
  q2 : n2 ≤ 1000000
  l3 : Liv S3
  fd : Hid (fdsOf acc2 = (fdsOf acc1).filter (fun f => decide (f.b ≠ lowI z a)))
  pg : ∀ l, l < NB → pg S3.X RW (k * NB + l) = List.replicate RW 255
theorem eset {w : World} {m gx gb : Nat} {Af : Option Addr} {nf cf : Nat} {a b c d e : Int} {fs : List Flt} {S : ChS} (hC : ChipW w m gx gb Af nf cf a b c d e fs S) (hL : Liv S) (z : Int) : (1 ≤ a ∧ a ≤ 20) ∧ ∃ NA NB RW k S1 S2 S3 n1 n2 acc1 acc2, ESet a b c z NA NB RW k S S1 S2 S3 n1 n2 acc1 acc2 := by
  obtain ⟨hm, -, -⟩ := planMay_bd hC.may
  obtain ⟨g1, g2, g3, g4, g5, g6, -⟩ := may_bd hm
  obtain ⟨NA, hA⟩ : ∃ NA : Nat, (NA : Int) = a := ⟨a.toNat, by omega⟩
  obtain ⟨NB, hB⟩ : ∃ NB : Nat, (NB : Int) = b := ⟨b.toNat, by omega⟩
  obtain ⟨RW, hR⟩ : ∃ RW : Nat, (RW : Int) = c + 16 := ⟨(c + 16).toNat, by omega⟩
  have hz := lowI_bd z a (by omega)
  obtain ⟨k, hk⟩ : ∃ k : Nat, (k : Int) = lowI z a := ⟨(lowI z a).toNat, by omega⟩
  refine ⟨⟨by omega, g2⟩, ?_⟩
  have hX : NA * NB * RW ≤ S.X.length := by
    rw [hC.lenX, ← hA, ← hB, ← hR, ← Int.natCast_mul, ← Int.natCast_mul, Int.toNat_natCast]
    exact Nat.le_refl _
  have hab : NA * NB ≤ 20 * 8 := Nat.mul_le_mul (by omega) (by omega)
  obtain ⟨S1, h1, h2, h3⟩ := walkF_liv (a := a) (b := b) (c := c) (NA := NA) (NB := NB) (RW := RW) (fs := []) hA hB hR (by omega) (NA * NB) 0 S [] (by omega) hL
  rw [List.nil_append] at h1
  obtain ⟨e1, e2, e3⟩ := erase_liv (k := k) h3 (show (k : Int) < a by omega) hB hR
  obtain ⟨S3, h4, h5, h6⟩ := walkF_liv (a := a) (b := b) (c := c) (NA := NA) (NB := NB) (RW := RW) (fs := []) hA hB hR (by omega) (NA * NB) 0 (S1.eraseS a b c [] (k : Int)) [] (by omega) e3
  rw [List.nil_append] at h4
  have hkA : k < NA := by omega
  have hve := vis_erase (NA := NA) (NB := NB) (RW := RW) (k := k) (X := S.X) (by omega) (by omega) (by omega) hkA hX (NA * NB) 0 (by omega)
  rw [← h2, ← e2] at hve
  refine ⟨NA, NB, RW, k, S1, S1.eraseS a b c [] (k : Int), S3, _, _, _, _, hA, hB, hR, by omega, by omega, by omega, by omega, Lib.hid hk, hkA, Lib.hid h1, Lib.hid rfl, ?_, h3, Lib.hid ?_, e3, Lib.hid h4, Lib.hid rfl, ?_, h6, Lib.hid ?_, ?_⟩
  · have := fdsOf_len (visF NB RW [] S.X (NA * NB) 0)
    rw [vis_len] at this
    omega
  · rw [← hk]
    exact ⟨e1, rfl⟩
  · have := fdsOf_len (visF NB RW [] (S1.eraseS a b c [] (k : Int)).X (NA * NB) 0)
    rw [vis_len] at this
    omega
  · rw [← hk, hve, h2]
  · intro l hl
    rw [h5, e2, h2]
    exact pg_erased hkA hl hX
/-- both without faults. -/
theorem both_nil (z a b c d e : Int) (A : Option Addr) (len cap : Nat) (es : List (List Value)) (w : World) (hlen : es.length = len) (hl60 : len ≤ 60) (hsl : SlE 8 w w.heap.size A es) (hfl : ∀ x ∈ es, Flat [some .i64, some .i64, some .u8, some .i64, some .i64, some .i64, some .i64, some .i64] x) :
    Calls Try.prog 7 #[.agg #[.int .i64 a, .int .i64 b, .int .i64 c, .int .i64 d, .int .i64 e], .slice none 0 0, .slice A len cap] w fun e' w' => ((e' = .returned (.tuple #[.pointer none, .pointer none, .bool true])) ∨ (∃ (m gx gb : Nat) (AF : Option Addr) (cf mR : Nat) (S : ChS), e' = .returned (.tuple #[.pointer (some ⟨m, 0, none⟩), .pointer (some ⟨mR, 0, none⟩), .bool true]) ∧ ChipW w' m gx gb AF 0 cf a b c d e [] S ∧ Good S (20 + 3 * (len : Int)) ∧ Liv S ∧ (∀ g, chB m gx gb g → w.heap.size < g) ∧ (1 ≤ a ∧ a ≤ 20) ∧ ∃ NA NB RW k S1 S2 S3 n1 n2 acc1 acc2, ESet a b c z NA NB RW k S S1 S2 S3 n1 n2 acc1 acc2)) ∧ Below w.heap.size w w' := by
  refine (both_any a b c d e none 0 [] A len cap es w (Nat.le_refl _) (Nat.zero_le _) (Or.inl rfl) (Nat.zero_le _) hlen hl60 hsl hfl).mono ?_
  rintro e' w' ⟨h, hb⟩
  refine ⟨?_, hb⟩
  rcases h with ⟨rfl, _⟩ | ⟨L, m, gx, gb, AF, cf, mR, gB, gN, gW, gD, AF2, cf2, S, rfl, h1, h2, h3, h4⟩
  · exact Or.inl rfl
  · exact Or.inr ⟨m, gx, gb, AF, cf, mR, S, rfl, h1.cl.chip, h2, h3, fun g hg => h4 g (Or.inl hg), eset h1.cl.chip h3 z⟩
end Go.Proofs.Ytcpniplfkillbaa
namespace Go.Proofs.Ytcpniplfkillbaa
open Go.ChangeShapes Go.WideShapes Go.ChangeAt Go.RowKit
set_option linter.unusedSimpArgs false
set_option linter.unusedVariables false

attribute [local go_sem ↓] Go.wp_at_zero Go.wp_at_succ
set_option maxRecDepth 100000 in
set_option maxHeartbeats 8000000 in
theorem erases_walk (a b c d e : Int) (A : Option Addr) (len cap : Nat) (es : List (List Value)) (z : Int) (w : World) (_ : i64in a ∧ i64in b ∧ i64in c ∧ i64in d ∧ i64in e) (hacts : len = es.length ∧ len ≤ cap ∧ cap ≤ maxLen ∧ SlE 8 w w.heap.size A es ∧ ∀ x ∈ es, Flat [some .i64, some .i64, some .u8, some .i64, some .i64, some .i64, some .i64, some .i64] x) (hz64 : i64in z) :
    Calls Try.prog 5 #[.agg #[.int .i64 a, .int .i64 b, .int .i64 c, .int .i64 d, .int .i64 e], .slice A len cap, .int .i64 z] w fun e' w' => e' = .returned (.bool true) ∧ Below w.heap.size w w' := by
  obtain ⟨hlen0, hlc, hcm, hsl, hfl⟩ := hacts
  have hlen := hlen0.symm
  clear hlen0
  have HB0 : Below w.heap.size w (w.alloc (.cells #[.int .i64 a, .int .i64 b, .int .i64 c, .int .i64 d, .int .i64 e] 23)) := (Below.refl _ _).alloc (Nat.le_refl _) _
  have G1 : Blk (w.alloc (.cells #[.int .i64 a, .int .i64 b, .int .i64 c, .int .i64 d, .int .i64 e] 23)) w.heap.size 23 #[.int .i64 a, .int .i64 b, .int .i64 c, .int .i64 d, .int .i64 e] := Blk.new_ _ _ _
  have hsl1 := hsl.next HB0
  by_cases h60 : len ≤ 60
  · have hi60 : ¬ ((60 : Int) < (len : Int)) := by omega
    have HLEN := Lib.hid hlen
    have HY := cells5 G1
    obtain ⟨y0, y1, y2, y3, y4⟩ := HY
    go_enter Try.func5, Try.ntmps5
    go_wp2_with (first
      | (go_at_call 7; go_loud (((with_reducible refine (both_nil z a b c d e A len cap es _ hlen h60 hsl1 hfl).mono ?_); rintro e' wN ⟨hcase, hbB⟩; have HBB := btr HB0 HB0.size hbB; replace G1 := G1.below hbB G1.lt; (try clear y0 y1 y2 y3 y4); obtain ⟨y0, y1, y2, y3, y4⟩ := cells5 G1; rcases hcase with rfl | ⟨m, gx, gb, AF, cf, mR, S, rfl, hC, hgd, hlv, hlo, ⟨ha1, ha2⟩, NA, NB, RW, k, S1, S2, S3, n1, n2, acc1, acc2, hE⟩)))
      | (go_at_call 6; go_loud (((with_reducible refine (awake9 _).mono ?_); rintro e' wN ⟨rfl, hbZ⟩; skip)))
      | (go_at_call 24; go_loud (((with_reducible refine (low_any z a _ ha1 (by omega)).mono ?_); rintro e' wN ⟨rfl, rfl⟩; skip)))
      | (go_at_call 16; go_loud (((with_reducible refine (scan_ok m gx gb AF 0 cf a b c d e [] NA NB (20 + 3 * (len : Int)) acc1 S S1 _ hC hgd (by omega) hlv.b8 hE.na hE.nb hE.w1 n1 hE.m1).mono ?_); rintro e' wN ⟨⟨A5, c5, rfl, hrF⟩, hC1, hT1, hgd1, -⟩; obtain ⟨A5b, c5b, hv5, hs5, -, -⟩ := hrF.sl; have hF5 : ∀ b o, A5 = some ⟨b, o, none⟩ → ¬ chB m gx gb b := fun b o q1 q2 => (by have h1 := own_atF hrF b (by rw [q1]; rfl); have h2 := hC.lt; rcases q2 with rfl | rfl | rfl <;> omega); rw [hE.m1.out] at hv5; cases hv5)))
      | (go_at_call 25; go_loud (((with_reducible refine (eraseL m gx gb AF 0 cf a b c d e [] (lowI z a) ((20 + 3 * (len : Int)) + 1000) _ S1 S2 hC1 hgd1 (by omega) hE.er).mono ?_); rintro e' wN ⟨rfl, hC2, hT2⟩; have hs6 := SlE.tchF hs5 hT2 (Nat.le_refl _) hF5; have hgd2 : Good S2 ((20 + 3 * (len : Int)) + 1003) := (by have h := (hgd1.erase hC1 (by omega) (lowI z a)).mono (show (20 + 3 * (len : Int)) + 1000 + 3 ≤ (20 + 3 * (len : Int)) + 1003 by omega); rw [hE.er.out.2] at h; exact h))))
      | (go_at_call 16; go_loud (((with_reducible refine (scan_ok m gx gb AF 0 cf a b c d e [] NA NB ((20 + 3 * (len : Int)) + 1003) acc2 S2 S3 _ hC2 hgd2 (by omega) hE.l2.b8 hE.na hE.nb hE.w2 n2 hE.m2).mono ?_); rintro e' wN ⟨⟨A6, c6, rfl, hrG⟩, hC3, hT3, hgd3, -⟩; have hs7 := SlE.tchF hs6 hT3 (Nat.le_refl _) hF5; obtain ⟨A6b, c6b, hv6, hs8, -, -⟩ := hrG.sl; have hF6 : ∀ b o, A6 = some ⟨b, o, none⟩ → ¬ chB m gx gb b := fun b o q1 q2 => (by have h1 := own_atF hrG b (by rw [q1]; rfl); have h2 := hC2.lt; rcases q2 with rfl | rfl | rfl <;> omega); rw [hE.m2.out] at hv6; cases hv6))))
    · go_ret
      exact ⟨rfl, btr HBB HBB.size hbZ⟩
    · have hsw : (w.alloc (.cells #[.int .i64 a, .int .i64 b, .int .i64 c, .int .i64 d, .int .i64 e] 23)).heap.size = w.heap.size + 1 := by simp
      have hnb : ¬ chB m gx gb w.heap.size := fun e => by have := hlo _ e; omega
      have hlow : ∀ g, chB m gx gb g → w.heap.size ≤ g := fun g e => by have := hlo _ e; omega
      have HBE := btrT (btrT (btrT HBB hT1 hlow) hT2 hlow) hT3 hlow
      have G2 := hT3.blk (hT2.blk (hT1.blk G1 hnb) hnb) hnb
      obtain ⟨wE, hwE⟩ : ∃ V : World, V = wN := ⟨_, rfl⟩
      rw [← hwE] at hC3 hs7 hs8 HBE G2 ⊢
      clear hwE y0 y1 y2 y3 y4 G1 hsl hsl1 hfl hT1 hT2 hT3 hC hC1 hC2 hs5 hs6 hrF hrG
      have HS7 := Lib.hid hs7
      have HS8 := Lib.hid hs8
      clear hs7 hs8
      go_loopw [14, 15] (fun s14 s15 wr => ∃ (j : Nat), j ≤ n1 ∧ s15 = .int .i64 (j : Int) ∧ RowFd wr wE.heap.size s14 (((fdsOf acc1).take j).filter (fun f : Fd => decide (f.b ≠ lowI z a))) ∧ Below wE.heap.size wE wr) (fun _ s15 _ => n1 - (iOf s15).toNat)
      case atStart => exact ⟨0, Nat.zero_le _, rfl, RowFd.nil_ _ _, Below.refl _ _⟩
      case round =>
        obtain ⟨j, hj, rfl, hR, hB⟩ := hrel
        have hsz := hB.size
        have hq1 := hE.q1
        by_cases hlt : j < n1
        · obtain ⟨b1, o1, rfl, l1, q1⟩ := (HS7.out.below hB).at_ (by rw [hE.m1.out]; omega)
          obtain ⟨x, hx⟩ : ∃ x, (fdsOf acc1)[j]? = some x := ⟨_, List.getElem?_eq_getElem (by rw [hE.m1.out]; exact hlt)⟩
          have hft := filt_take (fun f : Fd => decide (f.b ≠ lowI z a)) hx
          obtain ⟨x0, x1, x2, x3, x4, x5⟩ := q1 j x hx
          obtain ⟨xb, xg, xk, xp, xs, xe⟩ := x
          obtain ⟨Lq, hLq⟩ : ∃ l, ((fdsOf acc1).take j).filter (fun f : Fd => decide (f.b ≠ lowI z a)) = l := ⟨_, rfl⟩
          have hlq : Lq.length ≤ 1000000 := by
            have h1 : (((fdsOf acc1).take j).filter (fun f : Fd => decide (f.b ≠ lowI z a))).length ≤ ((fdsOf acc1).take j).length := List.length_filter_le _ _
            rw [hLq, List.length_take] at h1
            have := hE.q1
            omega
          rw [hLq] at hR hft
          obtain ⟨Aw, cw, rfl, -, hc2, hc3⟩ := hR.sl
          have j0 : (0 : Int) ≤ (j : Int) := by omega
          have j1 : (j : Int) < (n1 : Int) := by omega
          clear hx q1
          dsimp only at x0 x1 x2 x3 x4 x5 hft
          by_cases hb : xb = lowI z a
          · have hbq : (xb == lowI z a) = true := by simpa using hb
            rw [if_neg (by simpa using hb), List.append_nil] at hft
            clear hb
            go_wp2_with fail
            go_roundw
            case rel => exact ⟨j + 1, by omega, by go_num, by rw [hft]; exact hR, hB⟩
            case measure => simp [iOf]; omega
          · have hbq : (xb == lowI z a) = false := by simpa using hb
            rw [if_pos (by simpa using hb)] at hft
            clear hb
            have hBn : Below wE.heap.size wE (wr.alloc (.cells #[.int .i64 xb, .int .i64 xg, .int .i64 xk, .int .i64 xp, .int .i64 xs, .int .i64 xe] 65)) := hB.alloc hB.size _
            have hon : RowFd (wr.alloc (.cells #[.int .i64 xb, .int .i64 xg, .int .i64 xk, .int .i64 xp, .int .i64 xs, .int .i64 xe] 65)) wE.heap.size (.slice Aw Lq.length cw) Lq := hR.below ((Below.refl _ _).alloc (Nat.le_refl _) _)
            go_wp2_with (at_builtin; go_loud (obtain ⟨ti0, hi, hz0, hz1, hz2⟩ := info_parts infoFdS; refine wpList_app _ rfl (.tmp 72) (.tmp 77) _ rfl wE.heap.size 65 ti0 _ 6 48 Try.underlying51 hi hz0 hz1 hz2 rfl (by decide) (.slice Aw Lq.length cw) Lq.length (Lq.flatMap fCs) rfl hon _ 1 1 (fCs (⟨xb, xg, xk, xp, xs, xe⟩ : Fd)) rfl (rd_newF _ _ _ _ _ _ _ (by simp)) (flat_one1 _) (by unfold maxLen; omega) (by omega) (by simp; omega) ?_; intro v2 w2 ho2 hg2 hv2; clear hi hz0 hz1 hz2))
            go_roundw
            case rel => exact ⟨j + 1, by omega, by go_num, by rw [hft]; exact RowFd.snoc ho2, hBn.grown hg2 (by simp; omega) (fun g hg => own_atF hR g hg)⟩
            case measure => simp [iOf]; omega
        · obtain rfl : j = n1 := by omega
          have hrW := hR
          rw [List.take_of_length_le (by rw [hE.m1.out]; exact Nat.le_refl _), ← hE.fd.out] at hrW
          obtain ⟨Aw, cw, hvw, hsW, -, -⟩ := hrW.sl
          have hFw : ∀ b o, Aw = some ⟨b, o, none⟩ → ¬ chB m gx gb b := fun b o q1 q2 => by
            have h1 := own_atF hrW b (by rw [hvw, q1]; rfl)
            have h2 := hC3.lt
            rcases q2 with rfl | rfl | rfl <;> omega
          rw [hE.m2.out] at hvw
          subst hvw
          have hsL := HS8.out.next hB
          have hCR := hC3.below hB
          have G3 := G2.below hB G2.lt
          have HBR := btr HBE HBE.size hB
          obtain ⟨wL, hwL⟩ : ∃ V : World, V = wr := ⟨_, rfl⟩
          rw [← hwL] at hCR G3 hsL hsW HBR ⊢
          clear hwL hR hrW
          have HSL := Lib.hid hsL
          have HSW := Lib.hid hsW
          clear hsL hsW
          have hjn : ¬ ((j : Int) < (j : Int)) := by omega
          go_wp2_with fail
          go_loopw [16] (fun s16 wr => ∃ (l : Nat) (SL : ChS), l ≤ NB ∧ s16 = .int .i64 (l : Int) ∧ ChipW wr m gx gb AF 0 cf a b c d e [] SL ∧ Hid (Good SL ((20 + 3 * (len : Int)) + 2003 + 3 * (l : Int)) ∧ Liv SL ∧ SL.X = S3.X) ∧ Tch (chB m gx gb) wL wr) (fun s16 _ => NB - (iOf s16).toNat)
          case atStart => exact ⟨0, S3, Nat.zero_le _, rfl, hCR, Lib.hid ⟨hgd3.mono (by omega), hE.l3, rfl⟩, Tch.refl _⟩
          case round =>
            obtain ⟨l, SL, hl0, rfl, hCL, HK, HT⟩ := hrel
            have G4 := HT.blk G3 hnb
            obtain ⟨y0, y1, y2, y3, y4⟩ := cells5 G4
            have hnB := hE.nb
            have hb2 := hE.b2
            by_cases hl : l < NB
            · have l1 : (l : Int) < b := by omega
              have hpg : pg SL.X RW (k * NB + l) = List.replicate RW 255 := by rw [HK.out.2.2]; exact hE.pg l hl
              clear hnB
              go_wp2_with (go_at_call 8; go_loud (((with_reducible refine (state_erased m gx gb AF 0 cf a b c d e [] NA NB RW k l ((20 + 3 * (len : Int)) + 2003 + 3 * (l : Int)) _ SL hCL HK.out.1 (by omega) HK.out.2.1 hE.na hE.nb hE.rw hE.r1 hE.r2 hE.k1 hl hpg (lowI z a) hE.kz).mono ?_); rintro e' wN ⟨rfl, SM, hCM, hTM, hgM, hLM, hXM⟩; skip)))
              go_roundw
              case rel => exact ⟨l + 1, SM, by omega, by go_num, hCM, Lib.hid ⟨hgM.mono (by omega), hLM, hXM.trans HK.out.2.2⟩, HT.trans hTM⟩
              case measure => simp [iOf]; omega
            · have l1 : ¬ ((l : Int) < b) := by omega
              have hsA := SlE.tchF HSL.out HT (Nat.le_refl _) hF6
              have hsB := SlE.tchF HSW.out HT (Nat.le_refl _) hFw
              have HBF := btrT HBR HT hlow
              clear hnB
              go_wp2_with (first | (go_at_call 20; go_loud (((with_reducible refine (same_yes (fdsOf acc2) A6 Aw n2 c6 cw _ hE.m2.out hE.q2 hsA hsB).mono ?_); rintro e' wN ⟨rfl, hbS⟩; have HBS := btr HBF HBF.size hbS))) | (go_at_call 6; go_loud (((with_reducible refine (awake9 _).mono ?_); rintro e' wN ⟨rfl, hbZ⟩; skip))))
              go_ret
              exact ⟨rfl, btr HBS HBS.size hbZ⟩
  · have hi60 : (60 : Int) < (len : Int) := by omega
    go_enter Try.func5, Try.ntmps5
    go_wp2_with (go_at_call 6; go_loud (((with_reducible refine (awake9 _).mono ?_); rintro e' wN ⟨rfl, hbZ⟩; skip)))
    go_ret
    exact ⟨rfl, btr HB0 HB0.size hbZ⟩
end Go.Proofs.Ytcpniplfkillbaa
namespace Go.Proofs.Ytcpniplfkillbaa
open Go.ChangeShapes Go.WideShapes Go.ChangeAt Go.RowKit Go.Deep
section
variable {H : Type} {enc : TypeId × Value → H} {P : Program} {w : World} {base : Nat} {spare : Nat → Bool} {held : Bool}

end
end Go.Proofs.Ytcpniplfkillbaa
