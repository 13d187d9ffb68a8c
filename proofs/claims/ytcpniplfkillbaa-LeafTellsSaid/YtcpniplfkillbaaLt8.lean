/- What a look over a chip that lives tells. -/
import Derived.Test.YtcpniplfkillbaaLt7
import Derived.Test.YtcpniplfkillbaaLt3
import Derived.Test.YtcpniplfkillbaaLt6
import Derived.Test.YtcpniplfkillbaaLt2
import Derived.Test.YtcpniplfkillbaaLt1
import Derived.Deep.Slices
set_option linter.unusedSimpArgs false
set_option linter.unusedVariables false
set_option maxRecDepth 100000
set_option maxHeartbeats 16000000
namespace Go.Proofs.Ytcpniplfkillbaa
open Go.ChangeShapes Go.WideShapes Go.ChangeAt Go.RowKit
def pg (X : List Nat) (RW i : Nat) : List Nat := (X.drop (i * RW)).take RW
def visF (NB RW : Nat) (fs : List Flt) (X : List Nat) : Nat → Nat → List Vis
  | 0, _ => []
  | r + 1, i => (if badB fs ((i / NB : Nat) : Int) = true then [] else [(i / NB, i % NB, pg X RW i)]) ++ visF NB RW fs X r (i + 1)
theorem live_read {a b c : Int} {NA NB RW i : Nat} {s : ChS} (h : Liv s) (hA : (NA : Int) = a) (hB : (NB : Int) = b) (hR : (RW : Int) = c + 16) (h0 : 0 < NB) (hi : i < NA * NB) : s.readZ a b ((i / NB : Nat) : Int) ((i % NB : Nat) : Int) = 0 ∧ s.readB a b c ((i / NB : Nat) : Int) ((i % NB : Nat) : Int) = pg s.X RW i := by
  have ht := there_in hA hB h0 hi
  obtain ⟨h1, h2, h3⟩ := divmod h0 hi
  have e1 : (((i / NB : Nat) : Int) * b + ((i % NB : Nat) : Int)).toNat = i := by rw [← hB, ← Int.natCast_mul]; omega
  have e2 : (c + 16).toNat = RW := by omega
  unfold ChS.readZ ChS.readB
  rw [h.on, ht, h.cut]
  refine ⟨by simp, ?_⟩
  simp only [Bool.not_false, Bool.and_true, Bool.and_self, if_true, reduceIte]
  unfold ChS.pageOf pg
  rw [e1, e2]
theorem walkF_liv {a b c : Int} {NA NB RW : Nat} {fs : List Flt} (hA : (NA : Int) = a) (hB : (NB : Int) = b) (hR : (RW : Int) = c + 16) (h0 : 0 < NB) : ∀ (r i : Nat) (s : ChS) (acc : List Vis), i + r ≤ NA * NB → Liv s → ∃ S1, walkF a b c NB fs r i s acc = (0, acc ++ visF NB RW fs s.X r i, S1) ∧ S1.X = s.X ∧ Liv S1
  | 0, i, s, acc, _, h => ⟨s, by simp [walkF, visF], rfl, h⟩
  | r + 1, i, s, acc, hi, h => by
    cases hb : badB fs ((i / NB : Nat) : Int) with
    | true =>
      rw [walkF_bad hb]
      obtain ⟨S1, h1, h2, h3⟩ := walkF_liv hA hB hR h0 r (i + 1) s acc (by omega) h
      refine ⟨S1, ?_, h2, h3⟩
      rw [h1, visF, if_pos hb, List.nil_append]
    | false =>
      obtain ⟨z1, z2⟩ := live_read (c := c) h hA hB hR h0 (show i < NA * NB by omega)
      rw [walkF_ok hb z1 rfl z2]
      obtain ⟨S1, h1, h2, h3⟩ := walkF_liv hA hB hR h0 r (i + 1) (s.readS a b ((i / NB : Nat) : Int) ((i % NB : Nat) : Int)) (acc ++ [(i / NB, i % NB, pg s.X RW i)]) (by omega) (h.read a b _ _)
      rw [readS_X] at h1 h2
      refine ⟨S1, ?_, h2, h3⟩
      rw [h1, visF, if_neg (by rw [hb]; simp), List.append_assoc]
theorem badB_nil (B : Int) : badB [] B = false := rfl
theorem visF_nil {NB RW : Nat} {X : List Nat} {r i : Nat} : visF NB RW [] X (r + 1) i = (i / NB, i % NB, pg X RW i) :: visF NB RW [] X r (i + 1) := by
  rw [visF, if_neg (by rw [badB_nil]; simp)]
  rfl
theorem visF_add {NB RW : Nat} {X : List Nat} : ∀ (r1 r2 i : Nat), visF NB RW [] X (r1 + r2) i = visF NB RW [] X r1 i ++ visF NB RW [] X r2 (i + r1)
  | 0, r2, i => by simp [visF]
  | r1 + 1, r2, i => by
    rw [show r1 + 1 + r2 = (r1 + r2) + 1 by omega, visF_nil, visF_nil, visF_add r1 r2 (i + 1), show i + 1 + r1 = i + (r1 + 1) by omega]
    rfl
theorem fds_cons (v : Vis) (l : List Vis) : fdsOf (v :: l) = fdOf v ++ fdsOf l := rfl
theorem fds_app (l l' : List Vis) : fdsOf (l ++ l') = fdsOf l ++ fdsOf l' := by simp [fdsOf]
theorem cnt_app (p : Nat → Bool) (l l' : List Vis) : cnt p (l ++ l') = cnt p l + cnt p l' := by simp [cnt]
theorem cnt_cons (p : Nat → Bool) (v : Vis) (l : List Vis) : cnt p (v :: l) = (if p (readSt v.2.2) = true then 1 else 0) + cnt p l := by
  unfold cnt
  rw [List.filter_cons]
  split <;> simp <;> omega
theorem vis_blank {NB RW : Nat} {X : List Nat} : ∀ (r i : Nat), (∀ t, i ≤ t → t < i + r → readSt (pg X RW t) = 0) → fdsOf (visF NB RW [] X r i) = [] ∧ cnt (fun s => s == 0) (visF NB RW [] X r i) = r ∧ cnt (fun s => s == 1) (visF NB RW [] X r i) = 0 ∧ cnt (fun s => !(s == 0 || s == 1)) (visF NB RW [] X r i) = 0
  | 0, i, _ => ⟨rfl, rfl, rfl, rfl⟩
  | r + 1, i, h => by
    obtain ⟨h1, h2, h3, h4⟩ := vis_blank (NB := NB) r (i + 1) (fun t ht1 ht2 => h t (by omega) (by omega))
    have hz := h i (Nat.le_refl _) (by omega)
    rw [visF_nil, fds_cons, cnt_cons, cnt_cons, cnt_cons, h1, h2, h3, h4]
    dsimp only
    rw [hz]
    refine ⟨?_, ?_, by simp, by simp⟩
    · unfold fdOf
      rw [if_neg (by dsimp only; rw [hz]; omega)]
      rfl
    · simp
      omega
theorem pg_get {X : List Nat} {RW i q : Nat} (hq : q < RW) : (pg X RW i)[q]? = X[i * RW + q]? := by
  unfold pg
  rw [List.getElem?_take_of_lt hq, List.getElem?_drop]
theorem pg_ext {X Y : List Nat} {RW i : Nat} (h : ∀ q, q < RW → X[i * RW + q]? = Y[i * RW + q]?) : pg X RW i = pg Y RW i := by
  apply List.ext_getElem?
  intro q
  by_cases hq : q < RW
  · rw [pg_get hq, pg_get hq]
    exact h q hq
  · rw [List.getElem?_eq_none (by unfold pg; rw [List.length_take]; omega), List.getElem?_eq_none (by unfold pg; rw [List.length_take]; omega)]
theorem pg_far {X vs : List Nat} {RW i F : Nat} (h : F + vs.length ≤ X.length) (hf : i * RW + RW ≤ F ∨ F + vs.length ≤ i * RW) : pg (putX X F vs) RW i = pg X RW i :=
  pg_ext fun q hq => by
    rw [putX_get h]
    rcases hf with hf | hf
    · rw [if_pos (by omega)]
    · rw [if_neg (by omega), if_neg (by omega)]
theorem pg_at {X vs : List Nat} {RW i : Nat} (h : i * RW + vs.length ≤ X.length) (hl : vs.length = RW) : pg (putX X (i * RW) vs) RW i = vs := by
  apply List.ext_getElem?
  intro q
  by_cases hq : q < RW
  · rw [pg_get hq, putX_get h, if_neg (by omega), if_pos (by omega)]
    congr 1
    omega
  · rw [List.getElem?_eq_none (by unfold pg; rw [List.length_take]; omega), List.getElem?_eq_none (by omega)]
theorem pg_rep {n RW i f : Nat} (h : i * RW + RW ≤ n) : pg (List.replicate n f) RW i = List.replicate RW f := by
  unfold pg
  rw [List.drop_replicate, List.take_replicate, Nat.min_eq_left (by omega)]
theorem st_blank {RW : Nat} (h1 : 40 ≤ RW) (h2 : RW ≤ 80) : readSt (List.replicate RW 255) = 0 := by
  unfold readSt
  rw [List.length_replicate, if_pos ⟨h1, h2⟩, if_pos]
  unfold blankB
  rw [List.all_eq_true]
  intro x hx
  rw [List.eq_of_mem_replicate hx]
  rfl
end Go.Proofs.Ytcpniplfkillbaa
namespace Go.Proofs.Ytcpniplfkillbaa
open Go.ChangeShapes Go.WideShapes Go.ChangeAt Go.RowKit
attribute [local go_sem ↓] Go.wp_at_zero Go.wp_at_succ
theorem small9 (w : World) : Calls Try.prog 27 #[] w fun e' w' => e' = .returned (.agg #[.int .i64 8, .int .i64 4, .int .i64 32, .int .i64 0, .int .i64 2]) ∧ Below w.heap.size w w' := by
  go_enter Try.func27, Try.ntmps27
  go_wp2
  refine bodyPost_ret (v := .agg #[.int .i64 8, .int .i64 4, .int .i64 32, .int .i64 0, .int .i64 2]) (by simp [results, Try.results27, go_sem]) rfl ⟨rfl, ?_⟩
  exact (Below.refl _ _).alloc (Nat.le_refl _) _
theorem one9 (w : World) : Calls Try.prog 29 #[] w fun e' w' => e' = .returned (.agg #[.int .i64 1, .int .i64 3, .int .i64 5, .int .i64 2]) ∧ Below w.heap.size w w' := by
  go_enter Try.func29, Try.ntmps29
  go_wp2
  refine bodyPost_ret (v := .agg #[.int .i64 1, .int .i64 3, .int .i64 5, .int .i64 2]) (by simp [results, Try.results29, go_sem]) rfl ⟨rfl, ?_⟩
  exact (Below.refl _ _).alloc (Nat.le_refl _) _
def rawA : List Nat := rawB (List.replicate 32 0) 1 3 5 2
theorem layA : LayOk (List.replicate 32 0) 1 3 5 2 := ⟨by simp, by simp, by omega, by omega, by omega, by omega, by omega, by omega, fun x hx => by have := List.eq_of_mem_replicate hx; omega⟩
theorem rawA_len : rawA.length = 48 := by unfold rawA; rw [rawB_len, List.length_replicate]
theorem rawA_8 : Bytes8 rawA := rawB_8 layA.2.2.2.2.2.2.2.2 (by omega)
theorem rawA_st : readSt rawA = 1 := raw_valid layA
theorem rawA_tag : lkT rawA = (1, 3, 5, 2) := by
  have h := raw_drop (List.replicate 32 0) 1 3 5 2
  rw [List.length_replicate] at h
  unfold lkT
  rw [if_pos rawA_st, rawA_len, show 48 - 16 = 32 from rfl]
  unfold rawA
  rw [h, tail_tK, tail_tP (by omega), tail_tS (by omega), tail_tE (by omega)]
theorem lay9 (A : Option Addr) (c : Nat) (w : World) (h : Sl w w.heap.size A ((List.replicate 32 0).map byteV)) : Calls Try.prog 28 #[.slice A 32 c, .agg #[.int .i64 1, .int .i64 3, .int .i64 5, .int .i64 2]] w fun e' w' => (∃ g cA, e' = .returned (.tuple #[.slice (some ⟨g, 0, none⟩) 48 cA, .int .i64 0]) ∧ RowT w' g 5 (rawA.map byteV) ∧ w.heap.size < g ∧ 48 ≤ cA ∧ cA ≤ maxLen) ∧ Below w.heap.size w w' := by
  have h9 := rlay_yes (List.replicate 32 0) A c 1 3 5 2 w h layA
  rw [List.length_replicate] at h9
  refine h9.mono ?_
  rintro e' w' ⟨sv, rfl, ho, hb⟩
  obtain ⟨g, cA, rfl, h1, h2, h3, h4⟩ := own_cut ho (by omega)
  exact ⟨⟨g, cA, rfl, h1, h2, h3, h4⟩, hb⟩
def sA : ChS := (ChS.new 1536 8).progS 8 4 32 [] 2 0 rawA
theorem new_k (N B : Nat) (x : Int) (j : Nat) : (ChS.new N B).k x j = 0 := by
  unfold ChS.k ChS.new
  rw [List.getD_eq_getElem?_getD, List.getElem?_replicate]
  split <;> rfl
theorem wrongA : (ChS.new 1536 8).wrong 8 [] 2 0 = 0 := by
  unfold ChS.wrong failedB
  rw [new_k, new_k]
  rfl
theorem progA : (ChS.new 1536 8).progZ 8 4 32 [] 2 0 48 = 0 := by
  unfold ChS.progZ
  rw [show (2 : Int).toNat = 2 from rfl, show (0 : Int).toNat = 0 from rfl, wrongA]
  rfl
theorem sA_X : sA.X = putX (List.replicate 1536 255) 384 rawA := by
  unfold sA ChS.progS
  rw [show (2 : Int).toNat = 2 from rfl, show (0 : Int).toNat = 0 from rfl, wrongA, rawA_len]
  rfl
theorem sA_liv : Liv sA := (Liv.new 1536 8).prog 8 4 32 [] 2 0 rawA_8
theorem visA : fdsOf (visF 4 48 [] sA.X 32 0) = [⟨2, 0, 1, 3, 5, 2⟩] ∧ cnt (fun s => s == 0) (visF 4 48 [] sA.X 32 0) = 31 ∧ cnt (fun s => s == 1) (visF 4 48 [] sA.X 32 0) = 1 ∧ cnt (fun s => !(s == 0 || s == 1)) (visF 4 48 [] sA.X 32 0) = 0 := by
  have hl := rawA_len
  have hfar : ∀ t, t < 32 → t ≠ 8 → readSt (pg sA.X 48 t) = 0 := fun t h1 h2 => by
    rw [sA_X, pg_far (by rw [hl, List.length_replicate]; omega) (by rw [hl]; omega), pg_rep (by omega)]
    exact st_blank (by omega) (by omega)
  have h8 : pg sA.X 48 8 = rawA := by
    rw [sA_X]
    exact pg_at (X := List.replicate 1536 255) (RW := 48) (i := 8) (by rw [hl, List.length_replicate]; omega) hl
  obtain ⟨a1, a2, a3, a4⟩ := vis_blank (NB := 4) (RW := 48) (X := sA.X) 8 0 (fun t _ h2 => hfar t (by omega) (by omega))
  obtain ⟨b1, b2, b3, b4⟩ := vis_blank (NB := 4) (RW := 48) (X := sA.X) 23 9 (fun t h1 h2 => hfar t (by omega) (by omega))
  have hv1 : visF 4 48 [] sA.X 1 (0 + 8) = [(8 / 4, 8 % 4, rawA)] := by
    have := visF_nil (NB := 4) (RW := 48) (X := sA.X) (r := 0) (i := 8)
    rw [h8] at this
    exact this
  rw [show (32 : Nat) = 8 + (1 + 23) from rfl, visF_add, visF_add, hv1]
  simp only [fds_app, cnt_app, fds_cons, cnt_cons, a1, a2, a3, a4, b1, b2, b3, b4, Nat.zero_add, Nat.reduceAdd]
  have hf : fdOf (8 / 4, 8 % 4, rawA) = [⟨2, 0, 1, 3, 5, 2⟩] := by
    unfold fdOf
    dsimp only
    rw [if_pos rawA_st, rawA_tag]
    rfl
  rw [hf, rawA_st]
  refine ⟨rfl, rfl, rfl, rfl⟩
theorem walkA : ∃ S1, walkF 8 4 32 4 [] (8 * 4) 0 sA [] = (0, visF 4 48 [] sA.X 32 0, S1) ∧ S1.X = sA.X ∧ Liv S1 := by
  obtain ⟨S1, h1, h2, h3⟩ := walkF_liv (a := 8) (b := 4) (c := 32) (NA := 8) (NB := 4) (RW := 48) (fs := []) rfl rfl rfl (by omega) 32 0 sA [] (by omega) sA_liv
  rw [List.nil_append] at h1
  exact ⟨S1, h1, h2, h3⟩
end Go.Proofs.Ytcpniplfkillbaa
namespace Go.Proofs.Ytcpniplfkillbaa
open Go.ChangeShapes Go.WideShapes Go.ChangeAt Go.RowKit
attribute [local go_sem ↓] Go.wp_at_zero Go.wp_at_succ
theorem rread_okC (m gB gN gW gD L : Nat) (Af : Option Addr) (nf cf : Nat) (a b c d e : Int) (fs : List Flt) (k l N RW : Nat) (n : Int) (w : World) (s : ChS) (hC : RefW w m gB gN gW gD L Af nf cf a b c d e fs s) (hbn : s.Bnd n) (hn : n ≤ 1000000000) (hwt : s.Wt) (ho : s.on = true) (hcu : Hid (s.cutB = false)) (hk : (k : Int) < a) (hl : (l : Int) < b) (hnum : Hid (numberI a b (k : Int) (l : Int) = (N : Int))) (hrw : (RW : Int) = c + 16) (hfit0 : N * RW + RW ≤ s.X.length) (r1 : 40 ≤ RW) (r2 : RW ≤ 80) (hN2 : N < 200) (hNab : (N : Int) < a * b) : Calls Try.prog 35 #[.pointer (some ⟨m, 0, none⟩), .agg #[.int .i64 (k : Int), .int .i64 (l : Int)]] w fun e' w' => (∃ g' c', e' = .returned (.tuple #[.slice (some ⟨g', 0, none⟩) RW c', .int .i64 0]) ∧ RowT w' g' 5 ((s.pageOf N RW).map byteV) ∧ w.heap.size ≤ g' ∧ RW ≤ c' ∧ c' ≤ maxLen) ∧ RefW w' m gB gN gW gD L Af nf cf a b c d e fs s.tick ∧ Tch (fun g => g = m) w w' := by
  have ht : Hid (thereB a b (k : Int) (l : Int) = true) := Lib.hid (by unfold thereB withinB; simp; omega)
  have hfit : N * RW + RW ≤ s.tick.X.length := by rw [tick_X]; exact hfit0
  have hpo : s.tick.pageOf N RW = s.pageOf N RW := by unfold ChS.pageOf; rw [tick_X]
  have HPO := Lib.hid hpo
  have HRW := Lib.hid hrw
  have HNAB := Lib.hid hNab
  have HFIT := Lib.hid hfit
  clear hpo hrw hfit0 hNab hfit hk hl
  have HM := Lib.hid (planMay_bd hC.may).1
  have hmw := hC.lt
  have HB0 : Below w.heap.size w (w.alloc (.cells #[.int .i64 (k : Int), .int .i64 (l : Int)] 27)) := (Below.refl _ _).alloc (Nat.le_refl _) _
  have G1 : Blk (w.alloc (.cells #[.int .i64 (k : Int), .int .i64 (l : Int)] 27)) w.heap.size 27 #[.int .i64 (k : Int), .int .i64 (l : Int)] := Blk.new_ _ _ _
  have z0 : (w.alloc (.cells #[.int .i64 (k : Int), .int .i64 (l : Int)] 27)).cell? ⟨w.heap.size, 0, none⟩ = some (.int .i64 (k : Int)) := G1.cell_ 0
  have z1 : (w.alloc (.cells #[.int .i64 (k : Int), .int .i64 (l : Int)] 27)).cell? ⟨w.heap.size, 1, none⟩ = some (.int .i64 (l : Int)) := G1.cell_ 1
  have hC := hC.below HB0
  obtain ⟨NP, NB, RWc, cB, HCC⟩ := hC.cells
  have y0 := HCC.y0; have y1 := HCC.y1; have y2 := HCC.y2; have y3 := HCC.y3; have y4 := HCC.y4; have y12 := HCC.y12
  have hnm : ¬ w.heap.size = m := by omega
  rw [show (!s.on) = false by rw [ho]; rfl] at y12
  clear ho
  go_enter Try.func35, Try.ntmps35
  go_upto_region 3 with fail
  refine wp_region_noPanic ?_
  refine wp_region_held_drew (S := (fun w' => w'.cell? ⟨m, 0, none⟩ = some (.int .i64 a) ∧ w'.cell? ⟨m, 1, none⟩ = some (.int .i64 b) ∧ w'.cell? ⟨m, 2, none⟩ = some (.int .i64 c) ∧ w'.cell? ⟨m, 3, none⟩ = some (.int .i64 d) ∧ w'.cell? ⟨m, 4, none⟩ = some (.int .i64 e) ∧ w'.cell? ⟨w.heap.size, 0, none⟩ = some (.int .i64 (k : Int)) ∧ w'.cell? ⟨w.heap.size, 1, none⟩ = some (.int .i64 (l : Int)))) (by kernel_rfl) ?_ (fun hHeld => ?_)
  · (first | exact ⟨y0, y1, y2, y3, y4, z0, z1⟩ | assumption)
  refine tk 0 ⟨some 12, .move (.tmp 0), 30, "ref.go:66", #[], none⟩ ?_; try simp only [Act.put, pz1, pz2, pz3]
  refine tk 1 ⟨some 13, .nilCheck (.tmp 12), 0, "ref.go:66", #[⟨0, .data⟩], none⟩ ?_; try simp only [Act.put, pz1, pz2, pz3]
  refine tk 2 ⟨some 14, .fieldAddr 94 (.tmp 13) 0, 0, "ref.go:66", #[⟨1, .data⟩], none⟩ ?_; try simp only [Act.put, pz1, pz2, pz3]
  refine tk 3 ⟨some 15, .load 23 (.tmp 14), 23, "ref.go:66", #[⟨2, .data⟩], none⟩ ?_; try simp only [Act.put, pz1, pz2, pz3]
  refine tk 4 ⟨some 16, .load 27 (.tmp 3), 27, "ref.go:66", #[], none⟩ ?_; try simp only [Act.put, pz1, pz2, pz3]
  refine wpAnyH_ready (rs := [5]) (by kernel_rfl) (by simp) ?_
  refine AllReadyH.cons (o := ⟨some 17, .call { callee := .value (.func 43), args := #[.tmp 15, .tmp 16], argTypes := #[23, 27] }, 4, "ref.go:66", #[⟨3, .data⟩, ⟨4, .data⟩], none⟩) rfl (fun K hK => ?_) AllReadyH.nil
  go_simp
  (go_at_call 43; go_loud (((with_reducible refine (rthr_b _ _ _ _ _ (k : Int) (l : Int) _ _ HM ht).mono ?_); rintro e' wN ⟨rfl, hb⟩; (try have hb := undrew hb); replace hC := RefW.likeB hC hb; replace HB0 := btr HB0 HB0.size hb; replace G1 := G1.below hb G1.lt; replace HCC := RefC.below HCC hb; clear z0 z1; clear y0 y1 y2 y3 y4 y12; have z0 := G1.cell_ 0; have z1 := G1.cell_ 1; simp at z0 z1; have y0 := HCC.y0; have y1 := HCC.y1; have y2 := HCC.y2; have y3 := HCC.y3; have y4 := HCC.y4; have y12 := HCC.y12)))
  go_wp2_with fail
  refine hK.out _ _ ?_ (fun hNew => ?_)
  · (first | exact ⟨y0, y1, y2, y3, y4, z0, z1⟩ | assumption)
  clear hK K hHeld
  have hHeld := hNew
  clear hNew
  try simp only [Act.put, pz1, pz2, pz3]
  refine tk 6 ⟨some 18, .unOp .not 4 (.tmp 17), 4, "ref.go:66", #[⟨5, .data⟩], none⟩ ?_; try simp only [Act.put, pz1, pz2, pz3]
  refine tk 7 ⟨some 11, .assign (.tmp 18), 4, "ref.go:66", #[⟨6, .data⟩, ⟨5, .chain⟩], none⟩ ?_; try simp only [Act.put, pz1, pz2, pz3]
  refine wpAnyH_done (by kernel_rfl) ?_ _
  refine NoPanic.normal ?_
  go_upto_region 7 with (go_at_call 61; go_loud (((with_reducible refine (rturn_b _ _ _ _ _ _ _ _ _ _ _ _ _ _ _ _ _ _ _ hC hbn hn hwt hcu).mono ?_); rintro e' wN ⟨rfl, hC2, hT⟩; have HT := (Tch.of_below (S := fun g => g = m) HB0).trans (Tch.like0 hT); have hlt0 := hT.far w.heap.size G1.lt hnm; replace G1 : Blk wN w.heap.size _ _ := hlt0.trans G1; clear hlt0 hC HCC; have hC := hC2; clear hC2 z0 z1; clear y0 y1 y2 y3 y4 y12; have z0 := G1.cell_ 0; have z1 := G1.cell_ 1; simp at z0 z1)))
  obtain ⟨NP, NB, RWc, cB, HCC⟩ := hC.cells
  obtain ⟨p, cp, HP⟩ := hC.page HRW.out HNAB.out HFIT.out
  have y0 := HCC.y0; have y1 := HCC.y1; have y2 := HCC.y2; have y3 := HCC.y3; have y4 := HCC.y4; have y6 := HCC.y6
  have cN := HP.cN
  have i0 : (0 : Int) ≤ (N : Int) := by omega
  have i1 : (N : Int) < (NP : Int) := by have := HCC.hNP.out; have := HNAB.out; omega
  have hsz0 : w.heap.size ≤ wN.heap.size := HT.size
  refine wp_region_noPanic ?_
  refine wp_region_held_drew (S := (fun w' => w'.cell? ⟨m, 0, none⟩ = some (.int .i64 a) ∧ w'.cell? ⟨m, 1, none⟩ = some (.int .i64 b) ∧ w'.cell? ⟨m, 2, none⟩ = some (.int .i64 c) ∧ w'.cell? ⟨m, 3, none⟩ = some (.int .i64 d) ∧ w'.cell? ⟨m, 4, none⟩ = some (.int .i64 e) ∧ w'.cell? ⟨m, 6, none⟩ = some (.slice (some ⟨gB, 0, none⟩) NP cB) ∧ w'.cell? ⟨w.heap.size, 0, none⟩ = some (.int .i64 (k : Int)) ∧ w'.cell? ⟨w.heap.size, 1, none⟩ = some (.int .i64 (l : Int)) ∧ w'.cell? ⟨gB, N, none⟩ = some (.slice (some ⟨p, 0, none⟩) RW cp))) (by kernel_rfl) ?_ (fun hHeld => ?_)
  · (first | exact ⟨y0, y1, y2, y3, y4, y6, z0, z1, cN⟩ | assumption)
  refine tk 0 ⟨some 22, .move (.tmp 0), 30, "ref.go:71", #[], none⟩ ?_; try simp only [Act.put, pz1, pz2, pz3]
  refine tk 1 ⟨some 23, .nilCheck (.tmp 22), 0, "ref.go:71", #[⟨0, .data⟩], none⟩ ?_; try simp only [Act.put, pz1, pz2, pz3]
  refine tk 2 ⟨some 24, .fieldAddr 94 (.tmp 23) 2, 0, "ref.go:71", #[⟨1, .data⟩], none⟩ ?_; try simp only [Act.put, pz1, pz2, pz3]
  refine tk 3 ⟨some 25, .load 91 (.tmp 24), 91, "ref.go:71", #[⟨2, .data⟩], none⟩ ?_; try simp only [Act.put, pz1, pz2, pz3]
  refine tk 4 ⟨some 26, .move (.tmp 0), 30, "ref.go:71", #[], none⟩ ?_; try simp only [Act.put, pz1, pz2, pz3]
  refine tk 5 ⟨some 27, .nilCheck (.tmp 26), 0, "ref.go:71", #[⟨4, .data⟩], none⟩ ?_; try simp only [Act.put, pz1, pz2, pz3]
  refine tk 6 ⟨some 28, .fieldAddr 94 (.tmp 27) 0, 0, "ref.go:71", #[⟨5, .data⟩], none⟩ ?_; try simp only [Act.put, pz1, pz2, pz3]
  refine tk 7 ⟨some 29, .load 23 (.tmp 28), 23, "ref.go:71", #[⟨6, .data⟩], none⟩ ?_; try simp only [Act.put, pz1, pz2, pz3]
  refine tk 8 ⟨some 30, .load 27 (.tmp 3), 27, "ref.go:71", #[], none⟩ ?_; try simp only [Act.put, pz1, pz2, pz3]
  refine wpAnyH_ready (rs := [9]) (by kernel_rfl) (by simp) ?_
  refine AllReadyH.cons (o := ⟨some 31, .call { callee := .value (.func 23), args := #[.tmp 29, .tmp 30], argTypes := #[23, 27] }, 3, "ref.go:71", #[⟨7, .data⟩, ⟨8, .data⟩], none⟩) rfl (fun K hK => ?_) AllReadyH.nil
  go_simp
  (go_at_call 23; go_loud (((with_reducible refine (rnum_c _ _ _ _ _ _ _ N _ HM hnum).mono ?_); rintro e' wN ⟨rfl, hb⟩; (try have hb := undrew hb); replace hC := RefW.likeB hC hb; replace HT := Tch.thenB HT hb; replace G1 := G1.below hb G1.lt; replace HCC := RefC.below HCC hb; replace HP := PgR.below HP hb; clear z0 z1 cN; clear y0 y1 y2 y3 y4 y6; have z0 := G1.cell_ 0; have z1 := G1.cell_ 1; simp at z0 z1; have y0 := HCC.y0; have y1 := HCC.y1; have y2 := HCC.y2; have y3 := HCC.y3; have y4 := HCC.y4; have y6 := HCC.y6; have cN := HP.cN)))
  go_wp2_with fail
  refine hK.out _ _ ?_ (fun hNew => ?_)
  · (first | exact ⟨y0, y1, y2, y3, y4, y6, z0, z1, cN⟩ | assumption)
  clear hK K hHeld
  have hHeld := hNew
  clear hNew
  try simp only [Act.put, pz1, pz2, pz3]
  refine tk 10 ⟨some 32, .indexAddr 91 (.tmp 25) (.tmp 31), 0, "ref.go:71", #[⟨3, .data⟩, ⟨9, .data⟩], none⟩ ?_; try simp only [Act.put, pz1, pz2, pz3]
  refine tk 11 ⟨some 33, .load 38 (.tmp 32), 38, "ref.go:71", #[⟨10, .data⟩], none⟩ ?_; try simp only [Act.put, pz1, pz2, pz3]
  refine wpAnyH_ready (rs := [12]) (by kernel_rfl) (by simp) ?_
  refine AllReadyH.cons (o := ⟨some 34, .call { callee := .builtin .append, args := #[.const (.slice none 0 0), .tmp 33], argTypes := #[38, 38] }, 38, "ref.go:71", #[⟨11, .data⟩, ⟨9, .chain⟩], none⟩) rfl (fun K hK => ?_) AllReadyH.nil
  obtain ⟨ti0, hi, hz0, hz1, hz2⟩ := info_parts infoByte
  refine step_app _ rfl (.const (.slice none 0 0)) (.tmp 33) _ rfl wN.heap.size 5 ti0 _ 1 1 Try.underlying38 hi hz0 hz1 hz2 rfl (by decide) (.slice none 0 0) 0 [] rfl (World.ownsRow_nil _ _ _ _) (some ⟨p, 0, none⟩) RW cp ((s.tick.pageOf N RW).map byteV) rfl (HP.rd.keep (fun b o e j => rfl)) (oneB _) (by unfold maxLen; omega) (by omega) (Nat.le_refl _) ?_
  intro v9 w9 ho9 hg9 hv9
  clear hi hz0 hz1 hz2
  rw [Nat.zero_add, List.nil_append] at ho9
  obtain ⟨g9, c9, rfl, hR9, hge, hcp1, hcp2⟩ := own_cut ho9 (by omega)
  have hb : Below wN.heap.size wN w9 := (Below.refl _ _).grown hg9 (Nat.le_refl _) (fun j hj => by simp [Value.ownBlock] at hj)
  have hszN := HT.size
  clear hg9 hv9 ho9
  replace hC := RefW.likeB hC hb
  replace HT := Tch.thenB HT hb
  replace G1 := G1.below hb G1.lt
  replace HCC := RefC.below HCC hb
  replace HP := PgR.below HP hb
  clear z0 z1 cN
  clear y0 y1 y2 y3 y4 y6
  have z0 := G1.cell_ 0
  have z1 := G1.cell_ 1
  simp at z0 z1
  have y0 := HCC.y0
  have y1 := HCC.y1
  have y2 := HCC.y2
  have y3 := HCC.y3
  have y4 := HCC.y4
  have y6 := HCC.y6
  have cN := HP.cN
  refine hK.out _ _ ?_ (fun hNew => ?_)
  · (first | exact ⟨y0, y1, y2, y3, y4, y6, z0, z1, cN⟩ | assumption)
  clear hK K hHeld
  have hHeld := hNew
  clear hNew
  try simp only [Act.put, pz1, pz2, pz3]
  refine tk 13 ⟨some 4, .assign (.tmp 34), 38, "ref.go:71", #[⟨12, .data⟩, ⟨12, .chain⟩, ⟨0, .phase⟩, ⟨1, .phase⟩, ⟨2, .phase⟩, ⟨3, .phase⟩, ⟨4, .phase⟩, ⟨5, .phase⟩, ⟨6, .phase⟩, ⟨7, .phase⟩, ⟨8, .phase⟩, ⟨9, .phase⟩, ⟨10, .phase⟩, ⟨11, .phase⟩, ⟨12, .phase⟩], none⟩ ?_; try simp only [Act.put, pz1, pz2, pz3]
  refine tk 14 ⟨some 5, .assign (.const (.int .i64 0)), 3, "ref.go:71", #[⟨13, .chain⟩, ⟨0, .phase⟩, ⟨1, .phase⟩, ⟨2, .phase⟩, ⟨3, .phase⟩, ⟨4, .phase⟩, ⟨5, .phase⟩, ⟨6, .phase⟩, ⟨7, .phase⟩, ⟨8, .phase⟩, ⟨9, .phase⟩, ⟨10, .phase⟩, ⟨11, .phase⟩, ⟨12, .phase⟩, ⟨13, .phase⟩], none⟩ ?_; try simp only [Act.put, pz1, pz2, pz3]
  refine wpAnyH_done (by kernel_rfl) ?_ _
  refine NoPanic.normal ?_
  go_wp2_with fail
  go_ret2
  rw [← HPO.out]
  exact ⟨⟨g9, c9, rfl, (by first | exact hR9 | exact RowT.keep hR9 rfl), by omega, hcp1, hcp2⟩, (by first | exact hC | exact hC.like), (by first | exact HT | exact HT.like)⟩
theorem rread_allC (m gB gN gW gD L : Nat) (Af : Option Addr) (nf cf : Nat) (a b c d e : Int) (fs : List Flt) (x y : Int) (n : Int) (w : World) (s : ChS) (hC : RefW w m gB gN gW gD L Af nf cf a b c d e fs s) (hs : Fine s n) (hn : n ≤ 900000000) (hwt : s.Wt) :
    Calls Try.prog 35 #[.pointer (some ⟨m, 0, none⟩), .agg #[.int .i64 x, .int .i64 y]] w fun e' w' => (∃ A c', e' = .returned (.tuple #[.slice A (s.readB a b c x y).length c', .int .i64 (s.readZ a b x y)]) ∧ (s.readB a b c x y = [] ∧ A = none ∧ c' = 0 ∨ ∃ g, A = some ⟨g, 0, none⟩ ∧ RowT w' g 5 ((s.readB a b c x y).map byteV) ∧ w.heap.size ≤ g ∧ (s.readB a b c x y).length ≤ c' ∧ c' ≤ maxLen)) ∧ RefW w' m gB gN gW gD L Af nf cf a b c d e fs (s.readS a b x y) ∧ Tch (fun g => g = m) w w' := by
  cases ho : s.on
  · have e1 : s.readZ a b x y = 9 := by simp [ChS.readZ, ho]
    have e2 : s.readS a b x y = s := by simp [ChS.readS, ho]
    have e3 : s.readB a b c x y = [] := by simp [ChS.readB, ho]
    rw [e1, e2, e3]
    refine (rread_off m gB gN gW gD L Af nf cf a b c d e fs x y w s hC ho).mono ?_
    rintro e' w' ⟨rfl, hb⟩
    exact ⟨⟨none, 0, rfl, Or.inl ⟨rfl, rfl, rfl⟩⟩, hC.below hb, Tch.of_below hb⟩
  cases ht : thereB a b x y
  · have e1 : s.readZ a b x y = 2 := by simp [ChS.readZ, ho, ht]
    have e2 : s.readS a b x y = s := by simp [ChS.readS, ht]
    have e3 : s.readB a b c x y = [] := by simp [ChS.readB, ht]
    rw [e1, e2, e3]
    refine (rread_arg m gB gN gW gD L Af nf cf a b c d e fs x y w s hC ho (Lib.hid ht)).mono ?_
    rintro e' w' ⟨rfl, hb⟩
    exact ⟨⟨none, 0, rfl, Or.inl ⟨rfl, rfl, rfl⟩⟩, hC.below hb, Tch.of_below hb⟩
  have e2 : s.readS a b x y = s.tick := by simp [ChS.readS, ht, ho]
  rw [e2]
  cases hc : s.cutB
  · obtain ⟨k, l, hx, hy, hk, hl⟩ := there_nat ht
    obtain ⟨N, RW, hnum, hrw, hfit, r1, r2, hN2, hNN, hNab⟩ := rpage_ok hC hk hl
    have hN' : (x * b + y).toNat = N := by rw [hx, hy, ← hNN]; omega
    have hr' : (c + 16).toNat = RW := by omega
    have e1 : s.readZ a b x y = 0 := by simp [ChS.readZ, ho, ht, hc]
    have e3 : s.readB a b c x y = s.pageOf N RW := by
      unfold ChS.readB
      rw [ho, ht, hc, hN', hr']
      rfl
    have hlen : (s.pageOf N RW).length = RW := by simp [ChS.pageOf]; omega
    rw [e1, e3, hlen]
    subst hx hy
    refine (rread_okC m gB gN gW gD L Af nf cf a b c d e fs k l N RW n w s hC hs.bnd (by omega) hwt ho (Lib.hid hc) hk hl (Lib.hid hnum) hrw hfit r1 r2 hN2 hNab).mono ?_
    rintro e' w' ⟨⟨g', c', rfl, hR, hg, hp1, hp2⟩, hC', hT⟩
    exact ⟨⟨_, c', rfl, Or.inr ⟨g', rfl, hR, hg, hp1, hp2⟩⟩, hC', hT⟩
  · have e1 : s.readZ a b x y = 9 := by simp [ChS.readZ, ho, ht, hc]
    have e3 : s.readB a b c x y = [] := by simp [ChS.readB, ho, ht, hc]
    rw [e1, e3]
    refine (rread_cut m gB gN gW gD L Af nf cf a b c d e fs x y n w s hC hs.bnd (by omega) hwt ho (Lib.hid ht) (Lib.hid hc)).mono ?_
    rintro e' w' ⟨rfl, hC', hT⟩
    exact ⟨⟨none, 0, rfl, Or.inl ⟨rfl, rfl, rfl⟩⟩, hC', hT⟩
end Go.Proofs.Ytcpniplfkillbaa
namespace Go.Proofs.Ytcpniplfkillbaa
open Go.ChangeShapes Go.WideShapes Go.ChangeAt Go.RowKit
attribute [local go_sem ↓] Go.wp_at_zero Go.wp_at_succ
theorem rread_Z (mR gB gN gW gD L : Nat) (AfR : Option Addr) (nfR cfR : Nat) (a b c d e : Int) (fs : List Flt) (x y n0 : Int) (w : World) (s : ChS) (hC : RefW w mR gB gN gW gD L AfR nfR cfR a b c d e fs s) (hs : Fine s n0) (hn0 : n0 ≤ 900000000) (hwt : s.Wt) (Z : Int) (bs : List Nat) (q : Nat) (S : ChS) (hZ : Hid (s.readZ a b x y = Z ∧ s.readB a b c x y = bs ∧ bs.length = q ∧ s.readS a b x y = S)) :
    Calls Try.prog 35 #[.pointer (some ⟨mR, 0, none⟩), .agg #[.int .i64 x, .int .i64 y]] w fun e' w' => (∃ A c', e' = .returned (.tuple #[.slice A q c', .int .i64 Z]) ∧ Sl w' w'.heap.size A (bs.map byteV) ∧ q ≤ c' ∧ c' ≤ maxLen) ∧ RefW w' mR gB gN gW gD L AfR nfR cfR a b c d e fs S ∧ Tch (fun g => g = mR) w w' := by
  obtain ⟨rfl, rfl, rfl, rfl⟩ := hZ.out
  refine (rread_allC mR gB gN gW gD L AfR nfR cfR a b c d e fs x y n0 w s hC hs hn0 hwt).mono ?_
  rintro e' w' ⟨⟨A, c', h1, h2⟩, hC, hT⟩
  refine ⟨⟨A, c', h1, ?_⟩, hC, hT⟩
  rcases h2 with ⟨h3, rfl, rfl⟩ | ⟨g, rfl, h3, h4, h5, h6⟩
  · rw [h3]
    exact ⟨Sl.nil_, Nat.le_refl _, Nat.zero_le _⟩
  · exact ⟨Or.inr ⟨g, 0, rfl, h3.lt, fun k v hk => by rw [Nat.zero_add]; exact h3.cell_ hk⟩, h5, h6⟩
theorem rstate_yes (mR gB gN gW gD L : Nat) (AfR : Option Addr) (nfR cfR : Nat) (a b c d e : Int) (fs : List Flt) (x y n0 : Int) (w : World) (s : ChS) (hC : RefW w mR gB gN gW gD L AfR nfR cfR a b c d e fs s) (hs : Fine s n0) (hn0 : n0 ≤ 900000000) (hwt : s.Wt) (D : List Nat) (n K P S E st : Nat) (bs : List Nat) (q : Nat) (S1 : ChS) (hZ : Hid (s.readZ a b x y = 0 ∧ s.readB a b c x y = bs ∧ bs.length = q ∧ s.readS a b x y = S1)) (hq9 : q ≤ 1000000) (h8 : Bytes8 bs) (hk : Hid (Lk bs D n K P S E st)) :
    Calls Try.prog 9 #[.pointer (some ⟨mR, 0, none⟩), .agg #[.int .i64 x, .int .i64 y]] w fun e' w' => e' = .returned (.tuple #[.int .i64 (st : Nat), .int .i64 0]) ∧ RefW w' mR gB gN gW gD L AfR nfR cfR a b c d e fs S1 ∧ Tch (fun g => g = mR) w w' := by
  have hq : Hid (bs.length = q) := Lib.hid hZ.out.2.2.1
  have hB1 : Below w.heap.size w (w.alloc (.cells #[.int .i64 x, .int .i64 y] 27)) := (Below.refl _ _).alloc (Nat.le_refl _) _
  have hC1 := hC.below hB1
  go_enter Try.func9, Try.ntmps9
  go_wp2_with (first | (go_at_call 35; ((with_reducible refine (rread_Z mR gB gN gW gD L AfR nfR cfR a b c d e fs x y n0 _ s hC1 hs hn0 hwt 0 bs q S1 hZ).mono ?_); rintro e' wR ⟨⟨A1, c1, rfl, hsl, hc1, hc2⟩, hCR, hTR⟩)) | (go_at_call 36; ((with_reducible refine (rtread_any bs D n K P S E st hk.out q hq.out A1 c1 _ hsl h8 hc1 hc2 hq9).mono ?_); rintro e' wT ⟨⟨A2, c2, rfl, hoT⟩, hbT⟩)))
  go_ret2
  have hbA : Below wT.heap.size wT (wT.alloc (.cells #[.int .i64 (K : Nat), .int .i64 (P : Nat), .int .i64 (S : Nat), .int .i64 (E : Nat)] 40)) := (Below.refl _ _).alloc (Nat.le_refl _) _
  exact ⟨rfl, (hCR.below hbT).below hbA, ((((Tch.of_below (S := (fun g => g = mR)) hB1).trans hTR).then hbT).then hbA)⟩
theorem rstate_no (mR gB gN gW gD L : Nat) (AfR : Option Addr) (nfR cfR : Nat) (a b c d e : Int) (fs : List Flt) (x y n0 : Int) (w : World) (s : ChS) (hC : RefW w mR gB gN gW gD L AfR nfR cfR a b c d e fs s) (hs : Fine s n0) (hn0 : n0 ≤ 900000000) (hwt : s.Wt) (Z : Int) (bs : List Nat) (q : Nat) (S1 : ChS) (hZ : Hid (s.readZ a b x y = Z ∧ s.readB a b c x y = bs ∧ bs.length = q ∧ s.readS a b x y = S1)) (hne : Z ≠ 0) :
    Calls Try.prog 9 #[.pointer (some ⟨mR, 0, none⟩), .agg #[.int .i64 x, .int .i64 y]] w fun e' w' => e' = .returned (.tuple #[.int .i64 0, .int .i64 Z]) ∧ RefW w' mR gB gN gW gD L AfR nfR cfR a b c d e fs S1 ∧ Tch (fun g => g = mR) w w' := by
  have hB1 : Below w.heap.size w (w.alloc (.cells #[.int .i64 x, .int .i64 y] 27)) := (Below.refl _ _).alloc (Nat.le_refl _) _
  have hC1 := hC.below hB1
  have hz1 : (Z == 0) = false := by simpa using hne
  go_enter Try.func9, Try.ntmps9
  go_wp2_with (go_at_call 35; ((with_reducible refine (rread_Z mR gB gN gW gD L AfR nfR cfR a b c d e fs x y n0 _ s hC1 hs hn0 hwt Z bs q S1 hZ).mono ?_); rintro e' wR ⟨⟨A1, c1, rfl, hsl, hc1, hc2⟩, hCR, hTR⟩))
  go_ret2
  exact ⟨rfl, hCR, (Tch.of_below (S := (fun g => g = mR)) hB1).trans hTR⟩
end Go.Proofs.Ytcpniplfkillbaa
namespace Go.Proofs.Ytcpniplfkillbaa
open Go.ChangeShapes Go.WideShapes Go.ChangeAt Go.RowKit
attribute [local go_sem ↓] Go.wp_at_zero Go.wp_at_succ
theorem newA (w : World) : Calls Try.prog 26 #[.agg #[.int .i64 8, .int .i64 4, .int .i64 32, .int .i64 0, .int .i64 2], .slice none 0 0] w fun e' w' => (∃ m gx gb AF cf, e' = .returned (.pointer (some ⟨m, 0, none⟩)) ∧ ChipW w' m gx gb AF 0 cf 8 4 32 0 2 [] (ChS.new 1536 8) ∧ w.heap.size ≤ m ∧ w.heap.size ≤ gx ∧ w.heap.size ≤ gb) ∧ Below w.heap.size w w' :=
  newF_yes 8 4 32 0 2 [] none 0 1536 8 w (Or.inl rfl) (Nat.le_refl _) (Nat.zero_le _) (by simp) (Lib.hid (by decide)) (by decide) rfl (by omega) (by omega) (by omega)
theorem progA9 (m gx gb : Nat) (AF : Option Addr) (cf g cA : Nat) (w : World) (hC : ChipW w m gx gb AF 0 cf 8 4 32 0 2 [] (ChS.new 1536 8)) (hR : RowT w g 5 (rawA.map byteV)) (h1 : 48 ≤ cA) (h2 : cA ≤ maxLen) (hg : ¬ chB m gx gb g) :
    Calls Try.prog 30 #[.pointer (some ⟨m, 0, none⟩), .agg #[.int .i64 2, .int .i64 0], .slice (some ⟨g, 0, none⟩) 48 cA] w fun e' w' => e' = .returned (.int .i64 0) ∧ ChipW w' m gx gb AF 0 cf 8 4 32 0 2 [] sA ∧ Tch (chB m gx gb) w w' := by
  have h := prog_allC m gx gb AF 0 cf 8 4 32 0 2 [] 2 0 rawA g cA 20 w (ChS.new 1536 8) hC (good_new 1536 8).fine (by omega) (fun j u hj => by rw [Nat.zero_add]; exact hR.cell_ hj) hR.lt (by rw [rawA_len]; exact h1) h2 hg
  rw [rawA_len, progA] at h
  exact h
theorem walkA1 {S1 : ChS} (hX : S1.X = sA.X) (hL : Liv S1) : ∃ S2, walkF 8 4 32 4 [] (8 * 4) 0 S1 [] = (0, visF 4 48 [] sA.X 32 0, S2) := by
  obtain ⟨S2, h1, h2, h3⟩ := walkF_liv (a := 8) (b := 4) (c := 32) (NA := 8) (NB := 4) (RW := 48) (fs := []) rfl rfl rfl (by omega) 32 0 S1 [] (by omega) hL
  rw [List.nil_append, hX] at h1
  exact ⟨S2, h1⟩
theorem fd_lit (w : World) {g : Nat} (hg : g = w.heap.size) : SlFd (w.alloc (.cells #[.int .i64 2, .int .i64 0, .int .i64 1, .int .i64 3, .int .i64 5, .int .i64 2] 65)) (w.alloc (.cells #[.int .i64 2, .int .i64 0, .int .i64 1, .int .i64 3, .int .i64 5, .int .i64 2] 65)).heap.size (some ⟨g, 0, none⟩) [(⟨2, 0, 1, 3, 5, 2⟩ : Fd)] := by
  subst hg
  refine Or.inr ⟨w.heap.size, 0, rfl, (Blk.new_ w _ _).lt, fun k x hx j u hu => ?_⟩
  match k, hx with
  | 0, hx =>
    obtain rfl := Option.some.inj hx
    rw [(Blk.new_ w _ _).cell_, show 0 + 0 * 6 + j = j by omega, ← Array.getElem?_toList]
    exact hu
theorem SlE.tchF {w w' : World} {m gx gb B : Nat} {A : Option Addr} {L : List Fd} (h : SlFd w B A L) (hT : Tch (chB m gx gb) w w') (hB : B ≤ w.heap.size) (hn : ∀ b o, A = some ⟨b, o, none⟩ → ¬ chB m gx gb b) : SlFd w' w'.heap.size A L := by
  rcases h with h | ⟨b, off, e, hlt, hc⟩
  · exact Or.inl h
  · have hk := hT.far b (by omega) (hn b off e)
    exact Or.inr ⟨b, off, e, by have := hT.size; omega, fun k x hx j u hu => (World.cell?_of_block (w := w) hk).trans (hc k x hx j u hu)⟩
theorem own_atF {w : World} {base : Nat} {v : Value} {L : List Fd} (h : RowFd w base v L) : ∀ g, v.ownBlock = some g → base ≤ g := by
  intro g hg
  rcases h.2 with ⟨rfl, _⟩ | ⟨g', cap, cur, rfl, hb, _⟩
  · simp [Value.ownBlock] at hg
  · simp [Value.ownBlock] at hg
    omega
theorem btrT {w0 w w' : World} {m gx gb : Nat} (h : Below w0.heap.size w0 w) (hT : Tch (chB m gx gb) w w') (hl : ∀ g, chB m gx gb g → w0.heap.size ≤ g) : Below w0.heap.size w0 w' := h.trans (hT.below h.size hl)
theorem row_rep {w : World} {g : Nat} (h : RowT w g 5 (List.replicate (32 * 1) (Value.int .u8 0))) : RowT w g 5 ((List.replicate 32 0).map byteV) := by
  rw [List.map_replicate]
  exact h
theorem awake9 (w : World) : Calls Try.prog 6 #[] w fun e' w' => e' = .returned (.bool true) ∧ Below w.heap.size w w' := by
  obtain ⟨S1, hW1, hX1, hL1⟩ := walkA
  obtain ⟨S2, hW2⟩ := walkA1 hX1 hL1
  have HW1 := Lib.hid hW1
  have HW2 := Lib.hid hW2
  have HF := Lib.hid visA.1
  have HN1 : Hid ((fdsOf (visF 4 48 [] sA.X 32 0)).length = 1) := Lib.hid (by rw [HF.out]; rfl)
  have HP3 := Lib.hid visA.2
  clear hW1 hW2 hX1 hL1
  go_enter Try.func6, Try.ntmps6
  go_upto_region 4 with (first
    | (go_at_call 27; ((with_reducible refine (small9 w).mono ?_); rintro e' wN ⟨rfl, hb1⟩; skip))
    | (go_at_call 26; ((with_reducible refine (newA _).mono ?_); rintro e' wN ⟨⟨m, gx, gb, AF, cf, rfl, hC, hm, hgx, hgb⟩, hbC⟩; have HBC := btr hb1 hb1.size hbC; have hsz1 := hb1.size)))
  obtain ⟨wC, hwC⟩ : ∃ V : World, V = wN := ⟨_, rfl⟩
  rw [← hwC] at hC HBC ⊢
  clear hwC hbC
  have HB4 : Below wC.heap.size wC wC := Below.refl _ _
  refine wp_region_noPanic ?_
  refine wp_region_held_drew (S := (fun _ => True)) (by kernel_rfl) ?_ (fun hHeld => ?_)
  · exact trivial
  refine wpAnyH_ready (rs := [0, 1]) (by kernel_rfl) (by simp) ?_
  refine (AllReadyH.cons (o := ⟨some 18, .makeSlice 38 (.const (.int .i64 32)) (.const (.int .i64 32)), 38, "law.go:29", #[], none⟩) rfl (fun K hK => ?_) (AllReadyH.cons (o := ⟨some 19, .call { callee := .value (.func 29), args := #[], argTypes := #[] }, 40, "law.go:29", #[], none⟩) rfl (fun K hK => ?_) AllReadyH.nil))
  · obtain ⟨ti0, hi, hz0, hz1, hz2⟩ := info_parts infoByte
    refine wp_make _ (.const (.int .i64 32)) (.const (.int .i64 32)) 38 rfl _ 5 ti0 (.int .u8 0) 1 Try.underlying38 hi hz0 hz1 .i64 .i64 32 32 32 rfl rfl rfl rfl (by rw [hz2]; omega) (by unfold maxLen; omega) (Nat.le_refl _) ?_
    intro wM hoM hgM
    clear hi hz0 hz1 hz2
    have hb := (Below.refl _ _).grown hgM (Nat.le_refl _) (fun j hj => by cases hj)
    (try have hb := undrew hb)
    replace HB4 := btr HB4 HB4.size hb
    have hrM0 := RowT.own hoM
    rw [show (madeCells (Value.int .u8 0).cells (32 * 1)).toList = List.replicate (32 * 1) (Value.int .u8 0) from toList_madeCells_one _ _] at hrM0
    have hrM := row_rep hrM0
    (try change RowT _ wC.heap.size _ _ at hrM)
    clear hoM hgM hrM0
    refine hK.out _ _ ?_ (fun hNew => ?_)
    · exact trivial
    clear hK K hHeld
    have hHeld := hNew
    clear hNew
    try simp only [Act.put, pz1, pz2, pz3]
    refine wpAnyH_ready (rs := [1]) (by kernel_rfl) (by simp) ?_
    refine AllReadyH.cons (o := ⟨some 19, .call { callee := .value (.func 29), args := #[], argTypes := #[] }, 40, "law.go:29", #[], none⟩) rfl (fun K hK => ?_) AllReadyH.nil
    go_simp
    (first | (go_at_call 29; ((with_reducible refine (one9 _).mono ?_); rintro e' wN ⟨rfl, hb⟩; (try have hb := undrew hb); replace HB4 := btr HB4 HB4.size hb; (try replace hrM := hrM.below hb))) | (go_at_call 28; ((with_reducible refine (lay9 _ 32 _ (row_sl hrM)).mono ?_); rintro e' wN ⟨⟨g4, cA, rfl, hrA, hg4, hc1, hc2⟩, hb⟩; have hs4 := HB4.size; replace HB4 := btr HB4 HB4.size hb)))
    go_wp2_with fail
    refine hK.out _ _ ?_ (fun hNew => ?_)
    · exact trivial
    clear hK K hHeld
    have hHeld := hNew
    clear hNew
    try simp only [Act.put, pz1, pz2, pz3]
    refine wpAnyH_ready (rs := [2]) (by kernel_rfl) (by simp) ?_
    refine AllReadyH.cons (o := ⟨some 20, .call { callee := .value (.func 28), args := #[.tmp 18, .tmp 19], argTypes := #[38, 40] }, 73, "law.go:29", #[⟨0, .data⟩, ⟨1, .data⟩, ⟨1, .chain⟩], none⟩) rfl (fun K hK => ?_) AllReadyH.nil
    go_simp
    (first | (go_at_call 29; ((with_reducible refine (one9 _).mono ?_); rintro e' wN ⟨rfl, hb⟩; (try have hb := undrew hb); replace HB4 := btr HB4 HB4.size hb; (try replace hrM := hrM.below hb))) | (go_at_call 28; ((with_reducible refine (lay9 _ 32 _ (row_sl hrM)).mono ?_); rintro e' wN ⟨⟨g4, cA, rfl, hrA, hg4, hc1, hc2⟩, hb⟩; have hs4 := HB4.size; replace HB4 := btr HB4 HB4.size hb)))
    go_wp2_with fail
    refine hK.out _ _ ?_ (fun hNew => ?_)
    · exact trivial
    clear hK K hHeld
    have hHeld := hNew
    clear hNew
    try simp only [Act.put, pz1, pz2, pz3]
    refine tk 3 ⟨some 17, .move (.tmp 20), 73, "law.go:29", #[⟨2, .data⟩], none⟩ ?_; try simp only [Act.put, pz1, pz2, pz3]
    refine tk 4 ⟨some 21, .extract (.tmp 17) 0, 38, "law.go:29", #[⟨3, .data⟩], none⟩ ?_; try simp only [Act.put, pz1, pz2, pz3]
    refine tk 5 ⟨some 22, .extract (.tmp 17) 1, 3, "law.go:29", #[⟨3, .data⟩, { on := 6, ground := Ground.gcOnly Departure.lateStores }], none⟩ ?_; try simp only [Act.put, pz1, pz2, pz3]
    refine tk 6 ⟨some 2, .assign (.tmp 21), 38, "law.go:29", #[⟨4, .data⟩, ⟨2, .chain⟩, ⟨0, .phase⟩, ⟨1, .phase⟩, ⟨2, .phase⟩, ⟨3, .phase⟩, ⟨4, .phase⟩, { on := 5, ground := Ground.textOnly Departure.lateStores }], none⟩ ?_; try simp only [Act.put, pz1, pz2, pz3]
    refine tk 7 ⟨some 3, .assign (.tmp 22), 3, "law.go:29", #[⟨5, .data⟩, ⟨6, .chain⟩, ⟨0, .phase⟩, ⟨1, .phase⟩, ⟨2, .phase⟩, ⟨3, .phase⟩, ⟨4, .phase⟩, ⟨5, .phase⟩, ⟨6, .phase⟩], none⟩ ?_; try simp only [Act.put, pz1, pz2, pz3]
    refine wpAnyH_done (by kernel_rfl) ?_ _
    refine NoPanic.normal ?_
    clear hHeld
    have HC4 : ChipW wN m gx gb AF 0 cf 8 4 32 0 2 [] (ChS.new 1536 8) := hC.below HB4
    have HBN := HBC.trans (HB4.mono HBC.size)
    have hlC := hC.lt
    have hng : ¬ chB m gx gb g4 := fun e => by rcases e with rfl | rfl | rfl <;> omega
    have hlow : ∀ g, chB m gx gb g → w.heap.size ≤ g := fun g e => by rcases e with rfl | rfl | rfl <;> omega
    go_wp2_with (first
      | (go_at_call 30; ((with_reducible refine (progA9 m gx gb AF cf g4 cA _ HC4 hrA hc1 hc2 hng).mono ?_); rintro e' wN ⟨rfl, hCP, hTP⟩; have HBP := btrT HBN hTP hlow; have hgd : Good sA 23 := ((good_new 1536 8).prog HC4 2 0 rawA).mono (show (20 : Int) + 3 ≤ 23 by omega)))
      | (go_at_call 16; ((with_reducible refine (scan_ok m gx gb AF 0 cf 8 4 32 0 2 [] 8 4 23 (visF 4 48 [] sA.X 32 0) sA S1 _ hCP hgd (by omega) sA_liv.b8 rfl rfl HW1 1 HN1).mono ?_); rintro e' wN ⟨⟨A5, c5, rfl, hrF⟩, hCS, hTS, hgS, hb8S⟩; have HBS := btrT HBP hTS hlow; obtain ⟨A6, c6, hv6, hsF, -, -⟩ := hrF.sl; have hnF : ∀ b o, A5 = some ⟨b, o, none⟩ → ¬ chB m gx gb b := fun b o e e2 => (by have h1 := (own_atF hrF b (by rw [e]; rfl)); have h2 := hCP.lt; rcases e2 with rfl | rfl | rfl <;> omega); rw [HF.out] at hv6 hsF; cases hv6))
      | (go_at_call 18; ((with_reducible refine (count_ok m gx gb AF 0 cf 8 4 32 0 2 [] 8 4 (23 + 1000) (visF 4 48 [] sA.X 32 0) S1 S2 _ hCS hgS (by omega) hb8S rfl rfl HW2 31 1 0 HP3).mono ?_); rintro e' wN ⟨rfl, hCT, hTT, -, -⟩; have HBT := btrT HBS hTT hlow; have hsF2 := SlE.tchF hsF hTT (Nat.le_refl _) hnF))
      | (go_at_call 8; ((with_reducible refine (state_nil 0 0 _).mono ?_); rintro e' wN ⟨rfl, hbU⟩; have HBU := btr HBT HBT.size hbU; have hsF3 := hsF2.next hbU))
      | (go_at_call 29; ((with_reducible refine (one9 _).mono ?_); rintro e' wN ⟨rfl, hbV⟩; have HBV := btr HBU HBU.size hbV; have hsF4 := hsF3.next hbV))
      | (go_at_call 20; ((with_reducible refine (same_yes [(⟨2, 0, 1, 3, 5, 2⟩ : Fd)] A5 _ 1 c5 1 _ rfl (by omega) (hsF4.next ((Below.refl _ _).alloc (Nat.le_refl _) _)) (fd_lit _ (by simp))).mono ?_); rintro e' wN ⟨rfl, hbW⟩; have HBW := (HBV.alloc HBV.size _).trans (hbW.mono (by have := HBV.size; simp; omega)))))
    go_ret
    exact ⟨rfl, HBW⟩
  · go_simp
    (first | (go_at_call 29; ((with_reducible refine (one9 _).mono ?_); rintro e' wN ⟨rfl, hb⟩; (try have hb := undrew hb); replace HB4 := btr HB4 HB4.size hb; (try replace hrM := hrM.below hb))) | (go_at_call 28; ((with_reducible refine (lay9 _ 32 _ (row_sl hrM)).mono ?_); rintro e' wN ⟨⟨g4, cA, rfl, hrA, hg4, hc1, hc2⟩, hb⟩; have hs4 := HB4.size; replace HB4 := btr HB4 HB4.size hb)))
    go_wp2_with fail
    refine hK.out _ _ ?_ (fun hNew => ?_)
    · exact trivial
    clear hK K hHeld
    have hHeld := hNew
    clear hNew
    try simp only [Act.put, pz1, pz2, pz3]
    refine wpAnyH_ready (rs := [0]) (by kernel_rfl) (by simp) ?_
    refine AllReadyH.cons (o := ⟨some 18, .makeSlice 38 (.const (.int .i64 32)) (.const (.int .i64 32)), 38, "law.go:29", #[], none⟩) rfl (fun K hK => ?_) AllReadyH.nil
    obtain ⟨ti0, hi, hz0, hz1, hz2⟩ := info_parts infoByte
    refine wp_make _ (.const (.int .i64 32)) (.const (.int .i64 32)) 38 rfl _ 5 ti0 (.int .u8 0) 1 Try.underlying38 hi hz0 hz1 .i64 .i64 32 32 32 rfl rfl rfl rfl (by rw [hz2]; omega) (by unfold maxLen; omega) (Nat.le_refl _) ?_
    intro wM hoM hgM
    clear hi hz0 hz1 hz2
    have hb := (Below.refl _ _).grown hgM (Nat.le_refl _) (fun j hj => by cases hj)
    (try have hb := undrew hb)
    replace HB4 := btr HB4 HB4.size hb
    have hrM0 := RowT.own hoM
    rw [show (madeCells (Value.int .u8 0).cells (32 * 1)).toList = List.replicate (32 * 1) (Value.int .u8 0) from toList_madeCells_one _ _] at hrM0
    have hrM := row_rep hrM0
    (try change RowT _ wC.heap.size _ _ at hrM)
    clear hoM hgM hrM0
    refine hK.out _ _ ?_ (fun hNew => ?_)
    · exact trivial
    clear hK K hHeld
    have hHeld := hNew
    clear hNew
    try simp only [Act.put, pz1, pz2, pz3]
    refine wpAnyH_ready (rs := [2]) (by kernel_rfl) (by simp) ?_
    refine AllReadyH.cons (o := ⟨some 20, .call { callee := .value (.func 28), args := #[.tmp 18, .tmp 19], argTypes := #[38, 40] }, 73, "law.go:29", #[⟨0, .data⟩, ⟨1, .data⟩, ⟨1, .chain⟩], none⟩) rfl (fun K hK => ?_) AllReadyH.nil
    go_simp
    (first | (go_at_call 29; ((with_reducible refine (one9 _).mono ?_); rintro e' wN ⟨rfl, hb⟩; (try have hb := undrew hb); replace HB4 := btr HB4 HB4.size hb; (try replace hrM := hrM.below hb))) | (go_at_call 28; ((with_reducible refine (lay9 _ 32 _ (row_sl hrM)).mono ?_); rintro e' wN ⟨⟨g4, cA, rfl, hrA, hg4, hc1, hc2⟩, hb⟩; have hs4 := HB4.size; replace HB4 := btr HB4 HB4.size hb)))
    go_wp2_with fail
    refine hK.out _ _ ?_ (fun hNew => ?_)
    · exact trivial
    clear hK K hHeld
    have hHeld := hNew
    clear hNew
    try simp only [Act.put, pz1, pz2, pz3]
    refine tk 3 ⟨some 17, .move (.tmp 20), 73, "law.go:29", #[⟨2, .data⟩], none⟩ ?_; try simp only [Act.put, pz1, pz2, pz3]
    refine tk 4 ⟨some 21, .extract (.tmp 17) 0, 38, "law.go:29", #[⟨3, .data⟩], none⟩ ?_; try simp only [Act.put, pz1, pz2, pz3]
    refine tk 5 ⟨some 22, .extract (.tmp 17) 1, 3, "law.go:29", #[⟨3, .data⟩, { on := 6, ground := Ground.gcOnly Departure.lateStores }], none⟩ ?_; try simp only [Act.put, pz1, pz2, pz3]
    refine tk 6 ⟨some 2, .assign (.tmp 21), 38, "law.go:29", #[⟨4, .data⟩, ⟨2, .chain⟩, ⟨0, .phase⟩, ⟨1, .phase⟩, ⟨2, .phase⟩, ⟨3, .phase⟩, ⟨4, .phase⟩, { on := 5, ground := Ground.textOnly Departure.lateStores }], none⟩ ?_; try simp only [Act.put, pz1, pz2, pz3]
    refine tk 7 ⟨some 3, .assign (.tmp 22), 3, "law.go:29", #[⟨5, .data⟩, ⟨6, .chain⟩, ⟨0, .phase⟩, ⟨1, .phase⟩, ⟨2, .phase⟩, ⟨3, .phase⟩, ⟨4, .phase⟩, ⟨5, .phase⟩, ⟨6, .phase⟩], none⟩ ?_; try simp only [Act.put, pz1, pz2, pz3]
    refine wpAnyH_done (by kernel_rfl) ?_ _
    refine NoPanic.normal ?_
    clear hHeld
    have HC4 : ChipW wN m gx gb AF 0 cf 8 4 32 0 2 [] (ChS.new 1536 8) := hC.below HB4
    have HBN := HBC.trans (HB4.mono HBC.size)
    have hlC := hC.lt
    have hng : ¬ chB m gx gb g4 := fun e => by rcases e with rfl | rfl | rfl <;> omega
    have hlow : ∀ g, chB m gx gb g → w.heap.size ≤ g := fun g e => by rcases e with rfl | rfl | rfl <;> omega
    go_wp2_with (first
      | (go_at_call 30; ((with_reducible refine (progA9 m gx gb AF cf g4 cA _ HC4 hrA hc1 hc2 hng).mono ?_); rintro e' wN ⟨rfl, hCP, hTP⟩; have HBP := btrT HBN hTP hlow; have hgd : Good sA 23 := ((good_new 1536 8).prog HC4 2 0 rawA).mono (show (20 : Int) + 3 ≤ 23 by omega)))
      | (go_at_call 16; ((with_reducible refine (scan_ok m gx gb AF 0 cf 8 4 32 0 2 [] 8 4 23 (visF 4 48 [] sA.X 32 0) sA S1 _ hCP hgd (by omega) sA_liv.b8 rfl rfl HW1 1 HN1).mono ?_); rintro e' wN ⟨⟨A5, c5, rfl, hrF⟩, hCS, hTS, hgS, hb8S⟩; have HBS := btrT HBP hTS hlow; obtain ⟨A6, c6, hv6, hsF, -, -⟩ := hrF.sl; have hnF : ∀ b o, A5 = some ⟨b, o, none⟩ → ¬ chB m gx gb b := fun b o e e2 => (by have h1 := (own_atF hrF b (by rw [e]; rfl)); have h2 := hCP.lt; rcases e2 with rfl | rfl | rfl <;> omega); rw [HF.out] at hv6 hsF; cases hv6))
      | (go_at_call 18; ((with_reducible refine (count_ok m gx gb AF 0 cf 8 4 32 0 2 [] 8 4 (23 + 1000) (visF 4 48 [] sA.X 32 0) S1 S2 _ hCS hgS (by omega) hb8S rfl rfl HW2 31 1 0 HP3).mono ?_); rintro e' wN ⟨rfl, hCT, hTT, -, -⟩; have HBT := btrT HBS hTT hlow; have hsF2 := SlE.tchF hsF hTT (Nat.le_refl _) hnF))
      | (go_at_call 8; ((with_reducible refine (state_nil 0 0 _).mono ?_); rintro e' wN ⟨rfl, hbU⟩; have HBU := btr HBT HBT.size hbU; have hsF3 := hsF2.next hbU))
      | (go_at_call 29; ((with_reducible refine (one9 _).mono ?_); rintro e' wN ⟨rfl, hbV⟩; have HBV := btr HBU HBU.size hbV; have hsF4 := hsF3.next hbV))
      | (go_at_call 20; ((with_reducible refine (same_yes [(⟨2, 0, 1, 3, 5, 2⟩ : Fd)] A5 _ 1 c5 1 _ rfl (by omega) (hsF4.next ((Below.refl _ _).alloc (Nat.le_refl _) _)) (fd_lit _ (by simp))).mono ?_); rintro e' wN ⟨rfl, hbW⟩; have HBW := (HBV.alloc HBV.size _).trans (hbW.mono (by have := HBV.size; simp; omega)))))
    go_ret
    exact ⟨rfl, HBW⟩
end Go.Proofs.Ytcpniplfkillbaa
namespace Go.Proofs.Ytcpniplfkillbaa
open Go.ChangeShapes Go.WideShapes Go.ChangeAt Go.RowKit
structure ESet (a b c z : Int) (NA NB RW k : Nat) (S S1 S2 S3 : ChS) (n1 n2 : Nat) (acc1 acc2 : List Vis) : Prop where
  na : (NA : Int) = a
  nb : (NB : Int) = b
  rw : (RW : Int) = c + 16
  r1 : 40 ≤ RW
  r2 : RW ≤ 80
  b1 : 4 ≤ NB
  b2 : NB ≤ 8
  kz : Hid ((k : Int) = lowI z a)
  k1 : k < NA
  w1 : Hid (walkF a b c NB [] (NA * NB) 0 S [] = (0, acc1, S1))
  m1 : Hid ((fdsOf acc1).length = n1)
  q1 : n1 ≤ 1000000
  l1 : Liv S1
  er : Hid (S1.eraseZ a [] (lowI z a) = 0 ∧ S1.eraseS a b c [] (lowI z a) = S2)
  l2 : Liv S2
  w2 : Hid (walkF a b c NB [] (NA * NB) 0 S2 [] = (0, acc2, S3))
  m2 : Hid ((fdsOf acc2).length = n2)
  q2 : n2 ≤ 1000000
  l3 : Liv S3
  fd : Hid (fdsOf acc2 = (fdsOf acc1).filter (fun f => decide (f.b ≠ lowI z a)))
  pg : ∀ l, l < NB → pg S3.X RW (k * NB + l) = List.replicate RW 255
end Go.Proofs.Ytcpniplfkillbaa
namespace Go.Proofs.Ytcpniplfkillbaa
open Go.ChangeShapes Go.WideShapes Go.ChangeAt Go.RowKit
attribute [local go_sem ↓] Go.wp_at_zero Go.wp_at_succ
theorem st4_tch (w : World) (g : Nat) (u0 u1 u2 u3 : Value) : Tch (fun x => x = g) w (st4 w g u0 u1 u2 u3) :=
  ((((Tch.setm w g 0 u0).trans (Tch.setm _ g 1 u1)).trans (Tch.setm _ g 2 u2)).trans (Tch.setm _ g 3 u3))
theorem load_yes (m gx gb : Nat) (Af : Option Addr) (nf cf : Nat) (a b c d e : Int) (fs : List Flt) (x y : Int) (n0 : Int) (w : World) (s : ChS) (hC : ChipW w m gx gb Af nf cf a b c d e fs s) (hs : Fine s n0) (hn0 : n0 ≤ 900000000) (D : List Nat) (n K P S E st : Nat) (S1 : ChS) (bs : List Nat) (h8 : Bytes8 bs) (hl : bs.length ≤ 1000000) (hZ : Hid (s.readZ a b x y = 0 ∧ s.readB a b c x y = bs ∧ s.readS a b x y = S1)) (hk : Hid (Lk bs D n K P S E st)) (hst : st = 1) :
    Calls Try.prog 10 #[.pointer (some ⟨m, 0, none⟩), .agg #[.int .i64 x, .int .i64 y]] w fun e' w' => (∃ A' c', e' = .returned (.tuple #[.slice A' n c', .agg #[.int .i64 (K : Nat), .int .i64 (P : Nat), .int .i64 (S : Nat), .int .i64 (E : Nat)], .int .i64 0]) ∧ w'.ownsRow w.heap.size 5 1 (.slice A' n c') n (D.map byteV)) ∧ ChipW w' m gx gb Af nf cf a b c d e fs S1 ∧ Tch (chB m gx gb) w w' := by
  have hB0 : Below w.heap.size w ((w.alloc (.cells #[.int .i64 x, .int .i64 y] 27)).alloc (.cells #[.int .i64 0, .int .i64 0, .int .i64 0, .int .i64 0] 40)) := ((Below.refl _ _).alloc (Nat.le_refl _) _).alloc (by simp) _
  have hC1 := hC.below hB0
  have G1 : Blk ((w.alloc (.cells #[.int .i64 x, .int .i64 y] 27)).alloc (.cells #[.int .i64 0, .int .i64 0, .int .i64 0, .int .i64 0] 40)) (w.heap.size + 1) 40 #[.int .i64 0, .int .i64 0, .int .i64 0, .int .i64 0] := blk_new (by simp)
  have hnt : ¬ chB m gx gb (w.heap.size + 1) := fun e => by have := hC.lt; rcases e with e | e | e <;> omega
  subst hst
  go_enter Try.func10, Try.ntmps10
  go_upto_region 4 with (go_at_call 34; go_loud (((with_reducible refine (look_yes m gx gb Af nf cf a b c d e fs x y n0 _ s hC1 hs hn0 D n K P S E 1 S1 bs h8 hl hZ hk).mono ?_); rintro e' wL ⟨⟨A2, c2, rfl, hoL⟩, hCL, hTL⟩; have hTL2 := (Tch.of_below (S := chB m gx gb) hB0).trans hTL; have GL := hTL.blk G1 hnt; have hszL := hTL.size)))
  have HCN := (ChN.start hC).next hCL
  obtain ⟨wP, hwP⟩ : ∃ V : World, V = wL.alloc (.cells #[.slice A2 n c2, .int .i64 (K : Nat), .int .i64 (P : Nat), .int .i64 (S : Nat), .int .i64 (E : Nat), .int .i64 1] 83) := ⟨_, rfl⟩
  have HP : Blk wP wL.heap.size 83 #[.slice A2 n c2, .int .i64 (K : Nat), .int .i64 (P : Nat), .int .i64 (S : Nat), .int .i64 (E : Nat), .int .i64 1] := by rw [hwP]; exact Blk.new_ _ _ _
  have GP : Blk wP (w.heap.size + 1) 40 #[.int .i64 0, .int .i64 0, .int .i64 0, .int .i64 0] := by rw [hwP]; exact GL.alloc_ _
  have hBP : Below wL.heap.size wL wP := by rw [hwP]; exact (Below.refl _ _).alloc (Nat.le_refl _) _
  rw [← hwP]
  clear hwP
  have gz := GP.free
  obtain ⟨z0, z1, z2, z3⟩ : _ ∧ _ ∧ _ ∧ _ := ⟨GP.cell_ 0, GP.cell_ 1, GP.cell_ 2, GP.cell_ 3⟩
  simp at z0 z1 z2 z3
  obtain ⟨p0, p1, p2, p3, p4, p5⟩ := cells6 HP
  have hgL := GL.lt
  have HP4 := st4_far HP (show wL.heap.size ≠ w.heap.size + 1 by omega) (.int .i64 (K : Nat)) (.int .i64 (P : Nat)) (.int .i64 (S : Nat)) (.int .i64 (E : Nat))
  obtain ⟨q0, q1, q2, q3, q4, q5⟩ := cells6 HP4
  have HT4 := st4_blk GP (.int .i64 (K : Nat)) (.int .i64 (P : Nat)) (.int .i64 (S : Nat)) (.int .i64 (E : Nat))
  have HO4 := st4_own (g := w.heap.size + 1) (own_below hoL hBP) (show w.heap.size + 1 < ((w.alloc (.cells #[.int .i64 x, .int .i64 y] 27)).alloc (.cells #[.int .i64 0, .int .i64 0, .int .i64 0, .int .i64 0] 40)).heap.size by simp) (.int .i64 (K : Nat)) (.int .i64 (P : Nat)) (.int .i64 (S : Nat)) (.int .i64 (E : Nat))
  have HB4 : Below w.heap.size wP (st4 wP (w.heap.size + 1) (.int .i64 (K : Nat)) (.int .i64 (P : Nat)) (.int .i64 (S : Nat)) (.int .i64 (E : Nat))) := st4_below (Below.refl _ _) (by omega) (.int .i64 (K : Nat)) (.int .i64 (P : Nat)) (.int .i64 (S : Nat)) (.int .i64 (E : Nat))
  obtain ⟨wz, hwz⟩ : ∃ V : World, V = World.drew (st4 wP (w.heap.size + 1) (.int .i64 (K : Nat)) (.int .i64 (P : Nat)) (.int .i64 (S : Nat)) (.int .i64 (E : Nat))) := ⟨_, rfl⟩
  have TZ := st4_tch wP (w.heap.size + 1) (.int .i64 (K : Nat)) (.int .i64 (P : Nat)) (.int .i64 (S : Nat)) (.int .i64 (E : Nat))
  have hCZ0 := ((HCN.below_ (hBP.mono (Nat.le_refl _))).far TZ (fun g hg => by subst hg; omega)).chip
  have hCZ : ChipW (World.drew (st4 wP (w.heap.size + 1) (.int .i64 (K : Nat)) (.int .i64 (P : Nat)) (.int .i64 (S : Nat)) (.int .i64 (E : Nat)))) m gx gb Af nf cf a b c d e fs S1 := hCZ0.like
  have hTZ0 : Tch (chB m gx gb) w (st4 wP (w.heap.size + 1) (.int .i64 (K : Nat)) (.int .i64 (P : Nat)) (.int .i64 (S : Nat)) (.int .i64 (E : Nat))) := (((hTL2.then hBP).mono (S' := fun g => chB m gx gb g ∨ w.heap.size ≤ g) (fun g hg => Or.inl hg)).trans (TZ.mono (fun g hg => by subst hg; exact Or.inr (Nat.le_succ _)))).monoL (fun g hg h => by rcases h with h | h; exact h; omega)
  have hTZ : Tch (chB m gx gb) w (World.drew (st4 wP (w.heap.size + 1) (.int .i64 (K : Nat)) (.int .i64 (P : Nat)) (.int .i64 (S : Nat)) (.int .i64 (E : Nat)))) := hTZ0.like
  have hoZ : (World.drew (st4 wP (w.heap.size + 1) (.int .i64 (K : Nat)) (.int .i64 (P : Nat)) (.int .i64 (S : Nat)) (.int .i64 (E : Nat)))).ownsRow w.heap.size 5 1 (.slice A2 n c2) n (D.map byteV) := own_base HO4 (show w.heap.size ≤ ((w.alloc (.cells #[.int .i64 x, .int .i64 y] 27)).alloc (.cells #[.int .i64 0, .int .i64 0, .int .i64 0, .int .i64 0] 40)).heap.size by simp; omega)
  have HT5 : Blk (World.drew (st4 wP (w.heap.size + 1) (.int .i64 (K : Nat)) (.int .i64 (P : Nat)) (.int .i64 (S : Nat)) (.int .i64 (E : Nat)))) (w.heap.size + 1) 40 _ := HT4
  have r0 : (World.drew (st4 wP (w.heap.size + 1) (.int .i64 (K : Nat)) (.int .i64 (P : Nat)) (.int .i64 (S : Nat)) (.int .i64 (E : Nat)))).cell? ⟨w.heap.size + 1, 0, none⟩ = some (.int .i64 (K : Nat)) := HT5.cell_ 0
  have r1 : (World.drew (st4 wP (w.heap.size + 1) (.int .i64 (K : Nat)) (.int .i64 (P : Nat)) (.int .i64 (S : Nat)) (.int .i64 (E : Nat)))).cell? ⟨w.heap.size + 1, 1, none⟩ = some (.int .i64 (P : Nat)) := HT5.cell_ 1
  have r2 : (World.drew (st4 wP (w.heap.size + 1) (.int .i64 (K : Nat)) (.int .i64 (P : Nat)) (.int .i64 (S : Nat)) (.int .i64 (E : Nat)))).cell? ⟨w.heap.size + 1, 2, none⟩ = some (.int .i64 (S : Nat)) := HT5.cell_ 2
  have r3 : (World.drew (st4 wP (w.heap.size + 1) (.int .i64 (K : Nat)) (.int .i64 (P : Nat)) (.int .i64 (S : Nat)) (.int .i64 (E : Nat)))).cell? ⟨w.heap.size + 1, 3, none⟩ = some (.int .i64 (E : Nat)) := HT5.cell_ 3
  rw [← hwz] at hCZ hTZ hoZ r0 r1 r2 r3
  clear HO4 HB4 TZ HP4 HT4 HT5 hCZ0 hTZ0
  refine wp_region_noPanic ?_
  refine wp_region_held_drew (S := (fun w' => w'.cell? ⟨wL.heap.size, 0, none⟩ = some (.slice A2 n c2) ∧ w'.cell? ⟨wL.heap.size, 1, none⟩ = some (.int .i64 (K : Nat)) ∧ w'.cell? ⟨wL.heap.size, 2, none⟩ = some (.int .i64 (P : Nat)) ∧ w'.cell? ⟨wL.heap.size, 3, none⟩ = some (.int .i64 (S : Nat)) ∧ w'.cell? ⟨wL.heap.size, 4, none⟩ = some (.int .i64 (E : Nat)) ∧ w'.cell? ⟨wL.heap.size, 5, none⟩ = some (.int .i64 1))) (by kernel_rfl) ?_ (fun hHeld => ?_)
  · (first | with_reducible exact ⟨p0, p1, p2, p3, p4, p5⟩ | exact ⟨q0, q1, q2, q3, q4, q5⟩ | assumption | exact ⟨p0, p1, p2, p3, p4, p5⟩)
  refine tk 0 ⟨some 22, .fieldAddr 83 (.tmp 7) 0, 0, "leaf.go:39", #[], none⟩ ?_; try simp only [Act.put, pz1, pz2, pz3]
  refine tk 1 ⟨some 23, .load 38 (.tmp 22), 38, "leaf.go:39", #[⟨0, .data⟩], none⟩ ?_; try simp only [Act.put, pz1, pz2, pz3]
  refine tk 2 ⟨some 24, .fieldAddr 83 (.tmp 7) 1, 0, "leaf.go:39", #[{ on := 5, ground := Ground.gcOnly Departure.lateStores }], none⟩ ?_; try simp only [Act.put, pz1, pz2, pz3]
  refine tk 3 ⟨some 25, .load 40 (.tmp 24), 40, "leaf.go:39", #[⟨2, .data⟩, { on := 5, ground := Ground.gcOnly Departure.lateStores }], none⟩ ?_; try simp only [Act.put, pz1, pz2, pz3]
  refine tk 4 ⟨some 26, .move (.tmp 8), 33, "leaf.go:39", #[{ on := 6, ground := Ground.gcOnly Departure.lateStores }], none⟩ ?_; try simp only [Act.put, pz1, pz2, pz3]
  refine tk 5 ⟨some 4, .assign (.tmp 23), 38, "leaf.go:39", #[⟨1, .data⟩, ⟨0, .phase⟩, ⟨1, .phase⟩, { on := 2, ground := Ground.textOnly Departure.lateStores }, { on := 3, ground := Ground.textOnly Departure.lateStores }, { on := 4, ground := Ground.textOnly Departure.lateStores }], none⟩ ?_; try simp only [Act.put, pz1, pz2, pz3]
  refine wpAnyH_ready (rs := [6]) (by kernel_rfl) (by simp) ?_
  refine AllReadyH.cons (o := ⟨none, .store 40 (.tmp 5) (.tmp 25), 0, "leaf.go:39", #[⟨3, .data⟩, ⟨5, .chain⟩, ⟨0, .phase⟩, ⟨1, .phase⟩, ⟨2, .phase⟩, ⟨3, .phase⟩, { on := 4, ground := Ground.textOnly Departure.lateStores }, ⟨5, .phase⟩], none⟩) rfl (fun K hK => ?_) AllReadyH.nil
  go_simp
  refine hK.out _ _ ?_ (fun hNew => ?_)
  · (first | with_reducible exact ⟨p0, p1, p2, p3, p4, p5⟩ | exact ⟨q0, q1, q2, q3, q4, q5⟩ | assumption | exact ⟨p0, p1, p2, p3, p4, p5⟩)
  clear hK K hHeld
  have hHeld := hNew
  clear hNew
  try simp only [Act.put, pz1, pz2, pz3]
  refine tk 7 ⟨some 6, .assign (.tmp 26), 33, "leaf.go:39", #[⟨4, .data⟩, ⟨6, .chain⟩, ⟨0, .phase⟩, ⟨1, .phase⟩, ⟨2, .phase⟩, ⟨3, .phase⟩, ⟨4, .phase⟩, ⟨5, .phase⟩, ⟨6, .phase⟩], none⟩ ?_; try simp only [Act.put, pz1, pz2, pz3]
  refine wpAnyH_done (by kernel_rfl) ?_ _
  refine NoPanic.normal ?_
  clear hHeld
  go_wp2_with fail
  show bodyPost _ _ _ _ _ (World.drew (st4 wP (w.heap.size + 1) (.int .i64 (K : Nat)) (.int .i64 (P : Nat)) (.int .i64 (S : Nat)) (.int .i64 (E : Nat))))
  rw [← hwz]
  refine bodyPost_ret (v := .tuple #[.slice A2 n c2, .agg #[.int .i64 (K : Nat), .int .i64 (P : Nat), .int .i64 (S : Nat), .int .i64 (E : Nat)], .int .i64 0]) (by simp [results, Try.results10, go_sem, r0, r1, r2, r3]) rfl ⟨⟨_, _, rfl, hoZ⟩, hCZ, hTZ⟩
end Go.Proofs.Ytcpniplfkillbaa
namespace Go.Proofs.Ytcpniplfkillbaa
open Go.ChangeShapes Go.WideShapes Go.ChangeAt Go.RowKit
attribute [local go_sem ↓] Go.wp_at_zero Go.wp_at_succ
theorem readS_K (s : ChS) (a b x y : Int) : (s.readS a b x y).K = s.K := by
  unfold ChS.readS
  split
  · unfold ChS.tick
    split <;> rfl
  · rfl
theorem RefW.store {w wR wz : World} {mR gB gN gW gD L : Nat} {AfR : Option Addr} {nfR cfR : Nat} {a b c d e : Int} {fs : List Flt} {s s' : ChS} (hC : RefW w mR gB gN gW gD L AfR nfR cfR a b c d e fs s) (hR : RefW wR mR gB gN gW gD L AfR nfR cfR a b c d e fs s') (h1 : s'.X = s.X) (h2 : s'.K = s.K) (hT : Tch (fun g => g = mR) w wz) (hk : wz.heap[mR]? = wR.heap[mR]?) : RefW wz mR gB gN gW gD L AfR nfR cfR a b c d e fs s' := by
  obtain ⟨⟨cB, NP, NB, RW, hRW, hNP, hNB, hcB, hB, -⟩, -⟩ := hR
  exact hC.put s' hNP hNB hcB (hk.trans hB) hT h1 h2
theorem rread_Z2 (mR gB gN gW gD L : Nat) (AfR : Option Addr) (nfR cfR : Nat) (a b c d e : Int) (fs : List Flt) (x y n0 : Int) (w : World) (s : ChS) (hC : RefW w mR gB gN gW gD L AfR nfR cfR a b c d e fs s) (hs : Fine s n0) (hn0 : n0 ≤ 900000000) (hwt : s.Wt) (Z : Int) (bs : List Nat) (q : Nat) (S : ChS) (hZ : Hid (s.readZ a b x y = Z ∧ s.readB a b c x y = bs ∧ bs.length = q ∧ s.readS a b x y = S)) :
    Calls Try.prog 35 #[.pointer (some ⟨mR, 0, none⟩), .agg #[.int .i64 x, .int .i64 y]] w fun e' w' => (∃ A c', e' = .returned (.tuple #[.slice A q c', .int .i64 Z]) ∧ Sl w' w'.heap.size A (bs.map byteV) ∧ q ≤ c' ∧ c' ≤ maxLen) ∧ RefW w' mR gB gN gW gD L AfR nfR cfR a b c d e fs S ∧ Tch (fun g => g = mR) w w' := by
  obtain ⟨rfl, rfl, rfl, rfl⟩ := hZ.out
  refine (rread_allC mR gB gN gW gD L AfR nfR cfR a b c d e fs x y n0 w s hC hs hn0 hwt).mono ?_
  rintro e' w' ⟨⟨A, c', h1, h2⟩, hC, hT⟩
  refine ⟨⟨A, c', h1, ?_⟩, hC, hT⟩
  rcases h2 with ⟨h3, rfl, rfl⟩ | ⟨g, rfl, h3, h4, h5, h6⟩
  · rw [h3]
    exact ⟨Sl.nil_, Nat.le_refl _, Nat.zero_le _⟩
  · exact ⟨Or.inr ⟨g, 0, rfl, h3.lt, fun k v hk => by rw [Nat.zero_add]; exact h3.cell_ hk⟩, h5, h6⟩
theorem rload_no (mR gB gN gW gD L : Nat) (AfR : Option Addr) (nfR cfR : Nat) (a b c d e : Int) (fs : List Flt) (x y n0 : Int) (w : World) (s : ChS) (hC : RefW w mR gB gN gW gD L AfR nfR cfR a b c d e fs s) (hs : Fine s n0) (hn0 : n0 ≤ 900000000) (hwt : s.Wt) (Z : Int) (bs : List Nat) (q : Nat) (S1 : ChS) (hZ : Hid (s.readZ a b x y = Z ∧ s.readB a b c x y = bs ∧ bs.length = q ∧ s.readS a b x y = S1)) (hne : Z ≠ 0) :
    Calls Try.prog 11 #[.pointer (some ⟨mR, 0, none⟩), .agg #[.int .i64 x, .int .i64 y]] w fun e' w' => e' = .returned (.tuple #[.slice none 0 0, .agg #[.int .i64 0, .int .i64 0, .int .i64 0, .int .i64 0], .int .i64 Z]) ∧ RefW w' mR gB gN gW gD L AfR nfR cfR a b c d e fs S1 ∧ Tch (fun g => g = mR) w w' := by
  have hB0 : Below w.heap.size w ((w.alloc (.cells #[.int .i64 x, .int .i64 y] 27)).alloc (.cells #[.int .i64 0, .int .i64 0, .int .i64 0, .int .i64 0] 40)) := ((Below.refl _ _).alloc (Nat.le_refl _) _).alloc (by simp) _
  have hC1 := hC.below hB0
  have hmw := hC.lt
  have hnm : ¬ (w.heap.size + 1 = mR) := by omega
  have G1 : Blk ((w.alloc (.cells #[.int .i64 x, .int .i64 y] 27)).alloc (.cells #[.int .i64 0, .int .i64 0, .int .i64 0, .int .i64 0] 40)) (w.heap.size + 1) 40 #[.int .i64 0, .int .i64 0, .int .i64 0, .int .i64 0] := blk_new (by simp)
  have hz1 : (Z == 0) = false := by simpa using hne
  go_enter Try.func11, Try.ntmps11
  go_wp2_with (go_at_call 35; ((with_reducible refine (rread_Z2 mR gB gN gW gD L AfR nfR cfR a b c d e fs x y n0 _ s hC1 hs hn0 hwt Z bs q S1 hZ).mono ?_); rintro e' wR ⟨⟨A1, c1, rfl, hsl, hc1, hc2⟩, hCR, hTR⟩; have GL := hTR.blk G1 hnm; obtain ⟨y0, y1, y2, y3⟩ : _ ∧ _ ∧ _ ∧ _ := ⟨GL.cell_ 0, GL.cell_ 1, GL.cell_ 2, GL.cell_ 3⟩; simp at y0 y1 y2 y3; have y9 := GL.free; have HTW := (Tch.of_below (S := fun g => g = mR) hB0).trans hTR))
  obtain ⟨wz, hwz⟩ : ∃ V : World, V = st4 wR (w.heap.size + 1) (.int .i64 0) (.int .i64 0) (.int .i64 0) (.int .i64 0) := ⟨_, rfl⟩
  have HZ := st4_blk GL (.int .i64 0) (.int .i64 0) (.int .i64 0) (.int .i64 0)
  have TZ := st4_tch wR (w.heap.size + 1) (.int .i64 0) (.int .i64 0) (.int .i64 0) (.int .i64 0)
  rw [← hwz] at HZ TZ
  show bodyPost _ _ _ _ _ (st4 wR (w.heap.size + 1) (.int .i64 0) (.int .i64 0) (.int .i64 0) (.int .i64 0))
  rw [← hwz]
  have r0 := HZ.cell_ 0
  have r1 := HZ.cell_ 1
  have r2 := HZ.cell_ 2
  have r3 := HZ.cell_ 3
  simp at r0 r1 r2 r3
  have hTz : Tch (fun g => g = mR) w wz := ((HTW.mono (S' := fun g => g = mR ∨ w.heap.size ≤ g) (fun g hg => Or.inl hg)).trans (TZ.mono (fun g hg => by subst hg; exact Or.inr (Nat.le_succ _)))).monoL (fun g hg h => by rcases h with h | h; exact h; omega)
  have hRz : RefW wz mR gB gN gW gD L AfR nfR cfR a b c d e fs S1 := hC.store hCR (by rw [← hZ.out.2.2.2]; exact readS_X s a b x y) (by rw [← hZ.out.2.2.2]; exact readS_K s a b x y) hTz (TZ.far mR hCR.lt (by omega))
  exact bodyPost_ret (v := .tuple #[.slice none 0 0, .agg #[.int .i64 0, .int .i64 0, .int .i64 0, .int .i64 0], .int .i64 Z]) (by simp [results, Try.results11, go_sem, r0, r1, r2, r3]) rfl ⟨rfl, hRz, hTz⟩
end Go.Proofs.Ytcpniplfkillbaa
namespace Go.Proofs.Ytcpniplfkillbaa
open Go.ChangeShapes Go.WideShapes Go.ChangeAt Go.RowKit
attribute [local go_sem ↓] Go.wp_at_zero Go.wp_at_succ
theorem rload_bad (mR gB gN gW gD L : Nat) (AfR : Option Addr) (nfR cfR : Nat) (a b c d e : Int) (fs : List Flt) (x y n0 : Int) (w : World) (s : ChS) (hC : RefW w mR gB gN gW gD L AfR nfR cfR a b c d e fs s) (hs : Fine s n0) (hn0 : n0 ≤ 900000000) (hwt : s.Wt) (D : List Nat) (n K P S E st : Nat) (bs : List Nat) (q : Nat) (S1 : ChS) (hZ : Hid (s.readZ a b x y = 0 ∧ s.readB a b c x y = bs ∧ bs.length = q ∧ s.readS a b x y = S1)) (hq9 : q ≤ 1000000) (h8 : Bytes8 bs) (hk : Hid (Lk bs D n K P S E st)) (hne : st ≠ 1) :
    Calls Try.prog 11 #[.pointer (some ⟨mR, 0, none⟩), .agg #[.int .i64 x, .int .i64 y]] w fun e' w' => e' = .returned (.tuple #[.slice none 0 0, .agg #[.int .i64 0, .int .i64 0, .int .i64 0, .int .i64 0], .int .i64 5]) ∧ RefW w' mR gB gN gW gD L AfR nfR cfR a b c d e fs S1 ∧ Tch (fun g => g = mR) w w' := by
  have hq : Hid (bs.length = q) := Lib.hid hZ.out.2.2.1
  have hB0 : Below w.heap.size w ((w.alloc (.cells #[.int .i64 x, .int .i64 y] 27)).alloc (.cells #[.int .i64 0, .int .i64 0, .int .i64 0, .int .i64 0] 40)) := ((Below.refl _ _).alloc (Nat.le_refl _) _).alloc (by simp) _
  have hC1 := hC.below hB0
  have hmw := hC.lt
  have hnm : ¬ (w.heap.size + 1 = mR) := by omega
  have G1 : Blk ((w.alloc (.cells #[.int .i64 x, .int .i64 y] 27)).alloc (.cells #[.int .i64 0, .int .i64 0, .int .i64 0, .int .i64 0] 40)) (w.heap.size + 1) 40 #[.int .i64 0, .int .i64 0, .int .i64 0, .int .i64 0] := blk_new (by simp)
  have hst1 : ((st : Int) == 1) = false := by simp; omega
  go_enter Try.func11, Try.ntmps11
  go_wp2_with (first | (go_at_call 35; ((with_reducible refine (rread_Z2 mR gB gN gW gD L AfR nfR cfR a b c d e fs x y n0 _ s hC1 hs hn0 hwt 0 bs q S1 hZ).mono ?_); rintro e' wR ⟨⟨A1, c1, rfl, hsl, hc1, hc2⟩, hCR, hTR⟩; have GL := hTR.blk G1 hnm; have HTW := (Tch.of_below (S := fun g => g = mR) hB0).trans hTR)) | (go_at_call 36; ((with_reducible refine (rread_bad bs q hq.out A1 c1 _ hsl h8 hc1 hc2 hq9 st hk.out.st hne).mono ?_); rintro e' wT ⟨rfl, hbT⟩; have GL := (GL.below hbT GL.lt).alloc_ (.cells #[.int .i64 0, .int .i64 0, .int .i64 0, .int .i64 0] 40); obtain ⟨y0, y1, y2, y3⟩ : _ ∧ _ ∧ _ ∧ _ := ⟨GL.cell_ 0, GL.cell_ 1, GL.cell_ 2, GL.cell_ 3⟩; simp at y0 y1 y2 y3; have y9 := GL.free; have HTW := (HTW.then hbT).then ((Below.refl _ _).alloc (Nat.le_refl _) (.cells #[.int .i64 0, .int .i64 0, .int .i64 0, .int .i64 0] 40)); have hCR := (hCR.below hbT).below ((Below.refl _ _).alloc (Nat.le_refl _) (.cells #[.int .i64 0, .int .i64 0, .int .i64 0, .int .i64 0] 40)))))
  obtain ⟨wA, hwA⟩ : ∃ V : World, V = wT.alloc (.cells #[.int .i64 0, .int .i64 0, .int .i64 0, .int .i64 0] 40) := ⟨_, rfl⟩
  rw [← hwA] at GL HTW hCR
  show bodyPost _ _ _ _ _ (st4 (wT.alloc (.cells #[.int .i64 0, .int .i64 0, .int .i64 0, .int .i64 0] 40)) (w.heap.size + 1) (.int .i64 0) (.int .i64 0) (.int .i64 0) (.int .i64 0))
  rw [← hwA]
  have HZ : Blk (st4 wA (w.heap.size + 1) (.int .i64 0) (.int .i64 0) (.int .i64 0) (.int .i64 0)) (w.heap.size + 1) 40 _ := st4_blk GL (.int .i64 0) (.int .i64 0) (.int .i64 0) (.int .i64 0)
  have TZ := st4_tch wA (w.heap.size + 1) (.int .i64 0) (.int .i64 0) (.int .i64 0) (.int .i64 0)
  have hTz0 : Tch (fun g => g = mR) w (st4 wA (w.heap.size + 1) (.int .i64 0) (.int .i64 0) (.int .i64 0) (.int .i64 0)) := ((HTW.mono (S' := fun g => g = mR ∨ w.heap.size ≤ g) (fun g hg => Or.inl hg)).trans (TZ.mono (fun g hg => by subst hg; exact Or.inr (Nat.le_succ _)))).monoL (fun g hg h => by rcases h with h | h; exact h; omega)
  have hRz0 : RefW (st4 wA (w.heap.size + 1) (.int .i64 0) (.int .i64 0) (.int .i64 0) (.int .i64 0)) mR gB gN gW gD L AfR nfR cfR a b c d e fs S1 := hC.store hCR (by rw [← hZ.out.2.2.2]; exact readS_X s a b x y) (by rw [← hZ.out.2.2.2]; exact readS_K s a b x y) hTz0 (TZ.far mR hCR.lt (by omega))
  have hTz : Tch (fun g => g = mR) w (st4 wA (w.heap.size + 1) (.int .i64 0) (.int .i64 0) (.int .i64 0) (.int .i64 0)) := hTz0
  have hRz : RefW (st4 wA (w.heap.size + 1) (.int .i64 0) (.int .i64 0) (.int .i64 0) (.int .i64 0)) mR gB gN gW gD L AfR nfR cfR a b c d e fs S1 := hRz0
  have r0 := HZ.cell_ 0
  have r1 := HZ.cell_ 1
  have r2 := HZ.cell_ 2
  have r3 := HZ.cell_ 3
  simp at r0 r1 r2 r3
  exact bodyPost_ret (v := .tuple #[.slice none 0 0, .agg #[.int .i64 0, .int .i64 0, .int .i64 0, .int .i64 0], .int .i64 5]) (by simp [results, Try.results11, go_sem, r0, r1, r2, r3]) rfl ⟨rfl, hRz, hTz⟩
theorem rload_yes (mR gB gN gW gD L : Nat) (AfR : Option Addr) (nfR cfR : Nat) (a b c d e : Int) (fs : List Flt) (x y n0 : Int) (w : World) (s : ChS) (hC : RefW w mR gB gN gW gD L AfR nfR cfR a b c d e fs s) (hs : Fine s n0) (hn0 : n0 ≤ 900000000) (hwt : s.Wt) (D : List Nat) (n K P S E : Nat) (bs : List Nat) (q : Nat) (S1 : ChS) (hZ : Hid (s.readZ a b x y = 0 ∧ s.readB a b c x y = bs ∧ bs.length = q ∧ s.readS a b x y = S1)) (hq9 : q ≤ 1000000) (h8 : Bytes8 bs) (hk : Hid (Lk bs D n K P S E 1)) :
    Calls Try.prog 11 #[.pointer (some ⟨mR, 0, none⟩), .agg #[.int .i64 x, .int .i64 y]] w fun e' w' => (∃ A' c', e' = .returned (.tuple #[.slice A' n c', .agg #[.int .i64 (K : Nat), .int .i64 (P : Nat), .int .i64 (S : Nat), .int .i64 (E : Nat)], .int .i64 0]) ∧ w'.ownsRow w.heap.size 5 1 (.slice A' n c') n (D.map byteV)) ∧ RefW w' mR gB gN gW gD L AfR nfR cfR a b c d e fs S1 ∧ Tch (fun g => g = mR) w w' := by
  have hq : Hid (bs.length = q) := Lib.hid hZ.out.2.2.1
  have hB0 : Below w.heap.size w ((w.alloc (.cells #[.int .i64 x, .int .i64 y] 27)).alloc (.cells #[.int .i64 0, .int .i64 0, .int .i64 0, .int .i64 0] 40)) := ((Below.refl _ _).alloc (Nat.le_refl _) _).alloc (by simp) _
  have hC1 := hC.below hB0
  have hmw := hC.lt
  have hnm : ¬ (w.heap.size + 1 = mR) := by omega
  have G1 : Blk ((w.alloc (.cells #[.int .i64 x, .int .i64 y] 27)).alloc (.cells #[.int .i64 0, .int .i64 0, .int .i64 0, .int .i64 0] 40)) (w.heap.size + 1) 40 #[.int .i64 0, .int .i64 0, .int .i64 0, .int .i64 0] := blk_new (by simp)
  go_enter Try.func11, Try.ntmps11
  go_upto_region 7 with (first | (go_at_call 35; ((with_reducible refine (rread_Z2 mR gB gN gW gD L AfR nfR cfR a b c d e fs x y n0 _ s hC1 hs hn0 hwt 0 bs q S1 hZ).mono ?_); rintro e' wR ⟨⟨A1, c1, rfl, hsl, hc1, hc2⟩, hCR, hTR⟩; have GL := hTR.blk G1 hnm; have HTW := (Tch.of_below (S := fun g => g = mR) hB0).trans hTR)) | (go_at_call 36; ((with_reducible refine (rtread_any bs D n K P S E 1 hk.out q hq.out A1 c1 _ hsl h8 hc1 hc2 hq9).mono ?_); rintro e' wT ⟨⟨A2, c2, rfl, hoT⟩, hbT⟩; have hgR := GL.lt; have GL := GL.below hbT GL.lt; have HTW := HTW.then hbT; have hCR := hCR.below hbT)))
  obtain ⟨wA, hwA⟩ : ∃ V : World, V = wT.alloc (.cells #[.int .i64 (K : Nat), .int .i64 (P : Nat), .int .i64 (S : Nat), .int .i64 (E : Nat)] 40) := ⟨_, rfl⟩
  have hbA : Below wT.heap.size wT wA := by rw [hwA]; exact (Below.refl _ _).alloc (Nat.le_refl _) _
  have HP : Blk wA wT.heap.size 40 #[.int .i64 (K : Nat), .int .i64 (P : Nat), .int .i64 (S : Nat), .int .i64 (E : Nat)] := by rw [hwA]; exact Blk.new_ _ _ _
  rw [← hwA]
  clear hwA
  have hgT : w.heap.size + 1 < wT.heap.size := GL.lt
  replace GL := GL.below hbA GL.lt
  replace HTW := HTW.then hbA
  replace hCR := hCR.below hbA
  have hoA := own_below hoT hbA
  obtain ⟨y0, y1, y2, y3⟩ : _ ∧ _ ∧ _ ∧ _ := ⟨GL.cell_ 0, GL.cell_ 1, GL.cell_ 2, GL.cell_ 3⟩
  simp at y0 y1 y2 y3
  have y9 := GL.free
  obtain ⟨p0, p1, p2, p3⟩ : _ ∧ _ ∧ _ ∧ _ := ⟨HP.cell_ 0, HP.cell_ 1, HP.cell_ 2, HP.cell_ 3⟩
  simp at p0 p1 p2 p3
  have HP4 := st4_far HP (show wT.heap.size ≠ w.heap.size + 1 by omega) (.int .i64 (K : Nat)) (.int .i64 (P : Nat)) (.int .i64 (S : Nat)) (.int .i64 (E : Nat))
  obtain ⟨q0, q1, q2, q3⟩ : _ ∧ _ ∧ _ ∧ _ := ⟨HP4.cell_ 0, HP4.cell_ 1, HP4.cell_ 2, HP4.cell_ 3⟩
  simp at q0 q1 q2 q3
  have hsR := HTW.size
  have hoZ : (World.drew (st4 wA (w.heap.size + 1) (.int .i64 (K : Nat)) (.int .i64 (P : Nat)) (.int .i64 (S : Nat)) (.int .i64 (E : Nat)))).ownsRow w.heap.size 5 1 (.slice A2 n c2) n (D.map byteV) := own_base (st4_own (g := w.heap.size + 1) hoA (show w.heap.size + 1 < wR.heap.size from hgR) (.int .i64 (K : Nat)) (.int .i64 (P : Nat)) (.int .i64 (S : Nat)) (.int .i64 (E : Nat))) (show w.heap.size ≤ wR.heap.size by omega)
  have HZ : Blk (World.drew (st4 wA (w.heap.size + 1) (.int .i64 (K : Nat)) (.int .i64 (P : Nat)) (.int .i64 (S : Nat)) (.int .i64 (E : Nat)))) (w.heap.size + 1) 40 _ := st4_blk GL (.int .i64 (K : Nat)) (.int .i64 (P : Nat)) (.int .i64 (S : Nat)) (.int .i64 (E : Nat))
  have TZ := st4_tch wA (w.heap.size + 1) (.int .i64 (K : Nat)) (.int .i64 (P : Nat)) (.int .i64 (S : Nat)) (.int .i64 (E : Nat))
  have hTz0 : Tch (fun g => g = mR) w (st4 wA (w.heap.size + 1) (.int .i64 (K : Nat)) (.int .i64 (P : Nat)) (.int .i64 (S : Nat)) (.int .i64 (E : Nat))) := ((HTW.mono (S' := fun g => g = mR ∨ w.heap.size ≤ g) (fun g hg => Or.inl hg)).trans (TZ.mono (fun g hg => by subst hg; exact Or.inr (Nat.le_succ _)))).monoL (fun g hg h => by rcases h with h | h; exact h; omega)
  have hRz0 : RefW (st4 wA (w.heap.size + 1) (.int .i64 (K : Nat)) (.int .i64 (P : Nat)) (.int .i64 (S : Nat)) (.int .i64 (E : Nat))) mR gB gN gW gD L AfR nfR cfR a b c d e fs S1 := hC.store hCR (by rw [← hZ.out.2.2.2]; exact readS_X s a b x y) (by rw [← hZ.out.2.2.2]; exact readS_K s a b x y) hTz0 (TZ.far mR hCR.lt (by omega))
  have hTz : Tch (fun g => g = mR) w (World.drew (st4 wA (w.heap.size + 1) (.int .i64 (K : Nat)) (.int .i64 (P : Nat)) (.int .i64 (S : Nat)) (.int .i64 (E : Nat)))) := hTz0.like
  have hRz : RefW (World.drew (st4 wA (w.heap.size + 1) (.int .i64 (K : Nat)) (.int .i64 (P : Nat)) (.int .i64 (S : Nat)) (.int .i64 (E : Nat)))) mR gB gN gW gD L AfR nfR cfR a b c d e fs S1 := hRz0.like
  have r0 : (World.drew (st4 wA (w.heap.size + 1) (.int .i64 (K : Nat)) (.int .i64 (P : Nat)) (.int .i64 (S : Nat)) (.int .i64 (E : Nat)))).cell? ⟨w.heap.size + 1, 0, none⟩ = some (.int .i64 (K : Nat)) := HZ.cell_ 0
  have r1 : (World.drew (st4 wA (w.heap.size + 1) (.int .i64 (K : Nat)) (.int .i64 (P : Nat)) (.int .i64 (S : Nat)) (.int .i64 (E : Nat)))).cell? ⟨w.heap.size + 1, 1, none⟩ = some (.int .i64 (P : Nat)) := HZ.cell_ 1
  have r2 : (World.drew (st4 wA (w.heap.size + 1) (.int .i64 (K : Nat)) (.int .i64 (P : Nat)) (.int .i64 (S : Nat)) (.int .i64 (E : Nat)))).cell? ⟨w.heap.size + 1, 2, none⟩ = some (.int .i64 (S : Nat)) := HZ.cell_ 2
  have r3 : (World.drew (st4 wA (w.heap.size + 1) (.int .i64 (K : Nat)) (.int .i64 (P : Nat)) (.int .i64 (S : Nat)) (.int .i64 (E : Nat)))).cell? ⟨w.heap.size + 1, 3, none⟩ = some (.int .i64 (E : Nat)) := HZ.cell_ 3
  obtain ⟨wz, hwz⟩ : ∃ V : World, V = World.drew (st4 wA (w.heap.size + 1) (.int .i64 (K : Nat)) (.int .i64 (P : Nat)) (.int .i64 (S : Nat)) (.int .i64 (E : Nat))) := ⟨_, rfl⟩
  rw [← hwz] at hRz hTz hoZ r0 r1 r2 r3
  clear HZ TZ hTz0 hRz0 HP4
  refine wp_region_noPanic ?_
  refine wp_region_held_drew (S := (fun w' => w'.cell? ⟨wT.heap.size, 0, none⟩ = some (.int .i64 (K : Nat)) ∧ w'.cell? ⟨wT.heap.size, 1, none⟩ = some (.int .i64 (P : Nat)) ∧ w'.cell? ⟨wT.heap.size, 2, none⟩ = some (.int .i64 (S : Nat)) ∧ w'.cell? ⟨wT.heap.size, 3, none⟩ = some (.int .i64 (E : Nat)))) (by kernel_rfl) ?_ (fun hHeld => ?_)
  · (first | with_reducible exact ⟨p0, p1, p2, p3⟩ | exact ⟨q0, q1, q2, q3⟩ | assumption | exact ⟨p0, p1, p2, p3⟩)
  refine tk 0 ⟨some 31, .move (.tmp 9), 38, "ref.go:31", #[], none⟩ ?_; try simp only [Act.put, pz1, pz2, pz3]
  refine tk 1 ⟨some 32, .load 40 (.tmp 10), 40, "ref.go:31", #[{ on := 2, ground := Ground.gcOnly Departure.lateStores }], none⟩ ?_; try simp only [Act.put, pz1, pz2, pz3]
  refine tk 2 ⟨some 4, .assign (.tmp 31), 38, "ref.go:31", #[⟨0, .data⟩, ⟨0, .phase⟩, { on := 1, ground := Ground.textOnly Departure.lateStores }], none⟩ ?_; try simp only [Act.put, pz1, pz2, pz3]
  refine wpAnyH_ready (rs := [3]) (by kernel_rfl) (by simp) ?_
  refine AllReadyH.cons (o := ⟨none, .store 40 (.tmp 5) (.tmp 32), 0, "ref.go:31", #[⟨1, .data⟩, ⟨2, .chain⟩, ⟨0, .phase⟩, ⟨1, .phase⟩, ⟨2, .phase⟩], none⟩) rfl (fun K hK => ?_) AllReadyH.nil
  go_simp
  refine hK.out _ _ ?_ (fun hNew => ?_)
  · (first | with_reducible exact ⟨p0, p1, p2, p3⟩ | exact ⟨q0, q1, q2, q3⟩ | assumption | exact ⟨p0, p1, p2, p3⟩)
  clear hK K hHeld
  have hHeld := hNew
  clear hNew
  try simp only [Act.put, pz1, pz2, pz3]
  refine tk 4 ⟨some 6, .assign (.const (.int .i64 0)), 3, "ref.go:31", #[⟨3, .chain⟩, ⟨0, .phase⟩, ⟨1, .phase⟩, ⟨2, .phase⟩, ⟨3, .phase⟩], none⟩ ?_; try simp only [Act.put, pz1, pz2, pz3]
  refine wpAnyH_done (by kernel_rfl) ?_ _
  refine NoPanic.normal ?_
  clear hHeld
  go_wp2_with fail
  show bodyPost _ _ _ _ _ (World.drew (st4 wA (w.heap.size + 1) (.int .i64 (K : Nat)) (.int .i64 (P : Nat)) (.int .i64 (S : Nat)) (.int .i64 (E : Nat))))
  rw [← hwz]
  refine bodyPost_ret (v := .tuple #[.slice A2 n c2, .agg #[.int .i64 (K : Nat), .int .i64 (P : Nat), .int .i64 (S : Nat), .int .i64 (E : Nat)], .int .i64 0]) (by simp [results, Try.results11, go_sem, r0, r1, r2, r3]) rfl ⟨⟨_, _, rfl, hoZ⟩, hRz, hTz⟩
end Go.Proofs.Ytcpniplfkillbaa
namespace Go.Proofs.Ytcpniplfkillbaa
open Go.ChangeShapes Go.WideShapes Go.ChangeAt Go.RowKit
attribute [local go_sem ↓] Go.wp_at_zero Go.wp_at_succ
theorem state_no (m gx gb : Nat) (Af : Option Addr) (nf cf : Nat) (a b c d e : Int) (fs : List Flt) (x y : Int) (n0 : Int) (w : World) (s : ChS) (hC : ChipW w m gx gb Af nf cf a b c d e fs s) (hs : Fine s n0) (hn0 : n0 ≤ 900000000) (Z : Int) (S1 : ChS) (hZ : Hid (s.readZ a b x y = Z ∧ True ∧ s.readS a b x y = S1)) (hne : Z ≠ 0) :
    Calls Try.prog 8 #[.pointer (some ⟨m, 0, none⟩), .agg #[.int .i64 x, .int .i64 y]] w fun e' w' => e' = .returned (.tuple #[.int .i64 0, .int .i64 Z]) ∧ ChipW w' m gx gb Af nf cf a b c d e fs S1 ∧ Tch (chB m gx gb) w w' := by
  have hB0 : Below w.heap.size w (w.alloc (.cells #[.int .i64 x, .int .i64 y] 27)) := (Below.refl _ _).alloc (Nat.le_refl _) _
  have hC1 := hC.below hB0
  go_enter Try.func8, Try.ntmps8
  go_wp2_with (go_at_call 34; ((with_reducible refine (look_no m gx gb Af nf cf a b c d e fs x y n0 _ s hC1 hs hn0 Z S1 hZ hne).mono ?_); rintro e' wL ⟨rfl, hCL, hTL⟩; have hTL2 := (Tch.of_below (S := chB m gx gb) hB0).trans hTL))
  go_ret2
  exact ⟨rfl, hCL.below ((Below.refl _ _).alloc (Nat.le_refl _) _), hTL2.then ((Below.refl _ _).alloc (Nat.le_refl _) _)⟩
theorem load_bad (m gx gb : Nat) (Af : Option Addr) (nf cf : Nat) (a b c d e : Int) (fs : List Flt) (x y : Int) (n0 : Int) (w : World) (s : ChS) (hC : ChipW w m gx gb Af nf cf a b c d e fs s) (hs : Fine s n0) (hn0 : n0 ≤ 900000000) (D : List Nat) (n K P S E st : Nat) (S1 : ChS) (bs : List Nat) (h8 : Bytes8 bs) (hl : bs.length ≤ 1000000) (hZ : Hid (s.readZ a b x y = 0 ∧ s.readB a b c x y = bs ∧ s.readS a b x y = S1)) (hk : Hid (Lk bs D n K P S E st)) (hst : st ≠ 1) :
    Calls Try.prog 10 #[.pointer (some ⟨m, 0, none⟩), .agg #[.int .i64 x, .int .i64 y]] w fun e' w' => (∃ A' c', e' = .returned (.tuple #[.slice A' n c', .agg #[.int .i64 (K : Nat), .int .i64 (P : Nat), .int .i64 (S : Nat), .int .i64 (E : Nat)], .int .i64 5]) ∧ w'.ownsRow w.heap.size 5 1 (.slice A' n c') n (D.map byteV)) ∧ ChipW w' m gx gb Af nf cf a b c d e fs S1 ∧ Tch (chB m gx gb) w w' := by
  have hB0 : Below w.heap.size w ((w.alloc (.cells #[.int .i64 x, .int .i64 y] 27)).alloc (.cells #[.int .i64 0, .int .i64 0, .int .i64 0, .int .i64 0] 40)) := ((Below.refl _ _).alloc (Nat.le_refl _) _).alloc (by simp) _
  have hC1 := hC.below hB0
  have G1 : Blk ((w.alloc (.cells #[.int .i64 x, .int .i64 y] 27)).alloc (.cells #[.int .i64 0, .int .i64 0, .int .i64 0, .int .i64 0] 40)) (w.heap.size + 1) 40 #[.int .i64 0, .int .i64 0, .int .i64 0, .int .i64 0] := blk_new (by simp)
  have hnt : ¬ chB m gx gb (w.heap.size + 1) := fun e => by have := hC.lt; rcases e with e | e | e <;> omega
  have hq : ((st : Int) == 1) = false := by simp; omega
  go_enter Try.func10, Try.ntmps10
  go_upto_region 4 with (go_at_call 34; ((with_reducible refine (look_yes m gx gb Af nf cf a b c d e fs x y n0 _ s hC1 hs hn0 D n K P S E st S1 bs h8 hl hZ hk).mono ?_); rintro e' wL ⟨⟨A2, c2, rfl, hoL⟩, hCL, hTL⟩; have hTL2 := (Tch.of_below (S := chB m gx gb) hB0).trans hTL; have GL := hTL.blk G1 hnt; have hszL := hTL.size))
  have HCN := (ChN.start hC).next hCL
  obtain ⟨wP, hwP⟩ : ∃ V : World, V = wL.alloc (.cells #[.slice A2 n c2, .int .i64 (K : Nat), .int .i64 (P : Nat), .int .i64 (S : Nat), .int .i64 (E : Nat), .int .i64 (st : Nat)] 83) := ⟨_, rfl⟩
  have HP : Blk wP wL.heap.size 83 #[.slice A2 n c2, .int .i64 (K : Nat), .int .i64 (P : Nat), .int .i64 (S : Nat), .int .i64 (E : Nat), .int .i64 (st : Nat)] := by rw [hwP]; exact Blk.new_ _ _ _
  have GP : Blk wP (w.heap.size + 1) 40 #[.int .i64 0, .int .i64 0, .int .i64 0, .int .i64 0] := by rw [hwP]; exact GL.alloc_ _
  have hBP : Below wL.heap.size wL wP := by rw [hwP]; exact (Below.refl _ _).alloc (Nat.le_refl _) _
  rw [← hwP]
  clear hwP
  have gz := GP.free
  obtain ⟨z0, z1, z2, z3⟩ : _ ∧ _ ∧ _ ∧ _ := ⟨GP.cell_ 0, GP.cell_ 1, GP.cell_ 2, GP.cell_ 3⟩
  simp at z0 z1 z2 z3
  obtain ⟨p0, p1, p2, p3, p4, p5⟩ := cells6 HP
  have hgL := GL.lt
  have HP4 := st4_far HP (show wL.heap.size ≠ w.heap.size + 1 by omega) (.int .i64 (K : Nat)) (.int .i64 (P : Nat)) (.int .i64 (S : Nat)) (.int .i64 (E : Nat))
  obtain ⟨q0, q1, q2, q3, q4, q5⟩ := cells6 HP4
  have HT4 := st4_blk GP (.int .i64 (K : Nat)) (.int .i64 (P : Nat)) (.int .i64 (S : Nat)) (.int .i64 (E : Nat))
  have HO4 := st4_own (g := w.heap.size + 1) (own_below hoL hBP) (show w.heap.size + 1 < ((w.alloc (.cells #[.int .i64 x, .int .i64 y] 27)).alloc (.cells #[.int .i64 0, .int .i64 0, .int .i64 0, .int .i64 0] 40)).heap.size by simp) (.int .i64 (K : Nat)) (.int .i64 (P : Nat)) (.int .i64 (S : Nat)) (.int .i64 (E : Nat))
  have HB4 : Below w.heap.size wP (st4 wP (w.heap.size + 1) (.int .i64 (K : Nat)) (.int .i64 (P : Nat)) (.int .i64 (S : Nat)) (.int .i64 (E : Nat))) := st4_below (Below.refl _ _) (by omega) (.int .i64 (K : Nat)) (.int .i64 (P : Nat)) (.int .i64 (S : Nat)) (.int .i64 (E : Nat))
  obtain ⟨wz, hwz⟩ : ∃ V : World, V = World.drew (st4 wP (w.heap.size + 1) (.int .i64 (K : Nat)) (.int .i64 (P : Nat)) (.int .i64 (S : Nat)) (.int .i64 (E : Nat))) := ⟨_, rfl⟩
  have TZ := st4_tch wP (w.heap.size + 1) (.int .i64 (K : Nat)) (.int .i64 (P : Nat)) (.int .i64 (S : Nat)) (.int .i64 (E : Nat))
  have hCZ0 := ((HCN.below_ (hBP.mono (Nat.le_refl _))).far TZ (fun g hg => by subst hg; omega)).chip
  have hCZ : ChipW (World.drew (st4 wP (w.heap.size + 1) (.int .i64 (K : Nat)) (.int .i64 (P : Nat)) (.int .i64 (S : Nat)) (.int .i64 (E : Nat)))) m gx gb Af nf cf a b c d e fs S1 := hCZ0.like
  have hTZ0 : Tch (chB m gx gb) w (st4 wP (w.heap.size + 1) (.int .i64 (K : Nat)) (.int .i64 (P : Nat)) (.int .i64 (S : Nat)) (.int .i64 (E : Nat))) := (((hTL2.then hBP).mono (S' := fun g => chB m gx gb g ∨ w.heap.size ≤ g) (fun g hg => Or.inl hg)).trans (TZ.mono (fun g hg => by subst hg; exact Or.inr (Nat.le_succ _)))).monoL (fun g hg h => by rcases h with h | h; exact h; omega)
  have hTZ : Tch (chB m gx gb) w (World.drew (st4 wP (w.heap.size + 1) (.int .i64 (K : Nat)) (.int .i64 (P : Nat)) (.int .i64 (S : Nat)) (.int .i64 (E : Nat)))) := hTZ0.like
  have hoZ : (World.drew (st4 wP (w.heap.size + 1) (.int .i64 (K : Nat)) (.int .i64 (P : Nat)) (.int .i64 (S : Nat)) (.int .i64 (E : Nat)))).ownsRow w.heap.size 5 1 (.slice A2 n c2) n (D.map byteV) := own_base HO4 (show w.heap.size ≤ ((w.alloc (.cells #[.int .i64 x, .int .i64 y] 27)).alloc (.cells #[.int .i64 0, .int .i64 0, .int .i64 0, .int .i64 0] 40)).heap.size by simp; omega)
  have HT5 : Blk (World.drew (st4 wP (w.heap.size + 1) (.int .i64 (K : Nat)) (.int .i64 (P : Nat)) (.int .i64 (S : Nat)) (.int .i64 (E : Nat)))) (w.heap.size + 1) 40 _ := HT4
  have r0 : (World.drew (st4 wP (w.heap.size + 1) (.int .i64 (K : Nat)) (.int .i64 (P : Nat)) (.int .i64 (S : Nat)) (.int .i64 (E : Nat)))).cell? ⟨w.heap.size + 1, 0, none⟩ = some (.int .i64 (K : Nat)) := HT5.cell_ 0
  have r1 : (World.drew (st4 wP (w.heap.size + 1) (.int .i64 (K : Nat)) (.int .i64 (P : Nat)) (.int .i64 (S : Nat)) (.int .i64 (E : Nat)))).cell? ⟨w.heap.size + 1, 1, none⟩ = some (.int .i64 (P : Nat)) := HT5.cell_ 1
  have r2 : (World.drew (st4 wP (w.heap.size + 1) (.int .i64 (K : Nat)) (.int .i64 (P : Nat)) (.int .i64 (S : Nat)) (.int .i64 (E : Nat)))).cell? ⟨w.heap.size + 1, 2, none⟩ = some (.int .i64 (S : Nat)) := HT5.cell_ 2
  have r3 : (World.drew (st4 wP (w.heap.size + 1) (.int .i64 (K : Nat)) (.int .i64 (P : Nat)) (.int .i64 (S : Nat)) (.int .i64 (E : Nat)))).cell? ⟨w.heap.size + 1, 3, none⟩ = some (.int .i64 (E : Nat)) := HT5.cell_ 3
  rw [← hwz] at hCZ hTZ hoZ r0 r1 r2 r3
  clear HO4 HB4 TZ HP4 HT4 HT5 hCZ0 hTZ0
  refine wp_region_noPanic ?_
  refine wp_region_held_drew (S := (fun w' => w'.cell? ⟨wL.heap.size, 0, none⟩ = some (.slice A2 n c2) ∧ w'.cell? ⟨wL.heap.size, 1, none⟩ = some (.int .i64 (K : Nat)) ∧ w'.cell? ⟨wL.heap.size, 2, none⟩ = some (.int .i64 (P : Nat)) ∧ w'.cell? ⟨wL.heap.size, 3, none⟩ = some (.int .i64 (S : Nat)) ∧ w'.cell? ⟨wL.heap.size, 4, none⟩ = some (.int .i64 (E : Nat)) ∧ w'.cell? ⟨wL.heap.size, 5, none⟩ = some (.int .i64 (st : Nat)))) (by kernel_rfl) ?_ (fun hHeld => ?_)
  · (first | with_reducible exact ⟨p0, p1, p2, p3, p4, p5⟩ | exact ⟨q0, q1, q2, q3, q4, q5⟩ | assumption | exact ⟨p0, p1, p2, p3, p4, p5⟩)
  refine tk 0 ⟨some 22, .fieldAddr 83 (.tmp 7) 0, 0, "leaf.go:39", #[], none⟩ ?_; try simp only [Act.put, pz1, pz2, pz3]
  refine tk 1 ⟨some 23, .load 38 (.tmp 22), 38, "leaf.go:39", #[⟨0, .data⟩], none⟩ ?_; try simp only [Act.put, pz1, pz2, pz3]
  refine tk 2 ⟨some 24, .fieldAddr 83 (.tmp 7) 1, 0, "leaf.go:39", #[{ on := 5, ground := Ground.gcOnly Departure.lateStores }], none⟩ ?_; try simp only [Act.put, pz1, pz2, pz3]
  refine tk 3 ⟨some 25, .load 40 (.tmp 24), 40, "leaf.go:39", #[⟨2, .data⟩, { on := 5, ground := Ground.gcOnly Departure.lateStores }], none⟩ ?_; try simp only [Act.put, pz1, pz2, pz3]
  refine tk 4 ⟨some 26, .move (.tmp 8), 33, "leaf.go:39", #[{ on := 6, ground := Ground.gcOnly Departure.lateStores }], none⟩ ?_; try simp only [Act.put, pz1, pz2, pz3]
  refine tk 5 ⟨some 4, .assign (.tmp 23), 38, "leaf.go:39", #[⟨1, .data⟩, ⟨0, .phase⟩, ⟨1, .phase⟩, { on := 2, ground := Ground.textOnly Departure.lateStores }, { on := 3, ground := Ground.textOnly Departure.lateStores }, { on := 4, ground := Ground.textOnly Departure.lateStores }], none⟩ ?_; try simp only [Act.put, pz1, pz2, pz3]
  refine wpAnyH_ready (rs := [6]) (by kernel_rfl) (by simp) ?_
  refine AllReadyH.cons (o := ⟨none, .store 40 (.tmp 5) (.tmp 25), 0, "leaf.go:39", #[⟨3, .data⟩, ⟨5, .chain⟩, ⟨0, .phase⟩, ⟨1, .phase⟩, ⟨2, .phase⟩, ⟨3, .phase⟩, { on := 4, ground := Ground.textOnly Departure.lateStores }, ⟨5, .phase⟩], none⟩) rfl (fun K hK => ?_) AllReadyH.nil
  go_simp
  refine hK.out _ _ ?_ (fun hNew => ?_)
  · (first | with_reducible exact ⟨p0, p1, p2, p3, p4, p5⟩ | exact ⟨q0, q1, q2, q3, q4, q5⟩ | assumption | exact ⟨p0, p1, p2, p3, p4, p5⟩)
  clear hK K hHeld
  have hHeld := hNew
  clear hNew
  try simp only [Act.put, pz1, pz2, pz3]
  refine tk 7 ⟨some 6, .assign (.tmp 26), 33, "leaf.go:39", #[⟨4, .data⟩, ⟨6, .chain⟩, ⟨0, .phase⟩, ⟨1, .phase⟩, ⟨2, .phase⟩, ⟨3, .phase⟩, ⟨4, .phase⟩, ⟨5, .phase⟩, ⟨6, .phase⟩], none⟩ ?_; try simp only [Act.put, pz1, pz2, pz3]
  refine wpAnyH_done (by kernel_rfl) ?_ _
  refine NoPanic.normal ?_
  clear hHeld
  go_wp2_with fail
  show bodyPost _ _ _ _ _ (World.drew (st4 wP (w.heap.size + 1) (.int .i64 (K : Nat)) (.int .i64 (P : Nat)) (.int .i64 (S : Nat)) (.int .i64 (E : Nat))))
  rw [← hwz]
  refine bodyPost_ret (v := .tuple #[.slice A2 n c2, .agg #[.int .i64 (K : Nat), .int .i64 (P : Nat), .int .i64 (S : Nat), .int .i64 (E : Nat)], .int .i64 5]) (by simp [results, Try.results10, go_sem, r0, r1, r2, r3]) rfl ⟨⟨_, _, rfl, hoZ⟩, hCZ, hTZ⟩
end Go.Proofs.Ytcpniplfkillbaa
namespace Go.Proofs.Ytcpniplfkillbaa
open Go.ChangeShapes Go.WideShapes Go.ChangeAt Go.RowKit
attribute [local go_sem ↓] Go.wp_at_zero Go.wp_at_succ
theorem load_no (m gx gb : Nat) (Af : Option Addr) (nf cf : Nat) (a b c d e : Int) (fs : List Flt) (x y : Int) (n0 : Int) (w : World) (s : ChS) (hC : ChipW w m gx gb Af nf cf a b c d e fs s) (hs : Fine s n0) (hn0 : n0 ≤ 900000000) (Z : Int) (S1 : ChS) (hZ : Hid (s.readZ a b x y = Z ∧ True ∧ s.readS a b x y = S1)) (hne : Z ≠ 0) :
    Calls Try.prog 10 #[.pointer (some ⟨m, 0, none⟩), .agg #[.int .i64 x, .int .i64 y]] w fun e' w' => e' = .returned (.tuple #[.slice none 0 0, .agg #[.int .i64 0, .int .i64 0, .int .i64 0, .int .i64 0], .int .i64 Z]) ∧ ChipW w' m gx gb Af nf cf a b c d e fs S1 ∧ Tch (chB m gx gb) w w' := by
  have hB0 : Below w.heap.size w ((w.alloc (.cells #[.int .i64 x, .int .i64 y] 27)).alloc (.cells #[.int .i64 0, .int .i64 0, .int .i64 0, .int .i64 0] 40)) := ((Below.refl _ _).alloc (Nat.le_refl _) _).alloc (by simp) _
  have hC1 := hC.below hB0
  have G1 : Blk ((w.alloc (.cells #[.int .i64 x, .int .i64 y] 27)).alloc (.cells #[.int .i64 0, .int .i64 0, .int .i64 0, .int .i64 0] 40)) (w.heap.size + 1) 40 #[.int .i64 0, .int .i64 0, .int .i64 0, .int .i64 0] := blk_new (by simp)
  have hnt : ¬ chB m gx gb (w.heap.size + 1) := fun e => by have := hC.lt; rcases e with e | e | e <;> omega
  have hz1 : (Z == 0) = false := by simpa using hne
  go_enter Try.func10, Try.ntmps10
  go_upto_region 4 with (go_at_call 34; ((with_reducible refine (look_no m gx gb Af nf cf a b c d e fs x y n0 _ s hC1 hs hn0 Z S1 hZ hne).mono ?_); rintro e' wL ⟨rfl, hCL, hTL⟩; have hTL2 := (Tch.of_below (S := chB m gx gb) hB0).trans hTL; have GL := hTL.blk G1 hnt; have hszL := hTL.size))
  have HCN := (ChN.start hC).next hCL
  obtain ⟨wP, hwP⟩ : ∃ V : World, V = wL.alloc (.cells #[.slice none 0 0, .int .i64 0, .int .i64 0, .int .i64 0, .int .i64 0, .int .i64 0] 83) := ⟨_, rfl⟩
  have HP : Blk wP wL.heap.size 83 #[.slice none 0 0, .int .i64 0, .int .i64 0, .int .i64 0, .int .i64 0, .int .i64 0] := by rw [hwP]; exact Blk.new_ _ _ _
  have GP : Blk wP (w.heap.size + 1) 40 #[.int .i64 0, .int .i64 0, .int .i64 0, .int .i64 0] := by rw [hwP]; exact GL.alloc_ _
  have hBP : Below wL.heap.size wL wP := by rw [hwP]; exact (Below.refl _ _).alloc (Nat.le_refl _) _
  rw [← hwP]
  clear hwP
  have gz := GP.free
  obtain ⟨z0, z1, z2, z3⟩ : _ ∧ _ ∧ _ ∧ _ := ⟨GP.cell_ 0, GP.cell_ 1, GP.cell_ 2, GP.cell_ 3⟩
  simp at z0 z1 z2 z3
  obtain ⟨p0, p1, p2, p3, p4, p5⟩ := cells6 HP
  have hgL := GL.lt
  have HP4 := st4_far HP (show wL.heap.size ≠ w.heap.size + 1 by omega) (.int .i64 0) (.int .i64 0) (.int .i64 0) (.int .i64 0)
  obtain ⟨q0, q1, q2, q3, q4, q5⟩ := cells6 HP4
  have HT4 := st4_blk GP (.int .i64 0) (.int .i64 0) (.int .i64 0) (.int .i64 0)
  have HB4 : Below w.heap.size wP (st4 wP (w.heap.size + 1) (.int .i64 0) (.int .i64 0) (.int .i64 0) (.int .i64 0)) := st4_below (Below.refl _ _) (by omega) (.int .i64 0) (.int .i64 0) (.int .i64 0) (.int .i64 0)
  obtain ⟨wz, hwz⟩ : ∃ V : World, V = World.drew (st4 wP (w.heap.size + 1) (.int .i64 0) (.int .i64 0) (.int .i64 0) (.int .i64 0)) := ⟨_, rfl⟩
  have TZ := st4_tch wP (w.heap.size + 1) (.int .i64 0) (.int .i64 0) (.int .i64 0) (.int .i64 0)
  have hCZ0 := ((HCN.below_ (hBP.mono (Nat.le_refl _))).far TZ (fun g hg => by subst hg; omega)).chip
  have hCZ : ChipW (World.drew (st4 wP (w.heap.size + 1) (.int .i64 0) (.int .i64 0) (.int .i64 0) (.int .i64 0))) m gx gb Af nf cf a b c d e fs S1 := hCZ0.like
  have hTZ0 : Tch (chB m gx gb) w (st4 wP (w.heap.size + 1) (.int .i64 0) (.int .i64 0) (.int .i64 0) (.int .i64 0)) := (((hTL2.then hBP).mono (S' := fun g => chB m gx gb g ∨ w.heap.size ≤ g) (fun g hg => Or.inl hg)).trans (TZ.mono (fun g hg => by subst hg; exact Or.inr (Nat.le_succ _)))).monoL (fun g hg h => by rcases h with h | h; exact h; omega)
  have hTZ : Tch (chB m gx gb) w (World.drew (st4 wP (w.heap.size + 1) (.int .i64 0) (.int .i64 0) (.int .i64 0) (.int .i64 0))) := hTZ0.like
  have HT5 : Blk (World.drew (st4 wP (w.heap.size + 1) (.int .i64 0) (.int .i64 0) (.int .i64 0) (.int .i64 0))) (w.heap.size + 1) 40 _ := HT4
  have r0 : (World.drew (st4 wP (w.heap.size + 1) (.int .i64 0) (.int .i64 0) (.int .i64 0) (.int .i64 0))).cell? ⟨w.heap.size + 1, 0, none⟩ = some (.int .i64 0) := HT5.cell_ 0
  have r1 : (World.drew (st4 wP (w.heap.size + 1) (.int .i64 0) (.int .i64 0) (.int .i64 0) (.int .i64 0))).cell? ⟨w.heap.size + 1, 1, none⟩ = some (.int .i64 0) := HT5.cell_ 1
  have r2 : (World.drew (st4 wP (w.heap.size + 1) (.int .i64 0) (.int .i64 0) (.int .i64 0) (.int .i64 0))).cell? ⟨w.heap.size + 1, 2, none⟩ = some (.int .i64 0) := HT5.cell_ 2
  have r3 : (World.drew (st4 wP (w.heap.size + 1) (.int .i64 0) (.int .i64 0) (.int .i64 0) (.int .i64 0))).cell? ⟨w.heap.size + 1, 3, none⟩ = some (.int .i64 0) := HT5.cell_ 3
  rw [← hwz] at hCZ hTZ r0 r1 r2 r3
  clear HB4 TZ HP4 HT4 HT5 hCZ0 hTZ0
  refine wp_region_noPanic ?_
  refine wp_region_held_drew (S := (fun w' => w'.cell? ⟨wL.heap.size, 0, none⟩ = some (.slice none 0 0) ∧ w'.cell? ⟨wL.heap.size, 1, none⟩ = some (.int .i64 0) ∧ w'.cell? ⟨wL.heap.size, 2, none⟩ = some (.int .i64 0) ∧ w'.cell? ⟨wL.heap.size, 3, none⟩ = some (.int .i64 0) ∧ w'.cell? ⟨wL.heap.size, 4, none⟩ = some (.int .i64 0) ∧ w'.cell? ⟨wL.heap.size, 5, none⟩ = some (.int .i64 0))) (by kernel_rfl) ?_ (fun hHeld => ?_)
  · (first | with_reducible exact ⟨p0, p1, p2, p3, p4, p5⟩ | exact ⟨q0, q1, q2, q3, q4, q5⟩ | assumption | exact ⟨p0, p1, p2, p3, p4, p5⟩)
  refine tk 0 ⟨some 22, .fieldAddr 83 (.tmp 7) 0, 0, "leaf.go:39", #[], none⟩ ?_; try simp only [Act.put, pz1, pz2, pz3]
  refine tk 1 ⟨some 23, .load 38 (.tmp 22), 38, "leaf.go:39", #[⟨0, .data⟩], none⟩ ?_; try simp only [Act.put, pz1, pz2, pz3]
  refine tk 2 ⟨some 24, .fieldAddr 83 (.tmp 7) 1, 0, "leaf.go:39", #[{ on := 5, ground := Ground.gcOnly Departure.lateStores }], none⟩ ?_; try simp only [Act.put, pz1, pz2, pz3]
  refine tk 3 ⟨some 25, .load 40 (.tmp 24), 40, "leaf.go:39", #[⟨2, .data⟩, { on := 5, ground := Ground.gcOnly Departure.lateStores }], none⟩ ?_; try simp only [Act.put, pz1, pz2, pz3]
  refine tk 4 ⟨some 26, .move (.tmp 8), 33, "leaf.go:39", #[{ on := 6, ground := Ground.gcOnly Departure.lateStores }], none⟩ ?_; try simp only [Act.put, pz1, pz2, pz3]
  refine tk 5 ⟨some 4, .assign (.tmp 23), 38, "leaf.go:39", #[⟨1, .data⟩, ⟨0, .phase⟩, ⟨1, .phase⟩, { on := 2, ground := Ground.textOnly Departure.lateStores }, { on := 3, ground := Ground.textOnly Departure.lateStores }, { on := 4, ground := Ground.textOnly Departure.lateStores }], none⟩ ?_; try simp only [Act.put, pz1, pz2, pz3]
  refine wpAnyH_ready (rs := [6]) (by kernel_rfl) (by simp) ?_
  refine AllReadyH.cons (o := ⟨none, .store 40 (.tmp 5) (.tmp 25), 0, "leaf.go:39", #[⟨3, .data⟩, ⟨5, .chain⟩, ⟨0, .phase⟩, ⟨1, .phase⟩, ⟨2, .phase⟩, ⟨3, .phase⟩, { on := 4, ground := Ground.textOnly Departure.lateStores }, ⟨5, .phase⟩], none⟩) rfl (fun K hK => ?_) AllReadyH.nil
  go_simp
  refine hK.out _ _ ?_ (fun hNew => ?_)
  · (first | with_reducible exact ⟨p0, p1, p2, p3, p4, p5⟩ | exact ⟨q0, q1, q2, q3, q4, q5⟩ | assumption | exact ⟨p0, p1, p2, p3, p4, p5⟩)
  clear hK K hHeld
  have hHeld := hNew
  clear hNew
  try simp only [Act.put, pz1, pz2, pz3]
  refine tk 7 ⟨some 6, .assign (.tmp 26), 33, "leaf.go:39", #[⟨4, .data⟩, ⟨6, .chain⟩, ⟨0, .phase⟩, ⟨1, .phase⟩, ⟨2, .phase⟩, ⟨3, .phase⟩, ⟨4, .phase⟩, ⟨5, .phase⟩, ⟨6, .phase⟩], none⟩ ?_; try simp only [Act.put, pz1, pz2, pz3]
  refine wpAnyH_done (by kernel_rfl) ?_ _
  refine NoPanic.normal ?_
  clear hHeld
  go_wp2_with fail
  show bodyPost _ _ _ _ _ (World.drew (st4 wP (w.heap.size + 1) (.int .i64 0) (.int .i64 0) (.int .i64 0) (.int .i64 0)))
  rw [← hwz]
  refine bodyPost_ret (v := .tuple #[.slice none 0 0, .agg #[.int .i64 0, .int .i64 0, .int .i64 0, .int .i64 0], .int .i64 Z]) (by simp [results, Try.results10, go_sem, r0, r1, r2, r3]) rfl ⟨rfl, hCZ, hTZ⟩
end Go.Proofs.Ytcpniplfkillbaa
namespace Go.Proofs.Ytcpniplfkillbaa
open Go.ChangeShapes Go.WideShapes Go.ChangeAt Go.RowKit
attribute [local go_sem ↓] Go.wp_at_zero Go.wp_at_succ
theorem RefW.nfl {w : World} {mR gB gN gW gD L : Nat} {AfR : Option Addr} {nfR cfR : Nat} {a b c d e : Int} {fs : List Flt} {s : ChS} (h : RefW w mR gB gN gW gD L AfR nfR cfR a b c d e fs s) : fs.length = nfR ∧ SlF w w.heap.size AfR fs ∧ planMay a b c d e fs = true := by
  obtain ⟨-, -, -, -, rF, -, -, -, -, l3, l4⟩ := h
  exact ⟨l3, rF.sl, l4⟩
theorem rbad_v (mR gB gN gW gD L : Nat) (AfR : Option Addr) (nfR cfR : Nat) (a b c d e : Int) (fs : List Flt) (B : Int) (W : Bool) (w : World) (s : ChS) (hC : RefW w mR gB gN gW gD L AfR nfR cfR a b c d e fs s) (hv : Hid (badB fs B = W)) : Calls Try.prog 39 #[.slice AfR nfR cfR, .int .i64 B] w fun e' w' => e' = .returned (.bool W) ∧ Below w.heap.size w w' := by
  obtain ⟨rfl, hsf, hpm⟩ := hC.nfl
  rw [← hv.out]
  exact rBad_any fs AfR cfR B w hsf (by have := (planMay_bd hpm).2.1; omega)
theorem walkF_block {a b c : Int} {NB : Nat} {fs : List Flt} (h0 : 0 < NB) (q : Nat) (S : ChS) (acc : List Vis) (hb : badB fs (q : Int) = true) (r : Nat) : ∀ k, k ≤ NB → walkF a b c NB fs (k + r) (q * NB + (NB - k)) S acc = walkF a b c NB fs r (q * NB + NB) S acc := by
  intro k
  induction k with
  | zero => intro _; rw [Nat.zero_add, Nat.sub_zero]
  | succ k ih =>
    intro hk
    rw [show k + 1 + r = (k + r) + 1 by omega]
    have e1 : (q * NB + (NB - (k + 1))) / NB = q := by
      rw [Nat.mul_comm, Nat.mul_add_div h0, Nat.div_eq_of_lt (by omega), Nat.add_zero]
    rw [walkF_bad (by rw [e1]; exact hb), show q * NB + (NB - (k + 1)) + 1 = q * NB + (NB - k) by omega]
    exact ih (by omega)
theorem readZ_ok (s : ChS) (a b x y : Int) : s.readZ a b x y ≠ 5 := by
  unfold ChS.readZ
  split
  · split
    · split <;> omega
    · omega
  · omega
structure RSc (w0 : World) (mR gB gN gW gD L : Nat) (AfR : Option Addr) (nfR cfR : Nat) (a b c d e : Int) (fs : List Flt) (n0 : Int) (s : ChS) (wr : World) (i : Nat) (S : ChS) (acc : List Vis) (v : Value) : Prop where
  chip : RefW wr mR gB gN gW gD L AfR nfR cfR a b c d e fs S
  eX : S.X = s.X
  eK : S.K = s.K
  row : RowFd wr w0.heap.size v (fdsOf acc)
  alen : acc.length ≤ i
  tch : Tch (fun g => g = mR) w0 wr
  good : Good S (n0 + 3 * (i : Int))
theorem RSc.then {w0 : World} {mR gB gN gW gD L : Nat} {AfR : Option Addr} {nfR cfR : Nat} {a b c d e : Int} {fs : List Flt} {n0 : Int} {s : ChS} {wr w' : World} {i : Nat} {S : ChS} {acc : List Vis} {v : Value} (h : RSc w0 mR gB gN gW gD L AfR nfR cfR a b c d e fs n0 s wr i S acc v) (hb : Below wr.heap.size wr w') : RSc w0 mR gB gN gW gD L AfR nfR cfR a b c d e fs n0 s w' i S acc v :=
  ⟨h.chip.below hb, h.eX, h.eK, h.row.below hb, h.alen, h.tch.then hb, h.good⟩
theorem RSc.read {w0 : World} {mR gB gN gW gD L : Nat} {AfR : Option Addr} {nfR cfR : Nat} {a b c d e : Int} {fs : List Flt} {n0 : Int} {s : ChS} {wr w' : World} {i : Nat} {S : ChS} {acc : List Vis} {v : Value} (hm : mR < w0.heap.size) (h : RSc w0 mR gB gN gW gD L AfR nfR cfR a b c d e fs n0 s wr i S acc v) (x y : Int) {S1 : ChS} (hC : RefW w' mR gB gN gW gD L AfR nfR cfR a b c d e fs S1) (hS : S.readS a b x y = S1) (hT : Tch (fun g => g = mR) wr w') : RSc w0 mR gB gN gW gD L AfR nfR cfR a b c d e fs n0 s w' (i + 1) S1 acc v := by
  subst hS
  exact ⟨hC, (readS_X S a b x y).trans h.eX, (readS_K S a b x y).trans h.eK, own_keepT h.row hT hm, by have := h.alen; omega, h.tch.trans hT, (h.good.read a b x y).mono (by omega)⟩
theorem RSc.more {w0 : World} {mR gB gN gW gD L : Nat} {AfR : Option Addr} {nfR cfR : Nat} {a b c d e : Int} {fs : List Flt} {n0 : Int} {s : ChS} {wr w' : World} {i : Nat} {S : ChS} {acc : List Vis} {v v' : Value} {vis : Vis} {x : Fd} (hm : RefW w0 mR gB gN gW gD L AfR nfR cfR a b c d e fs s) (h : RSc w0 mR gB gN gW gD L AfR nfR cfR a b c d e fs n0 s wr (i + 1) S acc v) (hl : acc.length ≤ i) (hf : fdOf vis = [x]) (ho : w'.ownsRow w0.heap.size 65 6 v' ((fdsOf acc).length + 1) ((fdsOf acc).flatMap fCs ++ fCs x)) (hg : wr.grownBy w' v.ownBlock) : RSc w0 mR gB gN gW gD L AfR nfR cfR a b c d e fs n0 s w' (i + 1) S (acc ++ [vis]) v' := by
  have hr : RowFd w' w0.heap.size v' (fdsOf (acc ++ [vis])) := by
    rw [fdsOf_snoc, hf]
    exact RowFd.snoc ho
  have hat := own_atF h.row
  have hT1 : Tch (fun g => w0.heap.size ≤ g) wr w' := Tch.grown hg hat
  have hT : Tch (fun g => g = mR) w0 w' := ((h.tch.mono (S' := fun g => g = mR ∨ w0.heap.size ≤ g) (fun g hg => Or.inl hg)).trans (hT1.mono (fun g hg => Or.inr hg))).monoL (fun g hg hs => by rcases hs with hs | hs; exact hs; omega)
  have hml := hm.lt
  refine ⟨hm.store h.chip h.eX h.eK hT (hT1.far mR h.chip.lt (by omega)), h.eX, h.eK, hr, ?_, hT, h.good⟩
  rw [List.length_append]
  simp
  omega
theorem RSc.none {w0 : World} {mR gB gN gW gD L : Nat} {AfR : Option Addr} {nfR cfR : Nat} {a b c d e : Int} {fs : List Flt} {n0 : Int} {s : ChS} {wr : World} {i : Nat} {S : ChS} {acc : List Vis} {v : Value} {vis : Vis} (h : RSc w0 mR gB gN gW gD L AfR nfR cfR a b c d e fs n0 s wr (i + 1) S acc v) (hl : acc.length ≤ i) (hf : fdOf vis = []) : RSc w0 mR gB gN gW gD L AfR nfR cfR a b c d e fs n0 s wr (i + 1) S (acc ++ [vis]) v :=
  ⟨h.chip, h.eX, h.eK, by rw [fdsOf_snoc, hf, List.append_nil]; exact h.row, by rw [List.length_append]; simp; omega, h.tch, h.good⟩
end Go.Proofs.Ytcpniplfkillbaa
namespace Go.Proofs.Ytcpniplfkillbaa
open Go.ChangeShapes Go.WideShapes Go.ChangeAt Go.RowKit
attribute [local go_sem ↓] Go.wp_at_zero Go.wp_at_succ
theorem rscan_any (mR gB gN gW gD L : Nat) (AfR : Option Addr) (nfR cfR : Nat) (a b c d e : Int) (fs : List Flt) (NA NB : Nat) (n0 : Int) (w : World) (s : ChS) (hC : RefW w mR gB gN gW gD L AfR nfR cfR a b c d e fs s) (hg : Good s n0) (hn0 : n0 ≤ 800000000) (h8 : Bytes8 s.X) (hNA : (NA : Int) = a) (hNB : (NB : Int) = b) (Z : Int) (accR : List Vis) (S1 : ChS) (hR : Hid (walkF a b c NB fs (NA * NB) 0 s [] = (Z, accR, S1))) (Lf : List Fd) (n : Nat) (hLf : Hid ((if Z = 0 then fdsOf accR else []) = Lf ∧ Lf.length = n)) :
    Calls Try.prog 17 #[.pointer (some ⟨mR, 0, none⟩)] w fun e' w' => (∃ A c', e' = .returned (.tuple #[.slice A n c', .int .i64 Z]) ∧ RowFd w' w.heap.size (.slice A n c') Lf) ∧ RefW w' mR gB gN gW gD L AfR nfR cfR a b c d e fs S1 ∧ Tch (fun g => g = mR) w w' ∧ Good S1 (n0 + 1000) := by
  obtain ⟨hm, g3, g4, g1, g2, g6⟩ : mayB a b c d e = true ∧ 4 ≤ b ∧ b ≤ 8 ∧ 8 ≤ a ∧ a ≤ 20 ∧ c ≤ 64 := by
    obtain ⟨hm, -, -⟩ := planMay_bd hC.nfl.2.2
    obtain ⟨g1, g2, g3, g4, g5, g6, -⟩ := may_bd hm
    exact ⟨hm, g3, g4, g1, g2, g6⟩
  have hB0 : 0 < NB := by omega
  have hB8 : NB ≤ 8 := by omega
  have hA20 : NA ≤ 20 := by omega
  have hAB2 : NA * NB ≤ 160 := Nat.mul_le_mul hA20 hB8
  have HLAB := Lib.hid (And.intro hNA hNB)
  have HR := hR
  have hmw := hC.lt
  have b0 : (0 : Int) < b := by omega
  clear hm hNA hNB
  go_enter Try.func17, Try.ntmps17
  go_wp2_with fail
  go_loopw [4, 5] (fun s4 s5 wr => ∃ (q i : Nat) (S : ChS) (acc : List Vis) (v : Value), q ≤ NA ∧ s5 = .int .i64 (q : Int) ∧ s4 = v ∧ Hid (i = q * NB) ∧ RSc w mR gB gN gW gD L AfR nfR cfR a b c d e fs n0 s wr i S acc v ∧ Hid (walkF a b c NB fs (NA * NB - i) i S acc = (Z, accR, S1))) (fun _ s5 _ => NA - (intOf s5).toNat)
  case atStart => exact ⟨0, 0, s, [], _, Nat.zero_le _, rfl, rfl, Lib.hid (Nat.zero_mul _).symm, ⟨hC, rfl, rfl, RowFd.nil_ _ _, Nat.le_refl _, Tch.refl _, hg.mono (by omega)⟩, hR⟩
  case round =>
    obtain ⟨q, i, S, acc, v, hq, rfl, e4, hi, hE, hW⟩ := hrel
    have e4' := e4.symm
    subst e4'
    obtain ⟨A3, c3, hv3, -, -, -⟩ := hE.row.sl
    subst hv3
    obtain ⟨NPx, NBx, RWx, cBx, HCC⟩ := hE.chip.cells
    have y0 := HCC.y0
    have y1 := HCC.y1
    clear HCC
    have q0 : (0 : Int) ≤ (q : Int) := by omega
    by_cases hlt : (q : Int) < a
    · have hqA : q < NA := by have := HLAB.out.1; omega
      have hiq : i + NB ≤ NA * NB := by
        rw [hi.out, ← Nat.succ_mul]
        exact Nat.mul_le_mul_right _ hqA
      rcases (by cases hq : badB fs (q : Int) <;> simp : badB fs (q : Int) = true ∨ badB fs (q : Int) = false) with hb | hb
      · have HBD := Lib.hid hb
        have HW2 : Hid (walkF a b c NB fs (NA * NB - (i + NB)) (i + NB) S acc = (Z, accR, S1)) := Lib.hid (by
          have h := hW.out
          have h2 := walkF_block (a := a) (b := b) (c := c) (NB := NB) (fs := fs) hB0 q S acc hb (NA * NB - (i + NB)) NB (Nat.le_refl _)
          rw [Nat.sub_self, Nat.add_zero, ← hi.out, show NB + (NA * NB - (i + NB)) = NA * NB - i by omega] at h2
          rw [← h2]
          exact h)
        have HI2 : Hid (i + NB = (q + 1) * NB) := Lib.hid (by rw [Nat.succ_mul, ← hi.out])
        clear hb hW
        go_wp2_with fail
        go_loopw [4, 6] (fun s4 s6 wr => s6 = .int .i64 0 ∧ s4 = .slice A3 (fdsOf acc).length c3 ∧ RSc w mR gB gN gW gD L AfR nfR cfR a b c d e fs n0 s wr i S acc (.slice A3 (fdsOf acc).length c3)) (fun _ _ _ => 0)
        case atStart => exact ⟨rfl, rfl, hE⟩
        case round =>
          clear hE y0 y1
          obtain ⟨rfl, e4, hE⟩ := hrel
          have e4' := e4.symm
          subst e4'
          obtain ⟨NPx, NBx, RWx, cBx, HCC⟩ := hE.chip.cells
          have y1 := HCC.y1
          have y5 := HCC.y5
          clear HCC
          go_wp2_with (go_at_call 39; ((with_reducible refine (rbad_v mR gB gN gW gD L AfR nfR cfR a b c d e fs (q : Int) true _ S hE.chip HBD).mono ?_); rintro e' wB ⟨rfl, hbB⟩; replace hE := hE.then hbB; clear hbB))
          go_roundw
          case rel => exact ⟨q + 1, i + NB, S, acc, _, by omega, by go_num, rfl, HI2, ⟨hE.chip, hE.eX, hE.eK, hE.row, by have := hE.alen; omega, hE.tch, hE.good.mono (by omega)⟩, HW2⟩
          case measure => simp [intOf]; omega
      · have HBD := Lib.hid hb
        clear hb
        go_wp2_with fail
        go_loopw [4, 6] (fun s4 s6 wr => ∃ (k : Nat) (S : ChS) (acc : List Vis) (v : Value), k ≤ NB ∧ s6 = .int .i64 (k : Int) ∧ s4 = v ∧ RSc w mR gB gN gW gD L AfR nfR cfR a b c d e fs n0 s wr (i + k) S acc v ∧ Hid (walkF a b c NB fs (NA * NB - (i + k)) (i + k) S acc = (Z, accR, S1))) (fun _ s6 _ => NB - (intOf s6).toNat)
        case atStart => exact ⟨0, S, acc, _, Nat.zero_le _, rfl, rfl, hE, hW⟩
        case round =>
          clear hE hW y0 y1
          obtain ⟨k, S, acc, v, hk, rfl, e4, hE, hW⟩ := hrel
          have e4' := e4.symm
          subst e4'
          obtain ⟨A3, c3, hv3, -, -, -⟩ := hE.row.sl
          subst hv3
          obtain ⟨NPx, NBx, RWx, cBx, HCC⟩ := hE.chip.cells
          have y1 := HCC.y1
          have y5 := HCC.y5
          clear HCC
          have k0 : (0 : Int) ≤ (k : Int) := by omega
          by_cases hkb : (k : Int) < b
          · have hkB : k < NB := by have := HLAB.out.2; omega
            have hdv : (i + k) / NB = q := by
              rw [hi.out, Nat.mul_comm, Nat.mul_add_div hB0, Nat.div_eq_of_lt hkB, Nat.add_zero]
            have hmd : (i + k) % NB = k := by
              rw [hi.out, Nat.mul_comm, Nat.mul_add_mod, Nat.mod_eq_of_lt hkB]
            have hstep : NA * NB - (i + k) = (NA * NB - (i + (k + 1))) + 1 := by omega
            obtain ⟨Zk, hz⟩ : ∃ Zk, S.readZ a b (q : Int) (k : Int) = Zk := ⟨_, rfl⟩
            obtain ⟨Sk, hs1⟩ : ∃ Sk, S.readS a b (q : Int) (k : Int) = Sk := ⟨_, rfl⟩
            obtain ⟨bs, hbs⟩ : ∃ bs, S.readB a b c (q : Int) (k : Int) = bs := ⟨_, rfl⟩
            obtain ⟨Q, hQ⟩ : ∃ Q, bs.length = Q := ⟨_, rfl⟩
            have hal := hE.alen
            have hfl := fdsOf_len acc
            have hZ := Lib.hid (And.intro hz (And.intro hbs (And.intro hQ hs1)))
            by_cases hne : Zk = 0
            · subst hne
              have H8B : Bytes8 bs := by rw [← hbs]; exact readB_8 (by rw [hE.eX]; exact h8) a b c _ _
              have hq9 : Q ≤ 1000000 := by rw [← hQ, ← hbs]; exact readB_le S a b c _ _ g6
              obtain ⟨D, n9, Kq, Pq, Sq, Eq, st, hlk⟩ := Lk.ex bs
              have hLK := Lib.hid hlk
              have HW0 : Hid (walkF a b c NB fs (NA * NB - (i + (k + 1))) (i + (k + 1)) Sk (acc ++ [(q, k, bs)]) = (Z, accR, S1)) := Lib.hid (by
                have h := hW.out
                rw [hstep, walkF_ok (S1 := Sk) (bs := bs) (by rw [hdv]; exact HBD.out) (by rw [hdv, hmd]; exact hz) (by rw [hdv, hmd]; exact hs1) (by rw [hdv, hmd]; exact hbs), hdv, hmd] at h
                exact h)
              have HFD := Lib.hid (fdOf_lk (k := q) (l := k) hlk)
              clear hdv hmd hstep hz hs1 hbs hQ hlk hW
              by_cases h1 : st = 1
              · subst h1
                replace HFD : Hid (fdOf (q, k, bs) = [(⟨(q : Int), (k : Int), (Kq : Int), (Pq : Int), (Sq : Int), (Eq : Int)⟩ : Fd)]) := Lib.hid (by rw [HFD.out, if_pos rfl])
                go_wp2_with (first | (go_at_call 39; ((with_reducible refine (rbad_v mR gB gN gW gD L AfR nfR cfR a b c d e fs (q : Int) false _ S hE.chip HBD).mono ?_); rintro e' wB ⟨rfl, hbB⟩; replace hE := hE.then hbB; clear hbB)) | (go_at_call 11; ((with_reducible refine (rload_yes mR gB gN gW gD L AfR nfR cfR a b c d e fs (q : Int) (k : Int) (n0 + 3 * ((i + k : Nat) : Int)) _ S (hE.chip.below ((Below.refl _ _).alloc (Nat.le_refl _) _)) hE.good.fine (by omega) hE.good.wt D n9 Kq Pq Sq Eq bs Q Sk hZ hq9 H8B hLK).mono ?_); rintro e' wL ⟨⟨A2, c2, rfl, hoL⟩, hCL, hTL⟩; have hPL := hTL.blk (Blk.new_ wB 27 #[.int .i64 (q : Int), .int .i64 (k : Int)]) (fun e => by have := hE.chip.lt; omega); have hE1 := hE.read hmw (q : Int) (k : Int) hCL hZ.out.2.2.2 ((Tch.of_below (S := fun g => g = mR) (show Below wB.heap.size wB (wB.alloc (.cells #[.int .i64 (q : Int), .int .i64 (k : Int)] 27)) from ((Below.refl _ _).alloc (Nat.le_refl _) _))).trans hTL); have p0 := hPL.cell_ 0; have p1 := hPL.cell_ 1; simp at p0 p1; have p9 := hPL.lt; clear hE hTL hCL)) | (at_builtin; obtain ⟨ti0, hi, hz0, hz1, hz2⟩ := info_parts infoFdS; refine wpList_app _ rfl (.tmp 50) (.tmp 54) 51 rfl w.heap.size 65 ti0 _ 6 48 Try.underlying51 hi hz0 hz1 hz2 rfl (by decide) (.slice A3 (fdsOf acc).length c3) (fdsOf acc).length ((fdsOf acc).flatMap fCs) rfl ((hE1.row.alloc _).alloc _) _ 1 1 (fCs (⟨(q : Int), (k : Int), (Kq : Int), (Pq : Int), (Sq : Int), (Eq : Int)⟩ : Fd)) rfl (rd_newF _ _ _ _ _ _ _ (by simp)) (flat_one1 _) (by unfold maxLen; omega) (by omega) (by have := hE1.tch.size; simp; omega) ?_; intro v2 w2 ho2 hg2 hv2; have hE2 := RSc.more hC ((hE1.then ((Below.refl _ _).alloc (Nat.le_refl _) _)).then ((Below.refl _ _).alloc (Nat.le_refl _) _)) hal (HFD.out) ho2 hg2; clear hi hz0 hz1 hz2 ho2 hg2 hv2 hE1))
                go_roundw
                case rel => exact ⟨k + 1, Sk, acc ++ [(q, k, bs)], v2, by omega, by go_num, rfl, hE2, HW0⟩
                case measure => simp [intOf]; omega
              · replace HFD : Hid (fdOf (q, k, bs) = []) := Lib.hid (by rw [HFD.out, if_neg h1])
                have hne1 := h1
                clear h1
                go_wp2_with (first | (go_at_call 39; ((with_reducible refine (rbad_v mR gB gN gW gD L AfR nfR cfR a b c d e fs (q : Int) false _ S hE.chip HBD).mono ?_); rintro e' wB ⟨rfl, hbB⟩; replace hE := hE.then hbB; clear hbB)) | (go_at_call 11; ((with_reducible refine (rload_bad mR gB gN gW gD L AfR nfR cfR a b c d e fs (q : Int) (k : Int) (n0 + 3 * ((i + k : Nat) : Int)) _ S (hE.chip.below ((Below.refl _ _).alloc (Nat.le_refl _) _)) hE.good.fine (by omega) hE.good.wt D n9 Kq Pq Sq Eq st bs Q Sk hZ hq9 H8B hLK hne1).mono ?_); rintro e' wL ⟨rfl, hCL, hTL⟩; have hPL := hTL.blk (Blk.new_ wB 27 #[.int .i64 (q : Int), .int .i64 (k : Int)]) (fun e => by have := hE.chip.lt; omega); have hE1 := hE.read hmw (q : Int) (k : Int) hCL hZ.out.2.2.2 ((Tch.of_below (S := fun g => g = mR) (show Below wB.heap.size wB (wB.alloc (.cells #[.int .i64 (q : Int), .int .i64 (k : Int)] 27)) from ((Below.refl _ _).alloc (Nat.le_refl _) _))).trans hTL); have p0 := hPL.cell_ 0; have p1 := hPL.cell_ 1; simp at p0 p1; have p9 := hPL.lt; clear hE hTL hCL)))
                go_roundw
                case rel => exact ⟨k + 1, Sk, acc ++ [(q, k, bs)], _, by omega, by go_num, rfl, (hE1.none hal HFD.out).then ((Below.refl _ _).alloc (Nat.le_refl _) _), HW0⟩
                case measure => simp [intOf]; omega
            · have HRE : Hid (Z = Zk ∧ accR = acc ∧ S1 = Sk) := Lib.hid (by
                have h := hW.out
                rw [hstep, walkF_err (S1 := Sk) (Z := Zk) (by rw [hdv]; exact HBD.out) (by rw [hdv, hmd]; exact hz) hne (by rw [hdv, hmd]; exact hs1)] at h
                simp only [Prod.mk.injEq] at h
                exact ⟨h.1.symm, h.2.1.symm, h.2.2.symm⟩)
              have hz0 : (Zk == 0) = false := by simpa using hne
              have hz5 : (Zk != 5) = true := by
                have := readZ_ok S a b (q : Int) (k : Int)
                rw [hz] at this
                simpa using this
              clear hdv hmd hstep hz hs1 hbs hQ hW
              go_wp2_with (first | (go_at_call 39; ((with_reducible refine (rbad_v mR gB gN gW gD L AfR nfR cfR a b c d e fs (q : Int) false _ S hE.chip HBD).mono ?_); rintro e' wB ⟨rfl, hbB⟩; replace hE := hE.then hbB; clear hbB)) | (go_at_call 11; ((with_reducible refine (rload_no mR gB gN gW gD L AfR nfR cfR a b c d e fs (q : Int) (k : Int) (n0 + 3 * ((i + k : Nat) : Int)) _ S (hE.chip.below ((Below.refl _ _).alloc (Nat.le_refl _) _)) hE.good.fine (by omega) hE.good.wt Zk bs Q Sk hZ hne).mono ?_); rintro e' wL ⟨rfl, hCL, hTL⟩; have hPL := hTL.blk (Blk.new_ wB 27 #[.int .i64 (q : Int), .int .i64 (k : Int)]) (fun e => by have := hE.chip.lt; omega); have hE1 := hE.read hmw (q : Int) (k : Int) hCL hZ.out.2.2.2 ((Tch.of_below (S := fun g => g = mR) (show Below wB.heap.size wB (wB.alloc (.cells #[.int .i64 (q : Int), .int .i64 (k : Int)] 27)) from ((Below.refl _ _).alloc (Nat.le_refl _) _))).trans hTL); have p0 := hPL.cell_ 0; have p1 := hPL.cell_ 1; simp at p0 p1; have p9 := hPL.lt; clear hE hTL hCL)))
              go_ret2
              obtain ⟨rfl, rfl, rfl⟩ := HRE.out
              have hl2 := hLf.out
              rw [if_neg hne] at hl2
              obtain ⟨rfl, rfl⟩ := hl2
              exact ⟨⟨none, 0, rfl, RowFd.nil_ _ _⟩, (hE1.then ((Below.refl _ _).alloc (Nat.le_refl _) _)).chip, (hE1.then ((Below.refl _ _).alloc (Nat.le_refl _) _)).tch, hE1.good.mono (by omega)⟩
          · have hkN : k = NB := by have := HLAB.out.2; omega
            have HI2 : Hid (i + k = (q + 1) * NB) := Lib.hid (by rw [Nat.succ_mul, ← hi.out, hkN])
            go_wp2_with fail
            go_roundw
            case rel => exact ⟨q + 1, i + k, S, acc, _, by omega, by go_num, rfl, HI2, hE, hW⟩
            case measure => simp [intOf]; omega
    · have hqA : q = NA := by have := HLAB.out.1; omega
      have HRE : Hid (Z = 0 ∧ accR = acc ∧ S1 = S) := Lib.hid (by
        have h := hW.out
        rw [show NA * NB - i = 0 by rw [hi.out, hqA]; exact Nat.sub_self _] at h
        unfold walkF at h
        simp only [Prod.mk.injEq] at h
        exact ⟨h.1.symm, h.2.1.symm, h.2.2.symm⟩)
      have hiq : i ≤ 160 := by rw [hi.out, hqA]; exact hAB2
      clear hqA
      go_wp2_with fail
      go_ret2
      obtain ⟨rfl, rfl, rfl⟩ := HRE.out
      have hl2 := hLf.out
      rw [if_pos rfl] at hl2
      obtain ⟨rfl, rfl⟩ := hl2
      exact ⟨⟨_, _, rfl, hE.row⟩, hE.chip, hE.tch, hE.good.mono (by omega)⟩
end Go.Proofs.Ytcpniplfkillbaa
namespace Go.Proofs.Ytcpniplfkillbaa
open Go.ChangeShapes Go.WideShapes Go.ChangeAt Go.RowKit
attribute [local go_sem ↓] Go.wp_at_zero Go.wp_at_succ
structure RCn (w0 : World) (mR gB gN gW gD L : Nat) (AfR : Option Addr) (nfR cfR : Nat) (a b c d e : Int) (fs : List Flt) (n0 : Int) (s : ChS) (wr : World) (i : Nat) (S : ChS) (p q r : Nat) : Prop where
  chip : RefW wr mR gB gN gW gD L AfR nfR cfR a b c d e fs S
  eX : S.X = s.X
  eK : S.K = s.K
  box : Blk wr w0.heap.size 98 #[.int .i64 (p : Int), .int .i64 (q : Int), .int .i64 (r : Int)]
  le : p ≤ i ∧ q ≤ i ∧ r ≤ i
  tch : Tch (fun g => g = mR) w0 wr
  good : Good S (n0 + 3 * (i : Int))
theorem RCn.then {w0 : World} {mR gB gN gW gD L : Nat} {AfR : Option Addr} {nfR cfR : Nat} {a b c d e : Int} {fs : List Flt} {n0 : Int} {s : ChS} {wr w' : World} {i : Nat} {S : ChS} {p q r : Nat} (h : RCn w0 mR gB gN gW gD L AfR nfR cfR a b c d e fs n0 s wr i S p q r) (hb : Below wr.heap.size wr w') : RCn w0 mR gB gN gW gD L AfR nfR cfR a b c d e fs n0 s w' i S p q r :=
  ⟨h.chip.below hb, h.eX, h.eK, h.box.below hb h.box.lt, h.le, h.tch.then hb, h.good⟩
theorem RCn.read {w0 : World} {mR gB gN gW gD L : Nat} {AfR : Option Addr} {nfR cfR : Nat} {a b c d e : Int} {fs : List Flt} {n0 : Int} {s : ChS} {wr w' : World} {i : Nat} {S : ChS} {p q r : Nat} (hm : mR < w0.heap.size) (h : RCn w0 mR gB gN gW gD L AfR nfR cfR a b c d e fs n0 s wr i S p q r) (x y : Int) {S1 : ChS} (hC : RefW w' mR gB gN gW gD L AfR nfR cfR a b c d e fs S1) (hS : S.readS a b x y = S1) (hT : Tch (fun g => g = mR) wr w') : RCn w0 mR gB gN gW gD L AfR nfR cfR a b c d e fs n0 s w' (i + 1) S1 p q r := by
  subst hS
  exact ⟨hC, (readS_X S a b x y).trans h.eX, (readS_K S a b x y).trans h.eK, hT.blk h.box (by omega), by have := h.le; omega, h.tch.trans hT, (h.good.read a b x y).mono (by omega)⟩
theorem RCn.put {w0 : World} {mR gB gN gW gD L : Nat} {AfR : Option Addr} {nfR cfR : Nat} {a b c d e : Int} {fs : List Flt} {n0 : Int} {s : ChS} {wr : World} {i : Nat} {S : ChS} {p q r p' q' r' : Nat} {j : Nat} {u : Value} (hm : RefW w0 mR gB gN gW gD L AfR nfR cfR a b c d e fs s) (h : RCn w0 mR gB gN gW gD L AfR nfR cfR a b c d e fs n0 s wr i S p q r) (hB : Blk (wr.setCell ⟨w0.heap.size, j, none⟩ u) w0.heap.size 98 #[.int .i64 (p' : Int), .int .i64 (q' : Int), .int .i64 (r' : Int)]) (hl : p' ≤ i ∧ q' ≤ i ∧ r' ≤ i) : RCn w0 mR gB gN gW gD L AfR nfR cfR a b c d e fs n0 s (wr.setCell ⟨w0.heap.size, j, none⟩ u) i S p' q' r' := by
  have hT1 := Tch.setm wr w0.heap.size j u
  have hml := hm.lt
  have hT : Tch (fun g => g = mR) w0 (wr.setCell ⟨w0.heap.size, j, none⟩ u) := ((h.tch.mono (S' := fun g => g = mR ∨ w0.heap.size ≤ g) (fun g hg => Or.inl hg)).trans (hT1.mono (fun g hg => by subst hg; exact Or.inr (Nat.le_refl _)))).monoL (fun g hg hs => by rcases hs with hs | hs; exact hs; omega)
  exact ⟨hm.store h.chip h.eX h.eK hT (hT1.far mR h.chip.lt (by omega)), h.eX, h.eK, hB, hl, hT, h.good⟩
theorem rstate_v (mR gB gN gW gD L : Nat) (AfR : Option Addr) (nfR cfR : Nat) (a b c d e : Int) (fs : List Flt) (x y n0 : Int) (w : World) (s : ChS) (hC : RefW w mR gB gN gW gD L AfR nfR cfR a b c d e fs s) (hs : Fine s n0) (hn0 : n0 ≤ 900000000) (hwt : s.Wt) (D : List Nat) (n K P S E st : Nat) (sI : Int) (hsI : Hid (sI = (st : Int))) (bs : List Nat) (q : Nat) (S1 : ChS) (hZ : Hid (s.readZ a b x y = 0 ∧ s.readB a b c x y = bs ∧ bs.length = q ∧ s.readS a b x y = S1)) (hq9 : q ≤ 1000000) (h8 : Bytes8 bs) (hk : Hid (Lk bs D n K P S E st)) :
    Calls Try.prog 9 #[.pointer (some ⟨mR, 0, none⟩), .agg #[.int .i64 x, .int .i64 y]] w fun e' w' => e' = .returned (.tuple #[.int .i64 sI, .int .i64 0]) ∧ RefW w' mR gB gN gW gD L AfR nfR cfR a b c d e fs S1 ∧ Tch (fun g => g = mR) w w' := by
  rw [hsI.out]
  exact rstate_yes mR gB gN gW gD L AfR nfR cfR a b c d e fs x y n0 w s hC hs hn0 hwt D n K P S E st bs q S1 hZ hq9 h8 hk
def c3 (l : List Vis) : Nat × Nat × Nat := (cnt (fun s => s == 0) l, cnt (fun s => s == 1) l, cnt (fun s => !(s == 0 || s == 1)) l)
theorem c3_snoc (l : List Vis) (k j : Nat) (bs : List Nat) {p q r st : Nat} (h : c3 l = (p, q, r)) (hst : readSt bs = st) : c3 (l ++ [(k, j, bs)]) = (if st = 0 then p + 1 else p, if st = 1 then q + 1 else q, if st = 0 ∨ st = 1 then r else r + 1) := by
  unfold c3 at h ⊢
  simp only [Prod.mk.injEq] at h
  obtain ⟨rfl, rfl, rfl⟩ := h
  rw [cnt_snoc, cnt_snoc, cnt_snoc]
  dsimp only
  rw [hst]
  refine Prod.ext (by simp) (Prod.ext (by simp) ?_)
  by_cases h0 : st = 0
  · simp [h0]
  · by_cases h1 : st = 1
    · simp [h1]
    · simp [h0, h1]
end Go.Proofs.Ytcpniplfkillbaa
namespace Go.Proofs.Ytcpniplfkillbaa
open Go.ChangeShapes Go.WideShapes Go.ChangeAt Go.RowKit
attribute [local go_sem ↓] Go.wp_at_zero Go.wp_at_succ
theorem rcount_any (mR gB gN gW gD L : Nat) (AfR : Option Addr) (nfR cfR : Nat) (a b c d e : Int) (fs : List Flt) (NA NB : Nat) (n0 : Int) (w : World) (s : ChS) (hC : RefW w mR gB gN gW gD L AfR nfR cfR a b c d e fs s) (hg : Good s n0) (hn0 : n0 ≤ 800000000) (h8 : Bytes8 s.X) (hNA : (NA : Int) = a) (hNB : (NB : Int) = b) (Z : Int) (accR : List Vis) (S1 : ChS) (hR : Hid (walkF a b c NB fs (NA * NB) 0 s [] = (Z, accR, S1))) (pR qR rR : Nat) (hLf : Hid ((if Z = 0 then c3 accR else (0, 0, 0)) = (pR, qR, rR))) :
    Calls Try.prog 19 #[.pointer (some ⟨mR, 0, none⟩)] w fun e' w' => e' = .returned (.tuple #[.int .i64 (pR : Int), .int .i64 (qR : Int), .int .i64 (rR : Int), .int .i64 Z]) ∧ RefW w' mR gB gN gW gD L AfR nfR cfR a b c d e fs S1 ∧ Tch (fun g => g = mR) w w' ∧ Good S1 (n0 + 1000) := by
  obtain ⟨hm, g3, g4, g1, g2, g6⟩ : mayB a b c d e = true ∧ 4 ≤ b ∧ b ≤ 8 ∧ 8 ≤ a ∧ a ≤ 20 ∧ c ≤ 64 := by
    obtain ⟨hm, -, -⟩ := planMay_bd hC.nfl.2.2
    obtain ⟨g1, g2, g3, g4, g5, g6, -⟩ := may_bd hm
    exact ⟨hm, g3, g4, g1, g2, g6⟩
  have hB0 : 0 < NB := by omega
  have hB8 : NB ≤ 8 := by omega
  have hA20 : NA ≤ 20 := by omega
  have hAB2 : NA * NB ≤ 160 := Nat.mul_le_mul hA20 hB8
  have HLAB := Lib.hid (And.intro hNA hNB)
  have HR := hR
  have hmw := hC.lt
  have b0 : (0 : Int) < b := by omega
  clear hm hNA hNB
  have hB1 : Below w.heap.size w (w.alloc (.cells #[.int .i64 0, .int .i64 0, .int .i64 0] 98)) := ((Below.refl _ _).alloc (Nat.le_refl _) _)
  have G1 : Blk (w.alloc (.cells #[.int .i64 0, .int .i64 0, .int .i64 0] 98)) w.heap.size 98 #[.int .i64 0, .int .i64 0, .int .i64 0] := Blk.new_ _ _ _
  go_enter Try.func19, Try.ntmps19
  go_wp2_with fail
  go_loopw [7] (fun s7 wr => ∃ (q9 i : Nat) (S : ChS) (acc : List Vis) (p q r : Nat), q9 ≤ NA ∧ s7 = .int .i64 (q9 : Int) ∧ Hid (i = q9 * NB) ∧ RCn w mR gB gN gW gD L AfR nfR cfR a b c d e fs n0 s wr i S p q r ∧ Hid (walkF a b c NB fs (NA * NB - i) i S acc = (Z, accR, S1)) ∧ Hid (c3 acc = (p, q, r))) (fun s7 _ => NA - (intOf s7).toNat)
  case atStart => exact ⟨0, 0, s, [], 0, 0, 0, Nat.zero_le _, rfl, Lib.hid (Nat.zero_mul _).symm, ⟨hC.below hB1, rfl, rfl, G1, by omega, Tch.of_below hB1, hg.mono (by omega)⟩, hR, Lib.hid rfl⟩
  case round =>
    obtain ⟨q9, i, S, acc, p, q, r, hq, rfl, hi, hE, hW, HC3⟩ := hrel
    obtain ⟨NPx, NBx, RWx, cBx, HCC⟩ := hE.chip.cells
    have y0 := HCC.y0
    have y1 := HCC.y1
    clear HCC
    have q0 : (0 : Int) ≤ (q9 : Int) := by omega
    by_cases hlt : (q9 : Int) < a
    · have hqA : q9 < NA := by have := HLAB.out.1; omega
      have hiq : i + NB ≤ NA * NB := by
        rw [hi.out, ← Nat.succ_mul]
        exact Nat.mul_le_mul_right _ hqA
      rcases (by cases hq : badB fs (q9 : Int) <;> simp : badB fs (q9 : Int) = true ∨ badB fs (q9 : Int) = false) with hb | hb
      · have HBD := Lib.hid hb
        have HW2 : Hid (walkF a b c NB fs (NA * NB - (i + NB)) (i + NB) S acc = (Z, accR, S1)) := Lib.hid (by
          have h := hW.out
          have h2 := walkF_block (a := a) (b := b) (c := c) (NB := NB) (fs := fs) hB0 q9 S acc hb (NA * NB - (i + NB)) NB (Nat.le_refl _)
          rw [Nat.sub_self, Nat.add_zero, ← hi.out, show NB + (NA * NB - (i + NB)) = NA * NB - i by omega] at h2
          rw [← h2]
          exact h)
        have HI2 : Hid (i + NB = (q9 + 1) * NB) := Lib.hid (by rw [Nat.succ_mul, ← hi.out])
        clear hb hW
        go_wp2_with fail
        go_loopw [8] (fun s8 wr => s8 = .int .i64 0 ∧ RCn w mR gB gN gW gD L AfR nfR cfR a b c d e fs n0 s wr i S p q r) (fun _ _ => 0)
        case atStart => exact ⟨rfl, hE⟩
        case round =>
          clear hE y0 y1
          obtain ⟨rfl, hE⟩ := hrel
          obtain ⟨NPx, NBx, RWx, cBx, HCC⟩ := hE.chip.cells
          have y1 := HCC.y1
          have y5 := HCC.y5
          clear HCC
          go_wp2_with (go_at_call 39; ((with_reducible refine (rbad_v mR gB gN gW gD L AfR nfR cfR a b c d e fs (q9 : Int) true _ S hE.chip HBD).mono ?_); rintro e' wB ⟨rfl, hbB⟩; replace hE := hE.then hbB; clear hbB))
          go_roundw
          case rel => exact ⟨q9 + 1, i + NB, S, acc, p, q, r, by omega, by go_num, HI2, ⟨hE.chip, hE.eX, hE.eK, hE.box, by have := hE.le; omega, hE.tch, hE.good.mono (by omega)⟩, HW2, HC3⟩
          case measure => simp [intOf]; omega
      · have HBD := Lib.hid hb
        clear hb
        go_wp2_with fail
        go_loopw [8] (fun s8 wr => ∃ (k : Nat) (S : ChS) (acc : List Vis) (p q r : Nat), k ≤ NB ∧ s8 = .int .i64 (k : Int) ∧ RCn w mR gB gN gW gD L AfR nfR cfR a b c d e fs n0 s wr (i + k) S p q r ∧ Hid (walkF a b c NB fs (NA * NB - (i + k)) (i + k) S acc = (Z, accR, S1)) ∧ Hid (c3 acc = (p, q, r))) (fun s8 _ => NB - (intOf s8).toNat)
        case atStart => exact ⟨0, S, acc, p, q, r, Nat.zero_le _, rfl, hE, hW, HC3⟩
        case round =>
          clear hE hW y0 y1 HC3
          obtain ⟨k, S, acc, p, q, r, hk, rfl, hE, hW, HC3⟩ := hrel
          obtain ⟨NPx, NBx, RWx, cBx, HCC⟩ := hE.chip.cells
          have y1 := HCC.y1
          have y5 := HCC.y5
          clear HCC
          have k0 : (0 : Int) ≤ (k : Int) := by omega
          by_cases hkb : (k : Int) < b
          · have hkB : k < NB := by have := HLAB.out.2; omega
            have hdv : (i + k) / NB = q9 := by
              rw [hi.out, Nat.mul_comm, Nat.mul_add_div hB0, Nat.div_eq_of_lt hkB, Nat.add_zero]
            have hmd : (i + k) % NB = k := by
              rw [hi.out, Nat.mul_comm, Nat.mul_add_mod, Nat.mod_eq_of_lt hkB]
            have hstep : NA * NB - (i + k) = (NA * NB - (i + (k + 1))) + 1 := by omega
            obtain ⟨Zk, hz⟩ : ∃ Zk, S.readZ a b (q9 : Int) (k : Int) = Zk := ⟨_, rfl⟩
            obtain ⟨Sk, hs1⟩ : ∃ Sk, S.readS a b (q9 : Int) (k : Int) = Sk := ⟨_, rfl⟩
            obtain ⟨bs, hbs⟩ : ∃ bs, S.readB a b c (q9 : Int) (k : Int) = bs := ⟨_, rfl⟩
            obtain ⟨Q, hQ⟩ : ∃ Q, bs.length = Q := ⟨_, rfl⟩
            obtain ⟨hp1, hp2, hp3⟩ := hE.le
            have p0 : (p : Int) ≤ 160 := by omega
            have p1 : (q : Int) ≤ 160 := by omega
            have p2 : (r : Int) ≤ 160 := by omega
            have hZ := Lib.hid (And.intro hz (And.intro hbs (And.intro hQ hs1)))
            by_cases hne : Zk = 0
            · subst hne
              have H8B : Bytes8 bs := by rw [← hbs]; exact readB_8 (by rw [hE.eX]; exact h8) a b c _ _
              have hq9 : Q ≤ 1000000 := by rw [← hQ, ← hbs]; exact readB_le S a b c _ _ g6
              obtain ⟨D, n9, Kq, Pq, Sq, Eq, st, hlk⟩ := Lk.ex bs
              have hLK := Lib.hid hlk
              have hst := hlk.st
              have hs2 : st ≤ 2 := by rw [← hst]; exact st_le bs
              have HW0 : Hid (walkF a b c NB fs (NA * NB - (i + (k + 1))) (i + (k + 1)) Sk (acc ++ [(q9, k, bs)]) = (Z, accR, S1)) := Lib.hid (by
                have h := hW.out
                rw [hstep, walkF_ok (S1 := Sk) (bs := bs) (by rw [hdv]; exact HBD.out) (by rw [hdv, hmd]; exact hz) (by rw [hdv, hmd]; exact hs1) (by rw [hdv, hmd]; exact hbs), hdv, hmd] at h
                exact h)
              clear hdv hmd hstep hz hs1 hbs hQ hlk hW
              rcases (show st = 0 ∨ st = 1 ∨ st = 2 by omega) with h1 | h1 | h1
              · subst h1
                have HSI : Hid ((0 : Int) = ((0 : Nat) : Int)) := Lib.hid rfl
                have HC2 : Hid (c3 (acc ++ [(q9, k, bs)]) = (p + 1, q, r)) := Lib.hid (by have h := c3_snoc acc q9 k bs HC3.out hst; simpa using h)
                clear hst HC3
                go_wp2_with (first | (go_at_call 39; ((with_reducible refine (rbad_v mR gB gN gW gD L AfR nfR cfR a b c d e fs (q9 : Int) false _ S hE.chip HBD).mono ?_); rintro e' wB ⟨rfl, hbB⟩; replace hE := hE.then hbB; clear hbB)) | (go_at_call 9; ((with_reducible refine (rstate_v mR gB gN gW gD L AfR nfR cfR a b c d e fs (q9 : Int) (k : Int) (n0 + 3 * ((i + k : Nat) : Int)) _ S hE.chip hE.good.fine (by omega) hE.good.wt D n9 Kq Pq Sq Eq 0 0 HSI bs Q Sk hZ hq9 H8B hLK).mono ?_); rintro e' wL ⟨rfl, hCL, hTL⟩; have hE1 := hE.read hmw (q9 : Int) (k : Int) hCL hZ.out.2.2.2 hTL; obtain ⟨z0, z1, z2⟩ : _ ∧ _ ∧ _ := ⟨hE1.box.cell_ 0, hE1.box.cell_ 1, hE1.box.cell_ 2⟩; simp at z0 z1 z2; have z9 := hE1.box.free; clear hE hTL hCL)))
                go_roundw
                case rel => exact ⟨k + 1, Sk, acc ++ [(q9, k, bs)], p + 1, q, r, by omega, by go_num, hE1.put hC (hE1.box.set_ 0 (.int .i64 ((p : Int) + 1))) (by have := hE1.le; omega), HW0, HC2⟩
                case measure => simp [intOf]; omega
              · subst h1
                have HSI : Hid ((1 : Int) = ((1 : Nat) : Int)) := Lib.hid rfl
                have HC2 : Hid (c3 (acc ++ [(q9, k, bs)]) = (p, q + 1, r)) := Lib.hid (by have h := c3_snoc acc q9 k bs HC3.out hst; simpa using h)
                clear hst HC3
                go_wp2_with (first | (go_at_call 39; ((with_reducible refine (rbad_v mR gB gN gW gD L AfR nfR cfR a b c d e fs (q9 : Int) false _ S hE.chip HBD).mono ?_); rintro e' wB ⟨rfl, hbB⟩; replace hE := hE.then hbB; clear hbB)) | (go_at_call 9; ((with_reducible refine (rstate_v mR gB gN gW gD L AfR nfR cfR a b c d e fs (q9 : Int) (k : Int) (n0 + 3 * ((i + k : Nat) : Int)) _ S hE.chip hE.good.fine (by omega) hE.good.wt D n9 Kq Pq Sq Eq 1 1 HSI bs Q Sk hZ hq9 H8B hLK).mono ?_); rintro e' wL ⟨rfl, hCL, hTL⟩; have hE1 := hE.read hmw (q9 : Int) (k : Int) hCL hZ.out.2.2.2 hTL; obtain ⟨z0, z1, z2⟩ : _ ∧ _ ∧ _ := ⟨hE1.box.cell_ 0, hE1.box.cell_ 1, hE1.box.cell_ 2⟩; simp at z0 z1 z2; have z9 := hE1.box.free; clear hE hTL hCL)))
                go_roundw
                case rel => exact ⟨k + 1, Sk, acc ++ [(q9, k, bs)], p, q + 1, r, by omega, by go_num, hE1.put hC (hE1.box.set_ 1 (.int .i64 ((q : Int) + 1))) (by have := hE1.le; omega), HW0, HC2⟩
                case measure => simp [intOf]; omega
              · subst h1
                have HSI : Hid ((2 : Int) = ((2 : Nat) : Int)) := Lib.hid rfl
                have HC2 : Hid (c3 (acc ++ [(q9, k, bs)]) = (p, q, r + 1)) := Lib.hid (by have h := c3_snoc acc q9 k bs HC3.out hst; simpa using h)
                clear hst HC3
                go_wp2_with (first | (go_at_call 39; ((with_reducible refine (rbad_v mR gB gN gW gD L AfR nfR cfR a b c d e fs (q9 : Int) false _ S hE.chip HBD).mono ?_); rintro e' wB ⟨rfl, hbB⟩; replace hE := hE.then hbB; clear hbB)) | (go_at_call 9; ((with_reducible refine (rstate_v mR gB gN gW gD L AfR nfR cfR a b c d e fs (q9 : Int) (k : Int) (n0 + 3 * ((i + k : Nat) : Int)) _ S hE.chip hE.good.fine (by omega) hE.good.wt D n9 Kq Pq Sq Eq 2 2 HSI bs Q Sk hZ hq9 H8B hLK).mono ?_); rintro e' wL ⟨rfl, hCL, hTL⟩; have hE1 := hE.read hmw (q9 : Int) (k : Int) hCL hZ.out.2.2.2 hTL; obtain ⟨z0, z1, z2⟩ : _ ∧ _ ∧ _ := ⟨hE1.box.cell_ 0, hE1.box.cell_ 1, hE1.box.cell_ 2⟩; simp at z0 z1 z2; have z9 := hE1.box.free; clear hE hTL hCL)))
                go_roundw
                case rel => exact ⟨k + 1, Sk, acc ++ [(q9, k, bs)], p, q, r + 1, by omega, by go_num, hE1.put hC (hE1.box.set_ 2 (.int .i64 ((r : Int) + 1))) (by have := hE1.le; omega), HW0, HC2⟩
                case measure => simp [intOf]; omega
            · have HRE : Hid (Z = Zk ∧ accR = acc ∧ S1 = Sk) := Lib.hid (by
                have h := hW.out
                rw [hstep, walkF_err (S1 := Sk) (Z := Zk) (by rw [hdv]; exact HBD.out) (by rw [hdv, hmd]; exact hz) hne (by rw [hdv, hmd]; exact hs1)] at h
                simp only [Prod.mk.injEq] at h
                exact ⟨h.1.symm, h.2.1.symm, h.2.2.symm⟩)
              have hz0 : (Zk == 0) = false := by simpa using hne
              have hz1 : (Zk != 0) = true := by simpa using hne
              clear hdv hmd hstep hz hs1 hbs hQ hW
              go_wp2_with (first | (go_at_call 39; ((with_reducible refine (rbad_v mR gB gN gW gD L AfR nfR cfR a b c d e fs (q9 : Int) false _ S hE.chip HBD).mono ?_); rintro e' wB ⟨rfl, hbB⟩; replace hE := hE.then hbB; clear hbB)) | (go_at_call 9; ((with_reducible refine (rstate_no mR gB gN gW gD L AfR nfR cfR a b c d e fs (q9 : Int) (k : Int) (n0 + 3 * ((i + k : Nat) : Int)) _ S hE.chip hE.good.fine (by omega) hE.good.wt Zk bs Q Sk hZ hne).mono ?_); rintro e' wL ⟨rfl, hCL, hTL⟩; have hE1 := hE.read hmw (q9 : Int) (k : Int) hCL hZ.out.2.2.2 hTL; obtain ⟨z0, z1, z2⟩ : _ ∧ _ ∧ _ := ⟨hE1.box.cell_ 0, hE1.box.cell_ 1, hE1.box.cell_ 2⟩; simp at z0 z1 z2; have z9 := hE1.box.free; clear hE hTL hCL)))
              obtain ⟨rfl, rfl, rfl⟩ := HRE.out
              have hl2 := hLf.out
              rw [if_neg hne] at hl2
              simp only [Prod.mk.injEq] at hl2
              obtain ⟨rfl, rfl, rfl⟩ := hl2
              exact bodyPost_ret (v := .tuple #[.int .i64 ((0 : Nat) : Int), .int .i64 ((0 : Nat) : Int), .int .i64 ((0 : Nat) : Int), .int .i64 Z]) (by simp [results, Try.results19, go_sem]) rfl ⟨rfl, hE1.chip, hE1.tch, hE1.good.mono (by omega)⟩
          · have hkN : k = NB := by have := HLAB.out.2; omega
            have HI2 : Hid (i + k = (q9 + 1) * NB) := Lib.hid (by rw [Nat.succ_mul, ← hi.out, hkN])
            go_wp2_with fail
            go_roundw
            case rel => exact ⟨q9 + 1, i + k, S, acc, p, q, r, by omega, by go_num, HI2, hE, hW, HC3⟩
            case measure => simp [intOf]; omega
    · have hqA : q9 = NA := by have := HLAB.out.1; omega
      have HRE : Hid (Z = 0 ∧ accR = acc ∧ S1 = S) := Lib.hid (by
        have h := hW.out
        rw [show NA * NB - i = 0 by rw [hi.out, hqA]; exact Nat.sub_self _] at h
        unfold walkF at h
        simp only [Prod.mk.injEq] at h
        exact ⟨h.1.symm, h.2.1.symm, h.2.2.symm⟩)
      have hiq : i ≤ 160 := by rw [hi.out, hqA]; exact hAB2
      clear hqA
      obtain ⟨z0, z1, z2⟩ : _ ∧ _ ∧ _ := ⟨hE.box.cell_ 0, hE.box.cell_ 1, hE.box.cell_ 2⟩
      simp at z0 z1 z2
      go_upto_region 12 with fail
      refine wp_region_noPanic ?_
      refine wp_region_held_drew (S := (fun w' => w'.cell? ⟨w.heap.size, 0, none⟩ = some (.int .i64 (p : Int)) ∧ w'.cell? ⟨w.heap.size, 1, none⟩ = some (.int .i64 (q : Int)) ∧ w'.cell? ⟨w.heap.size, 2, none⟩ = some (.int .i64 (r : Int)))) (by kernel_rfl) ?_ (fun hHeld => ?_)
      · (first | exact ⟨z0, z1, z2⟩ | assumption)
      refine tk 0 ⟨some 54, .indexAddr 98 (.tmp 6) (.const (.int .i64 0)), 0, "ref.go:63", #[], none⟩ ?_; try simp only [Act.put, pz1, pz2, pz3]
      refine tk 1 ⟨some 55, .load 3 (.tmp 54), 3, "ref.go:63", #[⟨0, .data⟩], none⟩ ?_; try simp only [Act.put, pz1, pz2, pz3]
      refine tk 2 ⟨some 56, .indexAddr 98 (.tmp 6) (.const (.int .i64 1)), 0, "ref.go:63", #[{ on := 6, ground := Ground.gcOnly Departure.lateStores }], none⟩ ?_; try simp only [Act.put, pz1, pz2, pz3]
      refine tk 3 ⟨some 57, .load 3 (.tmp 56), 3, "ref.go:63", #[⟨2, .data⟩, { on := 6, ground := Ground.gcOnly Departure.lateStores }], none⟩ ?_; try simp only [Act.put, pz1, pz2, pz3]
      refine tk 4 ⟨some 58, .indexAddr 98 (.tmp 6) (.const (.int .i64 2)), 0, "ref.go:63", #[{ on := 7, ground := Ground.gcOnly Departure.lateStores }], none⟩ ?_; try simp only [Act.put, pz1, pz2, pz3]
      refine tk 5 ⟨some 59, .load 3 (.tmp 58), 3, "ref.go:63", #[⟨4, .data⟩, { on := 7, ground := Ground.gcOnly Departure.lateStores }], none⟩ ?_; try simp only [Act.put, pz1, pz2, pz3]
      refine tk 6 ⟨some 2, .assign (.tmp 55), 3, "ref.go:63", #[⟨1, .data⟩, ⟨0, .phase⟩, ⟨1, .phase⟩, { on := 2, ground := Ground.textOnly Departure.lateStores }, { on := 3, ground := Ground.textOnly Departure.lateStores }, { on := 4, ground := Ground.textOnly Departure.lateStores }, { on := 5, ground := Ground.textOnly Departure.lateStores }], none⟩ ?_; try simp only [Act.put, pz1, pz2, pz3]
      refine tk 7 ⟨some 3, .assign (.tmp 57), 3, "ref.go:63", #[⟨3, .data⟩, ⟨6, .chain⟩, ⟨0, .phase⟩, ⟨1, .phase⟩, ⟨2, .phase⟩, ⟨3, .phase⟩, { on := 4, ground := Ground.textOnly Departure.lateStores }, { on := 5, ground := Ground.textOnly Departure.lateStores }, ⟨6, .phase⟩], none⟩ ?_; try simp only [Act.put, pz1, pz2, pz3]
      refine tk 8 ⟨some 4, .assign (.tmp 59), 3, "ref.go:63", #[⟨5, .data⟩, ⟨7, .chain⟩, ⟨0, .phase⟩, ⟨1, .phase⟩, ⟨2, .phase⟩, ⟨3, .phase⟩, ⟨4, .phase⟩, ⟨5, .phase⟩, ⟨6, .phase⟩, ⟨7, .phase⟩], none⟩ ?_; try simp only [Act.put, pz1, pz2, pz3]
      refine tk 9 ⟨some 5, .assign (.const (.int .i64 0)), 3, "ref.go:63", #[⟨8, .chain⟩, ⟨0, .phase⟩, ⟨1, .phase⟩, ⟨2, .phase⟩, ⟨3, .phase⟩, ⟨4, .phase⟩, ⟨5, .phase⟩, ⟨6, .phase⟩, ⟨7, .phase⟩, ⟨8, .phase⟩], none⟩ ?_; try simp only [Act.put, pz1, pz2, pz3]
      refine wpAnyH_done (by kernel_rfl) ?_ _
      refine NoPanic.normal ?_
      clear hHeld
      go_wp2_with fail
      obtain ⟨rfl, rfl, rfl⟩ := HRE.out
      have hl2 := hLf.out
      rw [if_pos rfl, HC3.out] at hl2
      simp only [Prod.mk.injEq] at hl2
      obtain ⟨rfl, rfl, rfl⟩ := hl2
      exact bodyPost_ret (v := .tuple #[.int .i64 (p : Int), .int .i64 (q : Int), .int .i64 (r : Int), .int .i64 0]) (by simp [results, Try.results19, go_sem]) rfl ⟨rfl, (by first | exact hE.chip | exact hE.chip.like), (by first | exact hE.tch | exact hE.tch.like), hE.good.mono (by omega)⟩
end Go.Proofs.Ytcpniplfkillbaa
namespace Go.Proofs.Ytcpniplfkillbaa
open Go.ChangeShapes Go.WideShapes Go.ChangeAt Go.RowKit
attribute [local go_sem ↓] Go.wp_at_zero Go.wp_at_succ
theorem scan_err (m gx gb : Nat) (Af : Option Addr) (nf cf : Nat) (a b c d e : Int) (fs : List Flt) (NA NB : Nat) (n0 : Int) (Z : Int) (hne : Z ≠ 0) (acc : List Vis) (s S1 : ChS) (w : World) (hC : ChipW w m gx gb Af nf cf a b c d e fs s) (hg : Good s n0) (hn0 : n0 ≤ 800000000) (h8 : Bytes8 s.X) (hNA : (NA : Int) = a) (hNB : (NB : Int) = b) (hR : Hid (walkF a b c NB fs (NA * NB) 0 s [] = (Z, acc, S1))) :
    Calls Try.prog 16 #[.pointer (some ⟨m, 0, none⟩)] w fun e' w' => e' = .returned (.tuple #[.slice none 0 0, .int .i64 Z]) ∧ ChipW w' m gx gb Af nf cf a b c d e fs S1 ∧ Tch (chB m gx gb) w w' ∧ Good S1 (n0 + 1000) ∧ Bytes8 S1.X := by
  have hz1 : (Z == 0) = false := by simpa using hne
  have hz2 : (Z != 0) = true := by simpa using hne
  have hCN := (ChN.start hC).below_ (show Below w.heap.size w (w.alloc (.cells #[.slice none 0 0] 51)) from (Below.refl _ _).alloc (Nat.le_refl _) _)
  have hsz1 : w.heap.size ≤ (w.alloc (.cells #[.slice none 0 0] 51)).heap.size := by simp
  have hB1 : Blk (w.alloc (.cells #[.slice none 0 0] 51)) w.heap.size 51 #[.slice none 0 0] := Blk.new_ _ _ _
  have hgs : w.heap.size ≤ w.heap.size ∧ w.heap.size < (w.alloc (.cells #[.slice none 0 0] 51)).heap.size := ⟨Nat.le_refl _, hB1.lt⟩
  have hcap : Cap (w.alloc (.cells #[.slice none 0 0] 51)) w.heap.size ((w.alloc (.cells #[.slice none 0 0] 51)).heap.size + 2) (fdsOf []) := ⟨⟨_, hB1, RowFd.nil_ _ _⟩, by have := hB1.lt; omega⟩
  have hBW : Below w.heap.size w (w.alloc (.cells #[.slice none 0 0] 51)) := (Below.refl _ _).alloc (Nat.le_refl _) _
  have HNA := Lib.hid (And.intro hNA hNB)
  have hmf : ∀ (fn : Fn) (first cap : Array Value) (w : World), (Instr.makeFunc fn first cap).run Try.prog w = .ok (.func fn first cap) w := fun _ _ _ _ => rfl
  go_enter Try.func16, Try.ntmps16
  go_wp2_with (go_at_call 37; ((with_reducible refine (each_scan (w.alloc (.cells #[.slice none 0 0] 51)) n0 m gx gb Af nf cf a b c d e fs w.heap.size NA NB w.heap.size s (Z, acc, S1) hCN hsz1 hgs hcap hg hn0 h8 hNA hNB hR).mono ?_); rintro e' wE hX; obtain ⟨rfl, hCE, hKE, hlE, hTE, hGE, hBE⟩ := hX; obtain ⟨⟨v, hvB, hvR⟩, -⟩ := hKE; have z0 := hvB.cell_ 0; simp at z0))
  go_ret2
  refine ⟨rfl, hCE, ?_, hGE, hBE⟩
  exact ((Tch.of_below (S := fun g => chB m gx gb g ∨ g = w.heap.size) hBW).trans hTE).monoL (fun g hg h => by rcases h with h | h; exact h; omega)
theorem count_err (m gx gb : Nat) (Af : Option Addr) (nf cf : Nat) (a b c d e : Int) (fs : List Flt) (NA NB : Nat) (n0 : Int) (Z : Int) (hne : Z ≠ 0) (acc : List Vis) (s S1 : ChS) (w : World) (hC : ChipW w m gx gb Af nf cf a b c d e fs s) (hg : Good s n0) (hn0 : n0 ≤ 800000000) (h8 : Bytes8 s.X) (hNA : (NA : Int) = a) (hNB : (NB : Int) = b) (hR : Hid (walkF a b c NB fs (NA * NB) 0 s [] = (Z, acc, S1))) :
    Calls Try.prog 18 #[.pointer (some ⟨m, 0, none⟩)] w fun e' w' => e' = .returned (.tuple #[.int .i64 0, .int .i64 0, .int .i64 0, .int .i64 Z]) ∧ ChipW w' m gx gb Af nf cf a b c d e fs S1 ∧ Tch (chB m gx gb) w w' ∧ Good S1 (n0 + 1000) ∧ Bytes8 S1.X := by
  have hz1 : (Z == 0) = false := by simpa using hne
  have hz2 : (Z != 0) = true := by simpa using hne
  have hBW : Below w.heap.size w (((w.alloc (.cells #[.int .i64 0] 3)).alloc (.cells #[.int .i64 0] 3)).alloc (.cells #[.int .i64 0] 3)) := (((Below.refl _ _).alloc (Nat.le_refl _) _).alloc (by simp) _).alloc (by simp; omega) _
  have hCN := (ChN.start hC).below_ hBW
  have hsz1 : w.heap.size ≤ (((w.alloc (.cells #[.int .i64 0] 3)).alloc (.cells #[.int .i64 0] 3)).alloc (.cells #[.int .i64 0] 3)).heap.size := by simp; omega
  have hB1 : Blk (((w.alloc (.cells #[.int .i64 0] 3)).alloc (.cells #[.int .i64 0] 3)).alloc (.cells #[.int .i64 0] 3)) w.heap.size 3 #[.int .i64 0] := ((Blk.new_ w _ _).alloc_ _).alloc_ _
  have hB2 : Blk (((w.alloc (.cells #[.int .i64 0] 3)).alloc (.cells #[.int .i64 0] 3)).alloc (.cells #[.int .i64 0] 3)) (w.heap.size + 1) 3 #[.int .i64 0] := (blk_new (by simp)).alloc_ _
  have hB3 : Blk (((w.alloc (.cells #[.int .i64 0] 3)).alloc (.cells #[.int .i64 0] 3)).alloc (.cells #[.int .i64 0] 3)) (w.heap.size + 2) 3 #[.int .i64 0] := blk_new (by simp)
  have hgs : w.heap.size ≤ w.heap.size ∧ w.heap.size < (((w.alloc (.cells #[.int .i64 0] 3)).alloc (.cells #[.int .i64 0] 3)).alloc (.cells #[.int .i64 0] 3)).heap.size ∧ w.heap.size ≤ w.heap.size + 1 ∧ w.heap.size + 1 < (((w.alloc (.cells #[.int .i64 0] 3)).alloc (.cells #[.int .i64 0] 3)).alloc (.cells #[.int .i64 0] 3)).heap.size ∧ w.heap.size ≤ w.heap.size + 2 ∧ w.heap.size + 2 < (((w.alloc (.cells #[.int .i64 0] 3)).alloc (.cells #[.int .i64 0] 3)).alloc (.cells #[.int .i64 0] 3)).heap.size := ⟨Nat.le_refl _, hB1.lt, by omega, hB2.lt, by omega, hB3.lt⟩
  have hcap : Cnt (((w.alloc (.cells #[.int .i64 0] 3)).alloc (.cells #[.int .i64 0] 3)).alloc (.cells #[.int .i64 0] 3)) w.heap.size (w.heap.size + 1) (w.heap.size + 2) (cnt (fun s => s == 0) []) (cnt (fun s => s == 1) []) (cnt (fun s => !(s == 0 || s == 1)) []) := ⟨hB1, hB2, hB3, by omega, by omega, by omega⟩
  have HNA := Lib.hid (And.intro hNA hNB)
  have hmf : ∀ (fn : Fn) (first cap : Array Value) (w : World), (Instr.makeFunc fn first cap).run Try.prog w = .ok (.func fn first cap) w := fun _ _ _ _ => rfl
  go_enter Try.func18, Try.ntmps18
  go_wp2_with (go_at_call 37; ((with_reducible refine (each_count (((w.alloc (.cells #[.int .i64 0] 3)).alloc (.cells #[.int .i64 0] 3)).alloc (.cells #[.int .i64 0] 3)) n0 m gx gb Af nf cf a b c d e fs w.heap.size NA NB w.heap.size (w.heap.size + 1) (w.heap.size + 2) s (Z, acc, S1) hCN hsz1 hgs hcap hg hn0 h8 hNA hNB hR).mono ?_); rintro e' wE hX; obtain ⟨rfl, hCE, hKE, hlE, hTE, hGE, hBE⟩ := hX))
  refine bodyPost_ret (v := .tuple #[.int .i64 0, .int .i64 0, .int .i64 0, .int .i64 Z]) (by simp [results, Try.results18, go_sem]) rfl ⟨rfl, hCE, ?_, hGE, hBE⟩
  exact ((Tch.of_below (S := fun g => chB m gx gb g ∨ cB w.heap.size (w.heap.size + 1) (w.heap.size + 2) g) hBW).trans hTE).monoL (S' := chB m gx gb) (fun g hg h => by rcases h with h | h | h | h; exact h; omega; omega; omega)
theorem scan_any (m gx gb : Nat) (Af : Option Addr) (nf cf : Nat) (a b c d e : Int) (fs : List Flt) (NA NB : Nat) (n0 : Int) (Z : Int) (accR : List Vis) (s S1 : ChS) (w : World) (hC : ChipW w m gx gb Af nf cf a b c d e fs s) (hg : Good s n0) (hn0 : n0 ≤ 800000000) (h8 : Bytes8 s.X) (hNA : (NA : Int) = a) (hNB : (NB : Int) = b) (hR : Hid (walkF a b c NB fs (NA * NB) 0 s [] = (Z, accR, S1))) (Lf : List Fd) (n : Nat) (hLf : Hid ((if Z = 0 then fdsOf accR else []) = Lf ∧ Lf.length = n)) :
    Calls Try.prog 16 #[.pointer (some ⟨m, 0, none⟩)] w fun e' w' => (∃ A c', e' = .returned (.tuple #[.slice A n c', .int .i64 Z]) ∧ RowFd w' w.heap.size (.slice A n c') Lf) ∧ ChipW w' m gx gb Af nf cf a b c d e fs S1 ∧ Tch (chB m gx gb) w w' ∧ Good S1 (n0 + 1000) ∧ Bytes8 S1.X := by
  by_cases hz : Z = 0
  · subst hz
    obtain ⟨h1, h2⟩ := hLf.out
    rw [if_pos rfl] at h1
    subst h1
    exact scan_ok m gx gb Af nf cf a b c d e fs NA NB n0 accR s S1 w hC hg hn0 h8 hNA hNB hR n (Lib.hid h2)
  · refine (scan_err m gx gb Af nf cf a b c d e fs NA NB n0 Z hz accR s S1 w hC hg hn0 h8 hNA hNB hR).mono ?_
    rintro e' w' ⟨rfl, h⟩
    obtain ⟨h1, h2⟩ := hLf.out
    rw [if_neg hz] at h1
    subst h1
    subst h2
    exact ⟨⟨none, 0, rfl, RowFd.nil_ _ _⟩, h⟩
theorem count_any (m gx gb : Nat) (Af : Option Addr) (nf cf : Nat) (a b c d e : Int) (fs : List Flt) (NA NB : Nat) (n0 : Int) (Z : Int) (accR : List Vis) (s S1 : ChS) (w : World) (hC : ChipW w m gx gb Af nf cf a b c d e fs s) (hg : Good s n0) (hn0 : n0 ≤ 800000000) (h8 : Bytes8 s.X) (hNA : (NA : Int) = a) (hNB : (NB : Int) = b) (hR : Hid (walkF a b c NB fs (NA * NB) 0 s [] = (Z, accR, S1))) (pR qR rR : Nat) (hLf : Hid ((if Z = 0 then c3 accR else (0, 0, 0)) = (pR, qR, rR))) :
    Calls Try.prog 18 #[.pointer (some ⟨m, 0, none⟩)] w fun e' w' => e' = .returned (.tuple #[.int .i64 (pR : Int), .int .i64 (qR : Int), .int .i64 (rR : Int), .int .i64 Z]) ∧ ChipW w' m gx gb Af nf cf a b c d e fs S1 ∧ Tch (chB m gx gb) w w' ∧ Good S1 (n0 + 1000) ∧ Bytes8 S1.X := by
  have h := hLf.out
  by_cases hz : Z = 0
  · subst hz
    rw [if_pos rfl] at h
    unfold c3 at h
    simp only [Prod.mk.injEq] at h
    exact count_ok m gx gb Af nf cf a b c d e fs NA NB n0 accR s S1 w hC hg hn0 h8 hNA hNB hR pR qR rR (Lib.hid h)
  · rw [if_neg hz] at h
    simp only [Prod.mk.injEq] at h
    obtain ⟨rfl, rfl, rfl⟩ := h
    exact count_err m gx gb Af nf cf a b c d e fs NA NB n0 Z hz accR s S1 w hC hg hn0 h8 hNA hNB hR
end Go.Proofs.Ytcpniplfkillbaa
namespace Go.Proofs.Ytcpniplfkillbaa
open Go.ChangeShapes Go.WideShapes Go.ChangeAt Go.RowKit
attribute [local go_sem ↓] Go.wp_at_zero Go.wp_at_succ
theorem own_st6 {w : World} {base g n cap i : Nat} {e : TypeId} {xs : List Value} (h : w.ownsRow base e 6 (.slice (some ⟨g, 0, none⟩) n cap) n xs) (u0 u1 u2 u3 u4 u5 : Value) : ∃ ys, (((((((w.setCell ⟨g, i, none⟩ u0).setCell ⟨g, i + 1, none⟩ u1).setCell ⟨g, i + 2, none⟩ u2).setCell ⟨g, i + 3, none⟩ u3).setCell ⟨g, i + 4, none⟩ u4).setCell ⟨g, i + 5, none⟩ u5)).ownsRow base e 6 (.slice (some ⟨g, 0, none⟩) n cap) n ys ∧ Tch (fun x => x = g) w ((((((w.setCell ⟨g, i, none⟩ u0).setCell ⟨g, i + 1, none⟩ u1).setCell ⟨g, i + 2, none⟩ u2).setCell ⟨g, i + 3, none⟩ u3).setCell ⟨g, i + 4, none⟩ u4).setCell ⟨g, i + 5, none⟩ u5) :=
  ⟨_, ((((((h.stored i u0).1.stored (i + 1) u1).1.stored (i + 2) u2).1.stored (i + 3) u3).1.stored (i + 4) u4).1.stored (i + 5) u5).1, (((((Tch.setm w g i u0).trans (Tch.setm _ g _ u1)).trans (Tch.setm _ g _ u2)).trans (Tch.setm _ g _ u3)).trans (Tch.setm _ g _ u4)).trans (Tch.setm _ g _ u5)⟩
@[go_sem] theorem build_fd9 (w : World) : (Instr.buildSlice 51 1 #[(0, (.agg #[.int .i64 (-9), .int .i64 0, .int .i64 0, .int .i64 0, .int .i64 0, .int .i64 0]))]).run Try.prog w = .ok (.slice (some ⟨w.heap.size, 0, none⟩) 1 1) (w.alloc (.cells #[.int .i64 (-9), .int .i64 0, .int .i64 0, .int .i64 0, .int .i64 0, .int .i64 0] 65)) := by kernel_rfl
theorem overfs_any (n g cap : Nat) (L : List Fd) (base : Nat) (w : World) (ho : RowFd w base (.slice (some ⟨g, 0, none⟩) n cap) L) (hL : L.length = n) (hb : base ≤ w.heap.size) (hn : n ≤ 1000) :
    Calls Try.prog 21 #[.slice (some ⟨g, 0, none⟩) n cap] w fun e' w' => (∃ v, e' = .returned v) ∧ Tch (fun g => base ≤ g) w w' := by
  obtain ⟨ti0, hi, hz0, hz1, hz2⟩ := info_parts infoFdS
  have ho : w.ownsRow base 65 6 (.slice (some ⟨g, 0, none⟩) n cap) n (L.flatMap fCs) := by subst hL; exact ho
  clear hL
  go_enter Try.func21, Try.ntmps21
  go_wp2
  go_loopw [2] (fun i wr => ∃ (k : Nat) (ys : List Value), k ≤ n ∧ i = .int .i64 k ∧ wr.ownsRow base 65 6 (.slice (some ⟨g, 0, none⟩) n cap) n ys ∧ Tch (fun g => base ≤ g) w wr) (fun i _ => n - (intOf i).toNat)
  case atStart => exact ⟨0, _, Nat.zero_le _, rfl, ho, Tch.refl _⟩
  case round =>
    obtain ⟨k, ys, hk, rfl, hr, hB⟩ := hrel
    have hsz := hB.size
    by_cases hlt : k < n
    · have hyl : ys.length = n * 6 := by have := hr.1; omega
      have c0 : wr.cell? ⟨g, k * 6, none⟩ = some (ys.getD (k * 6) (.bool false)) := by
        rw [hr.cellAt _ (by omega)]
        simp [show k * 6 < ys.length by omega]
      have c1 : wr.cell? ⟨g, k * 6 + 1, none⟩ = some (ys.getD (k * 6 + 1) (.bool false)) := by
        rw [hr.cellAt _ (by omega)]
        simp [show k * 6 + 1 < ys.length by omega]
      have c2 : wr.cell? ⟨g, k * 6 + 2, none⟩ = some (ys.getD (k * 6 + 2) (.bool false)) := by
        rw [hr.cellAt _ (by omega)]
        simp [show k * 6 + 2 < ys.length by omega]
      have c3 : wr.cell? ⟨g, k * 6 + 3, none⟩ = some (ys.getD (k * 6 + 3) (.bool false)) := by
        rw [hr.cellAt _ (by omega)]
        simp [show k * 6 + 3 < ys.length by omega]
      have c4 : wr.cell? ⟨g, k * 6 + 4, none⟩ = some (ys.getD (k * 6 + 4) (.bool false)) := by
        rw [hr.cellAt _ (by omega)]
        simp [show k * 6 + 4 < ys.length by omega]
      have c5 : wr.cell? ⟨g, k * 6 + 5, none⟩ = some (ys.getD (k * 6 + 5) (.bool false)) := by
        rw [hr.cellAt _ (by omega)]
        simp [show k * 6 + 5 < ys.length by omega]
      have f1 : ∀ i, wr.frozen? ⟨g, i, none⟩ = false := fun i => hr.frozenAt i
      have i0' : (0 : Int) ≤ (k : Int) := by omega
      have i1 : (k : Int) < (n : Int) := by omega
      obtain ⟨zs, hst, hTs⟩ := own_st6 (i := k * 6) hr (.int .i64 (-9)) (.int .i64 0) (.int .i64 0) (.int .i64 0) (.int .i64 0) (.int .i64 0)
      have hgl := (hr.lt g rfl).1
      clear hyl
      go_wp2
      go_roundw
      case rel => exact ⟨k + 1, zs, by omega, by go_num, hst, hB.trans (hTs.mono (fun x hx => by subst hx; omega))⟩
      case measure => simp [intOf]; omega
    · go_wp2_with (at_builtin; refine wpList_app _ rfl (.tmp 14) (.tmp 17) _ rfl base 65 ti0 _ 6 48 Try.underlying51 hi hz0 hz1 hz2 rfl (by decide) _ _ _ rfl (hr.alloc _) _ 1 _ (fCs (⟨-9, 0, 0, 0, 0, 0⟩ : Fd)) rfl (rd_newF _ _ _ _ _ _ _ (by simp)) (flat_one1 _) (by unfold maxLen; omega) (by omega) (by simp; omega) ?_; intro s2 w2 ho2 hg2 hv2)
      have hgl := (hr.lt g rfl).1
      have HF : Tch (fun g => base ≤ g) w w2 := (hB.then ((Below.refl _ _).alloc (Nat.le_refl _) _)).trans (Tch.grown hg2 (fun x hx => by cases hx; exact hgl))
      exact bodyPost_end (v := .tuple #[]) (by simp [results, Try.results21, go_sem]) rfl ⟨⟨_, rfl⟩, HF⟩
theorem overfs_nil (base : Nat) (w : World) (hb : base ≤ w.heap.size) :
    Calls Try.prog 21 #[.slice none 0 0] w fun e' w' => (∃ v, e' = .returned v) ∧ Tch (fun g => base ≤ g) w w' := by
  obtain ⟨ti0, hi, hz0, hz1, hz2⟩ := info_parts infoFdS
  go_enter Try.func21, Try.ntmps21
  go_wp2
  go_loopw [2] (fun i wr => i = .int .i64 0 ∧ wr = w) (fun i _ => 0)
  case atStart => exact ⟨rfl, rfl⟩
  case round =>
    obtain ⟨rfl, rfl⟩ := hrel
    go_wp2_with (at_builtin; refine wpList_app _ rfl (.tmp 14) (.tmp 17) _ rfl base 65 ti0 _ 6 48 Try.underlying51 hi hz0 hz1 hz2 rfl (by decide) (.slice none 0 0) 0 [] rfl (World.ownsRow_nil _ _ _ _) _ 1 _ (fCs (⟨-9, 0, 0, 0, 0, 0⟩ : Fd)) rfl (rd_newF _ _ _ _ _ _ _ (by simp)) (flat_one1 _) (by unfold maxLen; omega) (by omega) (by simp; omega) ?_; intro s2 w2 ho2 hg2 hv2)
    have HF : Tch (fun g => base ≤ g) wr w2 := (Tch.of_below ((Below.refl _ _).alloc (Nat.le_refl _) _)).trans (Tch.grown hg2 (fun x hx => by cases hx))
    exact bodyPost_end (v := .tuple #[]) (by simp [results, Try.results21, go_sem]) rfl ⟨⟨_, rfl⟩, HF⟩
theorem overf (base : Nat) (A : Option Addr) (n cap : Nat) (L : List Fd) (w : World) (ho : RowFd w base (.slice A n cap) L) (hL : Hid (L.length = n)) (hb : base ≤ w.heap.size) (hn : n ≤ 1000) :
    Calls Try.prog 21 #[.slice A n cap] w fun e' w' => (∃ v, e' = .returned v) ∧ Tch (fun g => base ≤ g) w w' := by
  have h2 := ho.2
  rcases h2 with ⟨h2, h3⟩ | ⟨g, cp, cur, h2, _⟩
  · cases h2
    exact overfs_nil base w hb
  · cases h2
    exact overfs_any _ g _ L base w ho rfl hb hn
end Go.Proofs.Ytcpniplfkillbaa
namespace Go.Proofs.Ytcpniplfkillbaa
open Go.ChangeShapes Go.WideShapes Go.ChangeAt Go.RowKit
attribute [local go_sem ↓] Go.wp_at_zero Go.wp_at_succ
structure Seen (s : ChS) (a b c x y : Int) (Z : Int) (sv : Nat) (D : List Nat) (n K P S E : Nat) (Z2 : Int) (S1 : ChS) : Prop where
  s1 : s.readS a b x y = S1
  z : s.readZ a b x y = Z
  v : (Z ≠ 0 ∧ sv = 0 ∧ D = [] ∧ n = 0 ∧ K = 0 ∧ P = 0 ∧ S = 0 ∧ E = 0 ∧ Z2 = Z) ∨ (Z = 0 ∧ Lk (s.readB a b c x y) D n K P S E sv ∧ Z2 = if sv = 1 then 0 else 5)
theorem Seen.ex (s : ChS) (a b c x y : Int) : ∃ Z sv D n K P S E Z2 S1, Seen s a b c x y Z sv D n K P S E Z2 S1 := by
  by_cases hz : s.readZ a b x y = 0
  · obtain ⟨D, n, K, P, S, E, st, hlk⟩ := Lk.ex (s.readB a b c x y)
    exact ⟨0, st, D, n, K, P, S, E, _, _, rfl, hz, Or.inr ⟨rfl, hlk, rfl⟩⟩
  · exact ⟨_, 0, [], 0, 0, 0, 0, 0, _, _, rfl, rfl, Or.inl ⟨hz, rfl, rfl, rfl, rfl, rfl, rfl, rfl, rfl⟩⟩
theorem Seen.n {s : ChS} {a b c x y : Int} {Z : Int} {sv : Nat} {D : List Nat} {n K P S E : Nat} {Z2 : Int} {S1 : ChS} (h : Seen s a b c x y Z sv D n K P S E Z2 S1) (hc : c ≤ 64) : D.length = n ∧ n ≤ 1000000 := by
  rcases h.v with ⟨_, _, rfl, rfl, _⟩ | ⟨_, hl, _⟩
  · exact ⟨rfl, by omega⟩
  · refine ⟨hl.n, ?_⟩
    have h2 := hl.n
    have h3 := hl.d
    unfold lkD at h3
    have h4 := readB_le s a b c x y hc
    split at h3
    · rw [← h2, ← h3, List.length_take]
      omega
    · rw [← h2, ← h3]
      simp
theorem state_any (m gx gb : Nat) (Af : Option Addr) (nf cf : Nat) (a b c d e : Int) (fs : List Flt) (x y n0 : Int) (w : World) (s : ChS) (hC : ChipW w m gx gb Af nf cf a b c d e fs s) (hs : Fine s n0) (hn0 : n0 ≤ 900000000) (h8 : Bytes8 s.X) (hc64 : c ≤ 64) (Z : Int) (sv : Nat) (D : List Nat) (n K P S E : Nat) (Z2 : Int) (S1 : ChS) (h : Hid (Seen s a b c x y Z sv D n K P S E Z2 S1)) :
    Calls Try.prog 8 #[.pointer (some ⟨m, 0, none⟩), .agg #[.int .i64 x, .int .i64 y]] w fun e' w' => e' = .returned (.tuple #[.int .i64 (sv : Nat), .int .i64 Z]) ∧ ChipW w' m gx gb Af nf cf a b c d e fs S1 ∧ Tch (chB m gx gb) w w' := by
  have hb8 := readB_8 h8 a b c x y
  have hbl := readB_le s a b c x y hc64
  obtain ⟨hs1, hz, hv⟩ := h.out
  rcases hv with ⟨hne, rfl, rfl, rfl, rfl, rfl, rfl, rfl, rfl⟩ | ⟨rfl, hlk, rfl⟩
  · exact state_no m gx gb Af nf cf a b c d e fs x y n0 w s hC hs hn0 _ S1 (Lib.hid ⟨hz, trivial, hs1⟩) hne
  · exact state_yes m gx gb Af nf cf a b c d e fs x y n0 w s hC hs hn0 D n K P S E sv S1 _ hb8 hbl (Lib.hid ⟨hz, rfl, hs1⟩) (Lib.hid hlk)
theorem rstate_any (mR gB gN gW gD L : Nat) (AfR : Option Addr) (nfR cfR : Nat) (a b c d e : Int) (fs : List Flt) (x y n0 : Int) (w : World) (s : ChS) (hC : RefW w mR gB gN gW gD L AfR nfR cfR a b c d e fs s) (hs : Fine s n0) (hwt : s.Wt) (hn0 : n0 ≤ 900000000) (h8 : Bytes8 s.X) (hc64 : c ≤ 64) (Z : Int) (sv : Nat) (D : List Nat) (n K P S E : Nat) (Z2 : Int) (S1 : ChS) (h : Hid (Seen s a b c x y Z sv D n K P S E Z2 S1)) :
    Calls Try.prog 9 #[.pointer (some ⟨mR, 0, none⟩), .agg #[.int .i64 x, .int .i64 y]] w fun e' w' => e' = .returned (.tuple #[.int .i64 (sv : Nat), .int .i64 Z]) ∧ RefW w' mR gB gN gW gD L AfR nfR cfR a b c d e fs S1 ∧ Tch (fun g => g = mR) w w' := by
  have hb8 := readB_8 h8 a b c x y
  have hbl := readB_le s a b c x y hc64
  obtain ⟨hs1, hz, hv⟩ := h.out
  rcases hv with ⟨hne, rfl, rfl, rfl, rfl, rfl, rfl, rfl, rfl⟩ | ⟨rfl, hlk, rfl⟩
  · exact rstate_no mR gB gN gW gD L AfR nfR cfR a b c d e fs x y n0 w s hC hs hn0 hwt _ _ _ S1 (Lib.hid ⟨hz, rfl, rfl, hs1⟩) hne
  · exact rstate_yes mR gB gN gW gD L AfR nfR cfR a b c d e fs x y n0 w s hC hs hn0 hwt D n K P S E sv _ _ S1 (Lib.hid ⟨hz, rfl, rfl, hs1⟩) hbl hb8 (Lib.hid hlk)
theorem load_any (m gx gb : Nat) (Af : Option Addr) (nf cf : Nat) (a b c d e : Int) (fs : List Flt) (x y n0 : Int) (w : World) (s : ChS) (hC : ChipW w m gx gb Af nf cf a b c d e fs s) (hs : Fine s n0) (hn0 : n0 ≤ 900000000) (h8 : Bytes8 s.X) (hc64 : c ≤ 64) (Z : Int) (sv : Nat) (D : List Nat) (n K P S E : Nat) (Z2 : Int) (S1 : ChS) (h : Hid (Seen s a b c x y Z sv D n K P S E Z2 S1)) :
    Calls Try.prog 10 #[.pointer (some ⟨m, 0, none⟩), .agg #[.int .i64 x, .int .i64 y]] w fun e' w' => (∃ A' c', e' = .returned (.tuple #[.slice A' n c', .agg #[.int .i64 (K : Nat), .int .i64 (P : Nat), .int .i64 (S : Nat), .int .i64 (E : Nat)], .int .i64 Z2]) ∧ w'.ownsRow w.heap.size 5 1 (.slice A' n c') n (D.map byteV)) ∧ ChipW w' m gx gb Af nf cf a b c d e fs S1 ∧ Tch (chB m gx gb) w w' := by
  have hb8 := readB_8 h8 a b c x y
  have hbl := readB_le s a b c x y hc64
  obtain ⟨hs1, hz, hv⟩ := h.out
  rcases hv with ⟨hne, rfl, rfl, rfl, rfl, rfl, rfl, rfl, rfl⟩ | ⟨rfl, hlk, rfl⟩
  · refine (load_no m gx gb Af nf cf a b c d e fs x y n0 w s hC hs hn0 _ S1 (Lib.hid ⟨hz, trivial, hs1⟩) hne).mono ?_
    rintro e' w' ⟨rfl, h1, h2⟩
    exact ⟨⟨none, 0, rfl, World.ownsRow_nil _ _ _ _⟩, h1, h2⟩
  · by_cases h1 : sv = 1
    · subst h1
      rw [if_pos rfl]
      exact load_yes m gx gb Af nf cf a b c d e fs x y n0 w s hC hs hn0 D n K P S E 1 S1 _ hb8 hbl (Lib.hid ⟨hz, rfl, hs1⟩) (Lib.hid hlk) rfl
    · rw [if_neg h1]
      exact load_bad m gx gb Af nf cf a b c d e fs x y n0 w s hC hs hn0 D n K P S E sv S1 _ hb8 hbl (Lib.hid ⟨hz, rfl, hs1⟩) (Lib.hid hlk) h1
theorem rload_any (mR gB gN gW gD L : Nat) (AfR : Option Addr) (nfR cfR : Nat) (a b c d e : Int) (fs : List Flt) (x y n0 : Int) (w : World) (s : ChS) (hC : RefW w mR gB gN gW gD L AfR nfR cfR a b c d e fs s) (hs : Fine s n0) (hwt : s.Wt) (hn0 : n0 ≤ 900000000) (h8 : Bytes8 s.X) (hc64 : c ≤ 64) (Z : Int) (sv : Nat) (D : List Nat) (n K P S E : Nat) (Z2 : Int) (S1 : ChS) (h : Hid (Seen s a b c x y Z sv D n K P S E Z2 S1)) :
    Calls Try.prog 11 #[.pointer (some ⟨mR, 0, none⟩), .agg #[.int .i64 x, .int .i64 y]] w fun e' w' => (∃ A' c', e' = .returned (.tuple #[.slice A' n c', .agg #[.int .i64 (K : Nat), .int .i64 (P : Nat), .int .i64 (S : Nat), .int .i64 (E : Nat)], .int .i64 Z2]) ∧ w'.ownsRow w.heap.size 5 1 (.slice A' n c') n (D.map byteV)) ∧ RefW w' mR gB gN gW gD L AfR nfR cfR a b c d e fs S1 ∧ Tch (fun g => g = mR) w w' := by
  have hb8 := readB_8 h8 a b c x y
  have hbl := readB_le s a b c x y hc64
  obtain ⟨hs1, hz, hv⟩ := h.out
  rcases hv with ⟨hne, rfl, rfl, rfl, rfl, rfl, rfl, rfl, rfl⟩ | ⟨rfl, hlk, rfl⟩
  · refine (rload_no mR gB gN gW gD L AfR nfR cfR a b c d e fs x y n0 w s hC hs hn0 hwt _ _ _ S1 (Lib.hid ⟨hz, rfl, rfl, hs1⟩) hne).mono ?_
    rintro e' w' ⟨rfl, h1, h2⟩
    exact ⟨⟨none, 0, rfl, World.ownsRow_nil _ _ _ _⟩, h1, h2⟩
  · by_cases h1 : sv = 1
    · subst h1
      rw [if_pos rfl]
      exact rload_yes mR gB gN gW gD L AfR nfR cfR a b c d e fs x y n0 w s hC hs hn0 hwt D n K P S E _ _ S1 (Lib.hid ⟨hz, rfl, rfl, hs1⟩) hbl hb8 (Lib.hid hlk)
    · rw [if_neg h1]
      obtain ⟨rfl, rfl, rfl, rfl, rfl, rfl⟩ := hlk.no h1
      refine (rload_bad mR gB gN gW gD L AfR nfR cfR a b c d e fs x y n0 w s hC hs hn0 hwt _ _ _ _ _ _ sv _ _ S1 (Lib.hid ⟨hz, rfl, rfl, hs1⟩) hbl hb8 (Lib.hid hlk) h1).mono ?_
      rintro e' w' ⟨rfl, h1, h2⟩
      exact ⟨⟨none, 0, rfl, World.ownsRow_nil _ _ _ _⟩, h1, h2⟩
end Go.Proofs.Ytcpniplfkillbaa
namespace Go.Proofs.Ytcpniplfkillbaa
open Go.ChangeShapes Go.WideShapes Go.ChangeAt Go.RowKit
attribute [local go_sem ↓] Go.wp_at_zero Go.wp_at_succ
theorem walkF_len (a b c : Int) (NB : Nat) (fs : List Flt) : ∀ (r i : Nat) (s : ChS) (acc : List Vis), (walkF a b c NB fs r i s acc).2.1.length ≤ acc.length + r := by
  intro r
  induction r with
  | zero => intro i s acc; exact Nat.le_refl _
  | succ r ih =>
    intro i s acc
    rw [walkF]
    split
    · have := ih (i + 1) s acc; omega
    · split
      · refine Nat.le_trans (ih _ _ _) ?_
        rw [List.length_append]
        simp
        omega
      · dsimp only; omega
theorem arm_X (s : ChS) (o b : Int) (f : Nat) : (s.arm o b f).X = s.X := by
  unfold ChS.arm
  split <;> rfl
structure TSet (a b c : Int) (fs : List Flt) (x y cut : Int) (S0 : ChS) (NA NB : Nat) (Z1 : Int) (v1 : Nat) (D1 : List Nat) (n1 K1 P1 Q1 E1 : Nat) (Y1 : Int) (S1 : ChS) (Z2 : Int) (v2 : Nat) (D2 : List Nat) (n2 K2 P2 Q2 E2 : Nat) (Y2 : Int) (S2 : ChS) (Za : Int) (S3 : ChS) (Z4 : Int) (acc4 : List Vis) (S4 : ChS) (Lf : List Fd) (nf : Nat) (Z5 : Int) (acc5 : List Vis) (S5 : ChS) (pR qR rR : Nat) : Prop where
  na : (NA : Int) = a
  nb : (NB : Int) = b
  c64 : c ≤ 64
  sn1 : Hid (Seen S0 a b c x y Z1 v1 D1 n1 K1 P1 Q1 E1 Y1 S1)
  sn2 : Hid (Seen S1 a b c x y Z2 v2 D2 n2 K2 P2 Q2 E2 Y2 S2)
  g0 : Good S0 200
  g1 : Good S1 203
  g2 : Good S2 206
  g3 : Good S3 300
  b0 : Bytes8 S0.X
  b1 : Bytes8 S1.X
  b3 : Bytes8 S3.X
  dn : D2.length = n2 ∧ n2 ≤ 1000000
  arm : 0 < cut → Hid (S2.armC cut 0 = Za ∧ S2.arm cut 0 0 = S3)
  arm0 : ¬ 0 < cut → S3 = S2
  w1 : Hid (walkF a b c NB fs (NA * NB) 0 S3 [] = (Z4, acc4, S4))
  l1 : Hid ((if Z4 = 0 then fdsOf acc4 else []) = Lf ∧ Lf.length = nf)
  nf : nf ≤ 1000
  w2 : Hid (walkF a b c NB fs (NA * NB) 0 S4 [] = (Z5, acc5, S5))
  l2 : Hid ((if Z5 = 0 then c3 acc5 else (0, 0, 0)) = (pR, qR, rR))
theorem TSet.ex (a b c d e : Int) (fs : List Flt) (x y cut : Int) (S0 : ChS) (n : Int) (hp : planMay a b c d e fs = true) (hg : Good S0 n) (hn : n ≤ 200) (h8 : Bytes8 S0.X) : ∃ NA NB Z1 v1 D1 n1 K1 P1 Q1 E1 Y1 S1 Z2 v2 D2 n2 K2 P2 Q2 E2 Y2 S2 Za S3 Z4 acc4 S4 Lf nf Z5 acc5 S5 pR qR rR, TSet a b c fs x y cut S0 NA NB Z1 v1 D1 n1 K1 P1 Q1 E1 Y1 S1 Z2 v2 D2 n2 K2 P2 Q2 E2 Y2 S2 Za S3 Z4 acc4 S4 Lf nf Z5 acc5 S5 pR qR rR := by
  obtain ⟨g1, g2, g3, g4, g5, g6, -⟩ := may_bd (planMay_bd hp).1
  obtain ⟨NA, hNA⟩ : ∃ NA : Nat, (NA : Int) = a := ⟨a.toNat, by omega⟩
  obtain ⟨NB, hNB⟩ : ∃ NB : Nat, (NB : Int) = b := ⟨b.toNat, by omega⟩
  have hc : c ≤ 64 := g6
  obtain ⟨Z1, v1, D1, n1, K1, P1, Q1, E1, Y1, S1, h1⟩ := Seen.ex S0 a b c x y
  obtain ⟨Z2, v2, D2, n2, K2, P2, Q2, E2, Y2, S2, h2⟩ := Seen.ex S1 a b c x y
  have e1 : S1.X = S0.X := by rw [← h1.s1]; exact readS_X S0 a b x y
  have e2 : S2.X = S1.X := by rw [← h2.s1]; exact readS_X S1 a b x y
  have G1 : Good S1 203 := by rw [← h1.s1]; exact (hg.read a b x y).mono (by omega)
  have G2 : Good S2 206 := by rw [← h2.s1]; exact (G1.read a b x y).mono (by omega)
  obtain ⟨S3, hS3⟩ : ∃ S3, (if 0 < cut then S2.arm cut 0 0 else S2) = S3 := ⟨_, rfl⟩
  obtain ⟨Z4, acc4, S4, hw1⟩ : ∃ Z acc S, walkF a b c NB fs (NA * NB) 0 S3 [] = (Z, acc, S) := ⟨_, _, _, rfl⟩
  obtain ⟨Z5, acc5, S5, hw2⟩ : ∃ Z acc S, walkF a b c NB fs (NA * NB) 0 S4 [] = (Z, acc, S) := ⟨_, _, _, rfl⟩
  obtain ⟨Lf, hLf⟩ : ∃ L, (if Z4 = 0 then fdsOf acc4 else []) = L := ⟨_, rfl⟩
  obtain ⟨pR, qR, rR, hc3⟩ : ∃ p q r, (if Z5 = 0 then c3 acc5 else (0, 0, 0)) = (p, q, r) := ⟨_, _, _, rfl⟩
  have hX3 : S3.X = S0.X := by
    rw [← hS3]
    split
    · rw [arm_X, e2, e1]
    · rw [e2, e1]
  have G3 : Good S3 300 := by
    rw [← hS3]
    split
    · exact (G2.arm (by omega) cut 0 0 (by omega)).mono (by omega)
    · exact G2.mono (by omega)
  have hnf : Lf.length ≤ 1000 := by
    have h9 := walkF_len a b c NB fs (NA * NB) 0 S3 []
    rw [hw1] at h9
    have h10 : NA * NB ≤ 20 * 8 := Nat.mul_le_mul (by omega) (by omega)
    have h11 := fdsOf_len acc4
    rw [← hLf]
    dsimp only at h9
    split
    · simp at h9; omega
    · simp
  exact ⟨NA, NB, Z1, v1, D1, n1, K1, P1, Q1, E1, Y1, S1, Z2, v2, D2, n2, K2, P2, Q2, E2, Y2, S2, S2.armC cut 0, S3, Z4, acc4, S4, Lf, _, Z5, acc5, S5, pR, qR, rR, hNA, hNB, hc, Lib.hid h1, Lib.hid h2, hg.mono hn, G1, G2, G3, h8, by rw [e1]; exact h8, by rw [hX3]; exact h8, h2.n hc, fun h => Lib.hid ⟨rfl, by rw [← hS3, if_pos h]⟩, fun h => by rw [← hS3, if_neg h], Lib.hid hw1, Lib.hid ⟨hLf, rfl⟩, hnf, Lib.hid hw2, Lib.hid hc3⟩
theorem both_t (a b c d e : Int) (x y cut : Int) (A1 : Option Addr) (c1 : Nat) (fs : List Flt) (A : Option Addr) (len cap : Nat) (es : List (List Value)) (w : World) (hq1 : fs.length ≤ c1) (hq2 : c1 ≤ maxLen) (hsf : SlF w w.heap.size A1 fs) (hf20 : fs.length ≤ 20) (hlen : es.length = len) (hl60 : len ≤ 60) (hsl : SlE 8 w w.heap.size A es) (hfl : ∀ x ∈ es, Flat [some .i64, some .i64, some .u8, some .i64, some .i64, some .i64, some .i64, some .i64] x) :
    Calls Try.prog 7 #[.agg #[.int .i64 a, .int .i64 b, .int .i64 c, .int .i64 d, .int .i64 e], .slice A1 fs.length c1, .slice A len cap] w fun e' w' => ((e' = .returned (.tuple #[.pointer none, .pointer none, .bool true]) ∨ ∃ (L m gx gb : Nat) (AF : Option Addr) (cf mR gB gN gW gD : Nat) (AF2 : Option Addr) (cf2 : Nat) (S0 : ChS) (NA NB : Nat) (Z1 : Int) (v1 : Nat) (D1 : List Nat) (n1 K1 P1 Q1 E1 : Nat) (Y1 : Int) (S1 : ChS) (Z2 : Int) (v2 : Nat) (D2 : List Nat) (n2 K2 P2 Q2 E2 : Nat) (Y2 : Int) (S2 : ChS) (Za : Int) (S3 : ChS) (Z4 : Int) (acc4 : List Vis) (S4 : ChS) (Lf : List Fd) (nf : Nat) (Z5 : Int) (acc5 : List Vis) (S5 : ChS) (pR qR rR : Nat), e' = .returned (.tuple #[.pointer (some ⟨m, 0, none⟩), .pointer (some ⟨mR, 0, none⟩), .bool true]) ∧ Two w' L m gx gb AF fs.length cf mR gB gN gW gD AF2 fs.length cf2 a b c d e fs S0 S0 ∧ (∀ g, (twB m gx gb mR gB gN gW gD) g → w.heap.size < g) ∧ TSet a b c fs x y cut S0 NA NB Z1 v1 D1 n1 K1 P1 Q1 E1 Y1 S1 Z2 v2 D2 n2 K2 P2 Q2 E2 Y2 S2 Za S3 Z4 acc4 S4 Lf nf Z5 acc5 S5 pR qR rR)) ∧ Below w.heap.size w w' := by
  refine (both_any a b c d e A1 c1 fs A len cap es w hq1 hq2 hsf hf20 hlen hl60 hsl hfl).mono ?_
  rintro e' w' ⟨hcase, hb⟩
  refine ⟨?_, hb⟩
  rcases hcase with ⟨rfl, -⟩ | ⟨L, m, gx, gb, AF, cf, mR, gB, gN, gW, gD, AF2, cf2, S, rfl, h, hg, hl, hlo⟩
  · exact Or.inl rfl
  · obtain ⟨NA, NB, Z1, v1, D1, n1, K1, P1, Q1, E1, Y1, S1, Z2, v2, D2, n2, K2, P2, Q2, E2, Y2, S2, Za, S3, Z4, acc4, S4, Lf, nf, Z5, acc5, S5, pR, qR, rR, hE⟩ := TSet.ex a b c d e fs x y cut S _ h.cl.chip.may hg (by omega) hl.b8
    exact Or.inr ⟨L, m, gx, gb, AF, cf, mR, gB, gN, gW, gD, AF2, cf2, S, NA, NB, Z1, v1, D1, n1, K1, P1, Q1, E1, Y1, S1, Z2, v2, D2, n2, K2, P2, Q2, E2, Y2, S2, Za, S3, Z4, acc4, S4, Lf, nf, Z5, acc5, S5, pR, qR, rR, rfl, h, hlo, hE⟩
theorem same_q (xs : List Nat) (q : Nat) (hq : xs.length = q) (A B : Option Addr) (c' d' : Nat) (w : World) (h1 : Sl w w.heap.size A (xs.map byteV)) (h2 : Sl w w.heap.size B (xs.map byteV)) (n1 : q ≤ 1000000) : Calls Try.prog 13 #[.slice A q c', .slice B q d'] w fun e' w' => e' = .returned (.bool true) ∧ Below w.heap.size w w' := by
  subst hq
  have := sameB_any xs xs A B c' d' w h1 h2 n1 n1
  simpa using this
theorem own_keepS {S : Nat → Prop} {w w' : World} {base n size : Nat} {e : TypeId} {v : Value} {xs : List Value} (h : w.ownsRow base e size v n xs) (hT : Tch S w w') (hs : ∀ g, S g → g < base) : w'.ownsRow base e size v n xs := by
  obtain ⟨h1, h2⟩ := h
  refine ⟨h1, ?_⟩
  rcases h2 with h2 | ⟨g', cap, cur, rfl, hb, hh, hr⟩
  · exact Or.inl h2
  · have hlt : g' < w.heap.size := by
      rcases Nat.lt_or_ge g' w.heap.size with hx | hx
      · exact hx
      · rw [Array.getElem?_eq_none hx] at hh
        cases hh
    exact Or.inr ⟨g', cap, cur, rfl, hb, (hT.far g' hlt (fun h9 => by have := hs g' h9; omega)).trans hh, hr⟩
theorem RowFd.keepS {S : Nat → Prop} {w w' : World} {base : Nat} {v : Value} {L : List Fd} (h : RowFd w base v L) (hT : Tch S w w') (hs : ∀ g, S g → g < base) : RowFd w' base v L := own_keepS h hT hs
theorem rowfd_sl {w : World} {B n c : Nat} {A : Option Addr} {L : List Fd} (h : RowFd w B (.slice A n c) L) : SlFd w w.heap.size A L := by
  obtain ⟨A', c', hv, hs, -, -⟩ := h.sl
  cases hv
  exact hs
theorem tw_arm_l (L m gx gb : Nat) (Af : Option Addr) (nf cf mR gB gN gW gD : Nat) (AfR : Option Addr) (nfR cfR : Nat) (a b c d e : Int) (fs : List Flt) (xo : Int) (n : Int) (w : World) (s t : ChS) (h : Two w L m gx gb Af nf cf mR gB gN gW gD AfR nfR cfR a b c d e fs s t) (hs : Fine s n) (hn : n ≤ 900000000) (Z : Int) (S : ChS) (hZ : Hid (s.armC xo 0 = Z ∧ s.arm xo 0 0 = S)) :
    Calls Try.prog 14 #[.pointer (some ⟨m, 0, none⟩), .agg #[.int .i64 xo, .int .i64 0, .int .u8 0]] w fun e' w' => e' = .returned (.int .i64 Z) ∧ Two w' L m gx gb Af nf cf mR gB gN gW gD AfR nfR cfR a b c d e fs S t ∧ Tch (chB m gx gb) w w' := tw_arm L m gx gb Af nf cf mR gB gN gW gD AfR nfR cfR a b c d e fs xo 0 0 n w s t h hs hn Z S hZ
theorem tw_rarm_l (L m gx gb : Nat) (Af : Option Addr) (nf cf mR gB gN gW gD : Nat) (AfR : Option Addr) (nfR cfR : Nat) (a b c d e : Int) (fs : List Flt) (xo : Int) (w : World) (s t : ChS) (h : Two w L m gx gb Af nf cf mR gB gN gW gD AfR nfR cfR a b c d e fs s t) (Z : Int) (S : ChS) (hZ : Hid (t.armC xo 0 = Z ∧ t.arm xo 0 0 = S)) :
    Calls Try.prog 15 #[.pointer (some ⟨mR, 0, none⟩), .agg #[.int .i64 xo, .int .i64 0, .int .u8 0]] w fun e' w' => e' = .returned (.int .i64 Z) ∧ Two w' L m gx gb Af nf cf mR gB gN gW gD AfR nfR cfR a b c d e fs s S ∧ Tch (rfB mR gB gN gW gD) w w' := tw_rarm L m gx gb Af nf cf mR gB gN gW gD AfR nfR cfR a b c d e fs xo 0 0 w s t h Z S hZ
end Go.Proofs.Ytcpniplfkillbaa
namespace Go.Proofs.Ytcpniplfkillbaa
open Go.ChangeShapes Go.WideShapes Go.ChangeAt Go.RowKit
attribute [local go_sem ↓] Go.wp_at_zero Go.wp_at_succ
theorem leafTells_walk (a b c d e : Int) (A1 : Option Addr) (n1 c1 : Nat) (fs : List Flt) (A : Option Addr) (len cap : Nat) (es : List (List Value)) (x y cut : Int) (w : World) (_ : i64in a ∧ i64in b ∧ i64in c ∧ i64in d ∧ i64in e) (hflt : n1 = fs.length ∧ n1 ≤ c1 ∧ c1 ≤ maxLen ∧ SlF w w.heap.size A1 fs) (hacts : len = es.length ∧ len ≤ cap ∧ cap ≤ maxLen ∧ SlE 8 w w.heap.size A es ∧ ∀ x ∈ es, Flat [some .i64, some .i64, some .u8, some .i64, some .i64, some .i64, some .i64, some .i64] x) (_ : i64in x ∧ i64in y) (_ : i64in cut) :
    Calls Try.prog 3 #[.agg #[.int .i64 a, .int .i64 b, .int .i64 c, .int .i64 d, .int .i64 e], .slice A1 n1 c1, .slice A len cap, .agg #[.int .i64 x, .int .i64 y], .int .i64 cut] w fun e' w' => e' = .returned (.bool true) ∧ Below w.heap.size w w' := by
  obtain ⟨rfl, hq1, hq2, hsf⟩ := hflt
  obtain ⟨hlen0, hlc, hcm, hsl, hfl⟩ := hacts
  have hlen := hlen0.symm
  clear hlen0
  have HB0 : Below w.heap.size w ((w.alloc (.cells #[.int .i64 a, .int .i64 b, .int .i64 c, .int .i64 d, .int .i64 e] 23)).alloc (.cells #[.int .i64 x, .int .i64 y] 27)) := ((Below.refl _ _).alloc (Nat.le_refl _) _).alloc (by simp) _
  have HP0 : Blk ((w.alloc (.cells #[.int .i64 a, .int .i64 b, .int .i64 c, .int .i64 d, .int .i64 e] 23)).alloc (.cells #[.int .i64 x, .int .i64 y] 27)) (w.heap.size + 1) 27 #[.int .i64 x, .int .i64 y] := blk_new (by simp)
  have hsl1 := hsl.next HB0
  have hsf1 := hsf.next HB0
  by_cases h60 : len ≤ 60
  · have hi60 : ¬ ((60 : Int) < (len : Int)) := by omega
    by_cases h20 : fs.length ≤ 20
    · have hi20 : ¬ ((20 : Int) < (fs.length : Int)) := by omega
      by_cases hcut : 0 < cut
      · skip
        go_enter Try.func3, Try.ntmps3
        go_upto_region 14 with (first
          | (go_at_call 7; ((with_reducible refine (both_t a b c d e x y cut A1 c1 fs A len cap es _ hq1 hq2 hsf1 h20 hlen h60 hsl1 hfl).mono ?_); rintro e' wN ⟨hcase, hbB⟩; have HBB := btr HB0 HB0.size hbB; rcases hcase with rfl | ⟨L, m, gx, gb, AF, cf, mR, gB, gN, gW, gD, AF2, cf2, S0, NA, NB, Z1, v1, D1, n1, K1, P1, Q1, E1, Y1, S1, Z2, v2, D2, n2, K2, P2, Q2, E2, Y2, S2, Za, S3, Z4, acc4, S4, Lf, nf, Z5, acc5, S5, pR, qR, rR, rfl, h, hlo, hE⟩; rotate_left; (have hltw := h.lt; have hnp : ¬ (twB m gx gb mR gB gN gW gD) (w.heap.size + 1) := (fun q9 => by have := hlo _ q9; simp at this; omega); have HP := HP0.below hbB HP0.lt; have HT : Tch (twB m gx gb mR gB gN gW gD) wN wN := Tch.refl _; (try clear p0 p1 p9); have p0 := HP.cell_ 0; have p1 := HP.cell_ 1; simp at p0 p1; have p9 := HP.lt; clear hbB hsl1 hsf1 hfl HP0); rotate_left))
          | (go_at_call 8; ((with_reducible refine (state_any m gx gb AF fs.length cf a b c d e fs x y 200 _ S0 h.cl.chip hE.g0.fine (by omega) hE.b0 hE.c64 Z1 v1 D1 n1 K1 P1 Q1 E1 Y1 S1 hE.sn1).mono ?_); rintro e' wN ⟨rfl, hC, hT⟩; replace h := h.chip hC hT; replace HP := hT.blk HP (fun q9 => hnp (Or.inl q9)); replace HT := HT.trans (tw_c hT); (try clear p0 p1 p9); have p0 := HP.cell_ 0; have p1 := HP.cell_ 1; simp at p0 p1; have p9 := HP.lt; clear hC hT))
          | (go_at_call 9; ((with_reducible refine (rstate_any mR gB gN gW gD L AF2 fs.length cf2 a b c d e fs x y 200 _ S0 h.rl hE.g0.fine hE.g0.wt (by omega) hE.b0 hE.c64 Z1 v1 D1 n1 K1 P1 Q1 E1 Y1 S1 hE.sn1).mono ?_); rintro e' wN ⟨rfl, hC, hT⟩; replace h := h.ref hC (tch_r hT); replace HP := hT.blk HP (fun q9 => hnp (Or.inr (Or.inl q9))); replace HT := HT.trans (tw_f (tch_r hT)); (try clear p0 p1 p9); have p0 := HP.cell_ 0; have p1 := HP.cell_ 1; simp at p0 p1; have p9 := HP.lt; clear hC hT))
          | (go_at_call 10; ((with_reducible refine (load_any m gx gb AF fs.length cf a b c d e fs x y 203 _ S1 h.cl.chip hE.g1.fine (by omega) hE.b1 hE.c64 Z2 v2 D2 n2 K2 P2 Q2 E2 Y2 S2 hE.sn2).mono ?_); rintro e' wN ⟨⟨A1x, c1x, rfl, hoL⟩, hC, hT⟩; have hs1 := HT.size; replace HT := HT.trans (tw_c hT); have hs2 := HT.size; have hAL : Below wN.heap.size wN (wN.alloc (.cells #[.int .i64 (K2 : Nat), .int .i64 (P2 : Nat), .int .i64 (Q2 : Nat), .int .i64 (E2 : Nat)] 40)) := (Below.refl _ _).alloc (Nat.le_refl _) _; replace h := (h.chip hC hT).below hAL; replace HP := (hT.blk HP (fun q9 => hnp (Or.inl q9))).alloc_ (.cells #[.int .i64 (K2 : Nat), .int .i64 (P2 : Nat), .int .i64 (Q2 : Nat), .int .i64 (E2 : Nat)] 40); replace HT := HT.then hAL; replace hoL := own_below hoL hAL; have GT1 : Blk (wN.alloc (.cells #[.int .i64 (K2 : Nat), .int .i64 (P2 : Nat), .int .i64 (Q2 : Nat), .int .i64 (E2 : Nat)] 40)) wN.heap.size 40 #[.int .i64 (K2 : Nat), .int .i64 (P2 : Nat), .int .i64 (Q2 : Nat), .int .i64 (E2 : Nat)] := Blk.new_ _ _ _; (try clear p0 p1 p9); have p0 := HP.cell_ 0; have p1 := HP.cell_ 1; simp at p0 p1; have p9 := HP.lt; clear hC hT hAL))
          | (go_at_call 11; ((with_reducible refine (rload_any mR gB gN gW gD L AF2 fs.length cf2 a b c d e fs x y 203 _ S1 h.rl hE.g1.fine hE.g1.wt (by omega) hE.b1 hE.c64 Z2 v2 D2 n2 K2 P2 Q2 E2 Y2 S2 hE.sn2).mono ?_); rintro e' wN ⟨⟨A2x, c2x, rfl, hoR⟩, hC, hT⟩; have hmR := hltw mR (Or.inr (Or.inl rfl)); have hAL : Below wN.heap.size wN (wN.alloc (.cells #[.int .i64 (K2 : Nat), .int .i64 (P2 : Nat), .int .i64 (Q2 : Nat), .int .i64 (E2 : Nat)] 40)) := (Below.refl _ _).alloc (Nat.le_refl _) _; replace h := (h.ref hC (tch_r hT)).below hAL; replace HT := HT.trans (tw_f (tch_r hT)); replace HT := HT.then hAL; replace hoL := own_below (own_keepS hoL hT (fun g q9 => by omega)) hAL; replace GT1 := (hT.blk GT1 (fun q9 => by omega)).alloc_ (.cells #[.int .i64 (K2 : Nat), .int .i64 (P2 : Nat), .int .i64 (Q2 : Nat), .int .i64 (E2 : Nat)] 40); replace hoR := own_below hoR hAL; have GT2 : Blk (wN.alloc (.cells #[.int .i64 (K2 : Nat), .int .i64 (P2 : Nat), .int .i64 (Q2 : Nat), .int .i64 (E2 : Nat)] 40)) wN.heap.size 40 #[.int .i64 (K2 : Nat), .int .i64 (P2 : Nat), .int .i64 (Q2 : Nat), .int .i64 (E2 : Nat)] := Blk.new_ _ _ _; (try clear a0 a1 a2 a3 a9 d0 d1 d2 d3 d9); obtain ⟨a0, a1, a2, a3⟩ : _ ∧ _ ∧ _ ∧ _ := ⟨GT1.cell_ 0, GT1.cell_ 1, GT1.cell_ 2, GT1.cell_ 3⟩; obtain ⟨d0, d1, d2, d3⟩ : _ ∧ _ ∧ _ ∧ _ := ⟨GT2.cell_ 0, GT2.cell_ 1, GT2.cell_ 2, GT2.cell_ 3⟩; simp at a0 a1 a2 a3 d0 d1 d2 d3; have a9 := GT1.lt; have d9 := GT2.lt; clear hC hT hAL HP p0 p1 p9))
          | (go_at_call 13; ((with_reducible refine (same_q D2 n2 hE.dn.1 A1x A2x c1x c2x _ (Sl.of_own hoL) (Sl.of_own hoR) hE.dn.2).mono ?_); rintro e' wN ⟨rfl, hb⟩; replace h := h.below hb; replace HT := HT.then hb; replace GT1 := GT1.below hb GT1.lt; replace GT2 := GT2.below hb GT2.lt; (try clear a0 a1 a2 a3 a9 d0 d1 d2 d3 d9); obtain ⟨a0, a1, a2, a3⟩ : _ ∧ _ ∧ _ ∧ _ := ⟨GT1.cell_ 0, GT1.cell_ 1, GT1.cell_ 2, GT1.cell_ 3⟩; obtain ⟨d0, d1, d2, d3⟩ : _ ∧ _ ∧ _ ∧ _ := ⟨GT2.cell_ 0, GT2.cell_ 1, GT2.cell_ 2, GT2.cell_ 3⟩; simp at a0 a1 a2 a3 d0 d1 d2 d3; have a9 := GT1.lt; have d9 := GT2.lt; clear hb hoL hoR))
          | (go_at_call 12; ((with_reducible refine (num_any _ _).mono ?_); rintro e' wN ⟨rfl, rfl⟩; skip))
          | (go_at_call 6; ((with_reducible refine (awake9 _).mono ?_); rintro e' wN ⟨rfl, hbZ⟩; skip)))
        · go_ret
          exact ⟨rfl, btr HBB HBB.size hbZ⟩
        · obtain ⟨gc, hgc⟩ : ∃ t, wN.heap.size = t := ⟨_, rfl⟩
          have hAL : Below wN.heap.size wN (wN.alloc (.cells #[.int .i64 cut, .int .i64 0, .int .u8 0] 48)) := (Below.refl _ _).alloc (Nat.le_refl _) _
          have GC : Blk (wN.alloc (.cells #[.int .i64 cut, .int .i64 0, .int .u8 0] 48)) wN.heap.size 48 #[.int .i64 cut, .int .i64 0, .int .u8 0] := Blk.new_ _ _ _
          replace h := h.below hAL
          have hsc := HT.size
          replace HT := HT.then hAL
          obtain ⟨wC, hwC⟩ : ∃ V : World, V = wN.alloc (.cells #[.int .i64 cut, .int .i64 0, .int .u8 0] 48) := ⟨_, rfl⟩
          rw [← hwC] at GC h HT ⊢
          rw [hgc] at GC hsc ⊢
          clear hAL hwC hgc GT1 GT2 a0 a1 a2 a3 a9 d0 d1 d2 d3 d9
          have z0 := GC.cell_ 0
          have z1 := GC.cell_ 1
          have z2 := GC.cell_ 2
          simp at z0 z1 z2
          refine wp_region_noPanic ?_
          refine wp_region_held_drew (S := (fun w' => w'.cell? ⟨gc, 0, none⟩ = some (.int .i64 cut) ∧ w'.cell? ⟨gc, 1, none⟩ = some (.int .i64 0) ∧ w'.cell? ⟨gc, 2, none⟩ = some (.int .u8 0))) (by kernel_rfl) ?_ (fun hHeld => ?_)
          · (first | exact ⟨z0, z1, z2⟩ | exact ⟨y0, y1, y2⟩ | exact ⟨x0, x1, x2⟩ | assumption)
          refine tk 0 ⟨some 121, .move (.tmp 11), 29, "law.go:98", #[], none⟩ ?_; try simp only [Act.put, pz1, pz2, pz3]
          refine tk 1 ⟨some 122, .load 48 (.tmp 24), 48, "law.go:98", #[], none⟩ ?_; try simp only [Act.put, pz1, pz2, pz3]
          refine tk 4 ⟨some 125, .move (.tmp 12), 30, "law.go:98", #[], none⟩ ?_; try simp only [Act.put, pz1, pz2, pz3]
          refine tk 5 ⟨some 126, .load 48 (.tmp 24), 48, "law.go:98", #[], none⟩ ?_; try simp only [Act.put, pz1, pz2, pz3]
          refine wpAnyH_ready (rs := [2]) (by kernel_rfl) (by simp) ?_
          refine AllReadyH.cons (o := ⟨some 123, .call { callee := .value (.func 14), args := #[.tmp 121, .tmp 122], argTypes := #[29, 48] }, 33, "law.go:98", #[⟨0, .data⟩, ⟨1, .data⟩], none⟩) rfl (fun K hK => ?_) AllReadyH.nil
          go_simp
          (first | (go_at_call 12; ((with_reducible refine (num_any _ _).mono ?_); rintro e' wN ⟨rfl, rfl⟩; skip)) | (go_at_call 14; ((with_reducible refine (tw_arm_l L m gx gb AF fs.length cf mR gB gN gW gD AF2 fs.length cf2 a b c d e fs cut 206 _ S2 S2 (by first | exact h | exact Two.drew h) hE.g2.fine (by omega) Za S3 (hE.arm hcut)).mono ?_); rintro e' wN ⟨rfl, h, hT⟩; replace GC := hT.blk GC (fun q9 => by have := hltw _ (Or.inl q9); omega); replace HT := (by first | exact HT.trans (tw_c hT) | exact HT.trans (tw_c hT.like0)); have y0 := GC.cell_ 0; have y1 := GC.cell_ 1; have y2 := GC.cell_ 2; simp at y0 y1 y2; clear hT)) | (go_at_call 15; ((with_reducible refine (tw_rarm_l L m gx gb AF fs.length cf mR gB gN gW gD AF2 fs.length cf2 a b c d e fs cut _ S3 S2 (by first | exact h | exact Two.drew h) Za S3 (hE.arm hcut)).mono ?_); rintro e' wN ⟨rfl, h, hT⟩; replace GC := hT.blk GC (fun q9 => by have := hltw _ (Or.inr q9); omega); replace HT := (by first | exact HT.trans (tw_f hT) | exact HT.trans (tw_f hT.like0)); have x0 := GC.cell_ 0; have x1 := GC.cell_ 1; have x2 := GC.cell_ 2; simp at x0 x1 x2; clear hT)))
          go_wp2_with fail
          refine hK.out _ _ ?_ (fun hNew => ?_)
          · (first | exact ⟨z0, z1, z2⟩ | exact ⟨y0, y1, y2⟩ | exact ⟨x0, x1, x2⟩ | assumption)
          clear hK K hHeld
          have hHeld := hNew
          clear hNew
          try simp only [Act.put, pz1, pz2, pz3]
          refine wpAnyH_ready (rs := [3]) (by kernel_rfl) (by simp) ?_
          refine AllReadyH.cons (o := ⟨some 124, .call { callee := .value (.func 12), args := #[.tmp 123], argTypes := #[33] }, 3, "law.go:98", #[⟨2, .data⟩, ⟨2, .chain⟩], none⟩) rfl (fun K hK => ?_) AllReadyH.nil
          go_simp
          (first | (go_at_call 12; ((with_reducible refine (num_any _ _).mono ?_); rintro e' wN ⟨rfl, rfl⟩; skip)) | (go_at_call 14; ((with_reducible refine (tw_arm_l L m gx gb AF fs.length cf mR gB gN gW gD AF2 fs.length cf2 a b c d e fs cut 206 _ S2 S2 (by first | exact h | exact Two.drew h) hE.g2.fine (by omega) Za S3 (hE.arm hcut)).mono ?_); rintro e' wN ⟨rfl, h, hT⟩; replace GC := hT.blk GC (fun q9 => by have := hltw _ (Or.inl q9); omega); replace HT := (by first | exact HT.trans (tw_c hT) | exact HT.trans (tw_c hT.like0)); have y0 := GC.cell_ 0; have y1 := GC.cell_ 1; have y2 := GC.cell_ 2; simp at y0 y1 y2; clear hT)) | (go_at_call 15; ((with_reducible refine (tw_rarm_l L m gx gb AF fs.length cf mR gB gN gW gD AF2 fs.length cf2 a b c d e fs cut _ S3 S2 (by first | exact h | exact Two.drew h) Za S3 (hE.arm hcut)).mono ?_); rintro e' wN ⟨rfl, h, hT⟩; replace GC := hT.blk GC (fun q9 => by have := hltw _ (Or.inr q9); omega); replace HT := (by first | exact HT.trans (tw_f hT) | exact HT.trans (tw_f hT.like0)); have x0 := GC.cell_ 0; have x1 := GC.cell_ 1; have x2 := GC.cell_ 2; simp at x0 x1 x2; clear hT)))
          go_wp2_with fail
          refine hK.out _ _ ?_ (fun hNew => ?_)
          · (first | exact ⟨z0, z1, z2⟩ | exact ⟨y0, y1, y2⟩ | exact ⟨x0, x1, x2⟩ | assumption)
          clear hK K hHeld
          have hHeld := hNew
          clear hNew
          try simp only [Act.put, pz1, pz2, pz3]
          refine wpAnyH_ready (rs := [6]) (by kernel_rfl) (by simp) ?_
          refine AllReadyH.cons (o := ⟨some 127, .call { callee := .value (.func 15), args := #[.tmp 125, .tmp 126], argTypes := #[30, 48] }, 3, "law.go:98", #[⟨4, .data⟩, ⟨5, .data⟩, ⟨3, .chain⟩], none⟩) rfl (fun K hK => ?_) AllReadyH.nil
          go_simp
          (first | (go_at_call 12; ((with_reducible refine (num_any _ _).mono ?_); rintro e' wN ⟨rfl, rfl⟩; skip)) | (go_at_call 14; ((with_reducible refine (tw_arm_l L m gx gb AF fs.length cf mR gB gN gW gD AF2 fs.length cf2 a b c d e fs cut 206 _ S2 S2 (by first | exact h | exact Two.drew h) hE.g2.fine (by omega) Za S3 (hE.arm hcut)).mono ?_); rintro e' wN ⟨rfl, h, hT⟩; replace GC := hT.blk GC (fun q9 => by have := hltw _ (Or.inl q9); omega); replace HT := (by first | exact HT.trans (tw_c hT) | exact HT.trans (tw_c hT.like0)); have y0 := GC.cell_ 0; have y1 := GC.cell_ 1; have y2 := GC.cell_ 2; simp at y0 y1 y2; clear hT)) | (go_at_call 15; ((with_reducible refine (tw_rarm_l L m gx gb AF fs.length cf mR gB gN gW gD AF2 fs.length cf2 a b c d e fs cut _ S3 S2 (by first | exact h | exact Two.drew h) Za S3 (hE.arm hcut)).mono ?_); rintro e' wN ⟨rfl, h, hT⟩; replace GC := hT.blk GC (fun q9 => by have := hltw _ (Or.inr q9); omega); replace HT := (by first | exact HT.trans (tw_f hT) | exact HT.trans (tw_f hT.like0)); have x0 := GC.cell_ 0; have x1 := GC.cell_ 1; have x2 := GC.cell_ 2; simp at x0 x1 x2; clear hT)))
          go_wp2_with fail
          refine hK.out _ _ ?_ (fun hNew => ?_)
          · (first | exact ⟨z0, z1, z2⟩ | exact ⟨y0, y1, y2⟩ | exact ⟨x0, x1, x2⟩ | assumption)
          clear hK K hHeld
          have hHeld := hNew
          clear hNew
          try simp only [Act.put, pz1, pz2, pz3]
          refine tk 7 ⟨some 128, .binOp .neq 3 (.tmp 124) (.tmp 127) 3, 4, "law.go:98", #[⟨3, .data⟩, ⟨6, .data⟩], none⟩ ?_; try simp only [Act.put, pz1, pz2, pz3]
          refine wpAnyH_done (by kernel_rfl) ?_ _
          refine NoPanic.normal ?_
          clear hHeld
          go_wp2_with (first
            | (go_at_call 16; ((with_reducible refine (scan_any m gx gb AF fs.length cf a b c d e fs NA NB 300 Z4 acc4 S3 S4 _ h.cl.chip hE.g3 (by omega) hE.b3 hE.na hE.nb hE.w1 Lf nf hE.l1).mono ?_); rintro e' wN ⟨⟨A5, c5, rfl, hrF⟩, hC, hT, hg4, hb4⟩; have hsF := HT.size; have hzF := hT.size; replace h := h.chip hC hT; replace HT := HT.trans (tw_c hT); clear hC hT))
            | (go_at_call 17; ((with_reducible refine (rscan_any mR gB gN gW gD L AF2 fs.length cf2 a b c d e fs NA NB 300 _ S3 h.rl hE.g3 (by omega) hE.b3 hE.na hE.nb Z4 acc4 S4 hE.w1 Lf nf hE.l1).mono ?_); rintro e' wN ⟨⟨A6, c6, rfl, hrG⟩, hC, hT, -⟩; have hmR := hltw mR (Or.inr (Or.inl rfl)); have hsG := HT.size; replace hzF := Nat.le_trans hzF hT.size; replace hrF := RowFd.keepS hrF hT (fun g q9 => by omega); replace h := h.ref hC (tch_r hT); replace HT := HT.trans (tw_f (tch_r hT)); clear hC hT))
            | (go_at_call 18; ((with_reducible refine (count_any m gx gb AF fs.length cf a b c d e fs NA NB (300 + 1000) Z5 acc5 S4 S5 _ h.cl.chip hg4 (by omega) hb4 hE.na hE.nb hE.w2 pR qR rR hE.l2).mono ?_); rintro e' wN ⟨rfl, hC, hT, -, -⟩; replace hzF := Nat.le_trans hzF hT.size; replace hrF := RowFd.keepS hrF hT (fun g q9 => by have := hltw g (Or.inl q9); omega); replace hrG := RowFd.keepS hrG hT (fun g q9 => by have := hltw g (Or.inl q9); omega); replace h := h.chip hC hT; replace HT := HT.trans (tw_c hT); clear hC hT))
            | (go_at_call 19; ((with_reducible refine (rcount_any mR gB gN gW gD L AF2 fs.length cf2 a b c d e fs NA NB (300 + 1000) _ S4 h.rl hg4 (by omega) hb4 hE.na hE.nb Z5 acc5 S5 hE.w2 pR qR rR hE.l2).mono ?_); rintro e' wN ⟨rfl, hC, hT, -⟩; replace hzF := Nat.le_trans hzF hT.size; replace hrF := RowFd.keepS hrF hT (fun g q9 => by omega); replace hrG := RowFd.keepS hrG hT (fun g q9 => by omega); replace HT := HT.trans (tw_f (tch_r hT)); clear h hC hT))
            | (go_at_call 20; ((with_reducible refine (same_yes Lf A5 A6 nf c5 c6 _ hE.l1.out.2 (by have := hE.nf; omega) (rowfd_sl hrF) (rowfd_sl hrG)).mono ?_); rintro e' wN ⟨rfl, hb⟩; replace hzF := Nat.le_trans hzF hb.size; replace hrF := RowFd.below hrF hb; replace HT := HT.then hb; clear hb hrG))
            | (go_at_call 21; ((with_reducible refine (overf _ A5 nf c5 Lf _ hrF (Lib.hid hE.l1.out.2) hzF hE.nf).mono ?_); rintro e' wN ⟨⟨v9, rfl⟩, hTO⟩; skip))
            | (go_at_call 12; ((with_reducible refine (num_any _ _).mono ?_); rintro e' wN ⟨rfl, rfl⟩; skip))
            | (go_at_call 6; ((with_reducible refine (awake9 _).mono ?_); rintro e' wN ⟨rfl, hbZ⟩; skip)))
          go_ret
          have HF : Tch (fun g => w.heap.size ≤ g) _ _ := (HT.mono (S' := fun g => w.heap.size ≤ g) (fun g q9 => by have := hlo g q9; simp at this; omega)).trans (hTO.mono (fun g q9 => by have := HBB.size; have := HB0.size; omega))
          have HF2 := HBB.trans (HF.below HBB.size (fun g q9 => q9))
          exact ⟨rfl, btr HF2 HF2.size hbZ⟩
          
      · skip
        go_enter Try.func3, Try.ntmps3
        go_wp2_with (first
          | (go_at_call 7; ((with_reducible refine (both_t a b c d e x y cut A1 c1 fs A len cap es _ hq1 hq2 hsf1 h20 hlen h60 hsl1 hfl).mono ?_); rintro e' wN ⟨hcase, hbB⟩; have HBB := btr HB0 HB0.size hbB; rcases hcase with rfl | ⟨L, m, gx, gb, AF, cf, mR, gB, gN, gW, gD, AF2, cf2, S0, NA, NB, Z1, v1, D1, n1, K1, P1, Q1, E1, Y1, S1, Z2, v2, D2, n2, K2, P2, Q2, E2, Y2, S2, Za, S3, Z4, acc4, S4, Lf, nf, Z5, acc5, S5, pR, qR, rR, rfl, h, hlo, hE⟩; rotate_left; (have hltw := h.lt; have hnp : ¬ (twB m gx gb mR gB gN gW gD) (w.heap.size + 1) := (fun q9 => by have := hlo _ q9; simp at this; omega); have HP := HP0.below hbB HP0.lt; have HT : Tch (twB m gx gb mR gB gN gW gD) wN wN := Tch.refl _; (try clear p0 p1 p9); have p0 := HP.cell_ 0; have p1 := HP.cell_ 1; simp at p0 p1; have p9 := HP.lt; have e3 := (hE.arm0 hcut).symm; subst e3; clear hbB hsl1 hsf1 hfl HP0); rotate_left))
          | (go_at_call 8; ((with_reducible refine (state_any m gx gb AF fs.length cf a b c d e fs x y 200 _ S0 h.cl.chip hE.g0.fine (by omega) hE.b0 hE.c64 Z1 v1 D1 n1 K1 P1 Q1 E1 Y1 S1 hE.sn1).mono ?_); rintro e' wN ⟨rfl, hC, hT⟩; replace h := h.chip hC hT; replace HP := hT.blk HP (fun q9 => hnp (Or.inl q9)); replace HT := HT.trans (tw_c hT); (try clear p0 p1 p9); have p0 := HP.cell_ 0; have p1 := HP.cell_ 1; simp at p0 p1; have p9 := HP.lt; clear hC hT))
          | (go_at_call 9; ((with_reducible refine (rstate_any mR gB gN gW gD L AF2 fs.length cf2 a b c d e fs x y 200 _ S0 h.rl hE.g0.fine hE.g0.wt (by omega) hE.b0 hE.c64 Z1 v1 D1 n1 K1 P1 Q1 E1 Y1 S1 hE.sn1).mono ?_); rintro e' wN ⟨rfl, hC, hT⟩; replace h := h.ref hC (tch_r hT); replace HP := hT.blk HP (fun q9 => hnp (Or.inr (Or.inl q9))); replace HT := HT.trans (tw_f (tch_r hT)); (try clear p0 p1 p9); have p0 := HP.cell_ 0; have p1 := HP.cell_ 1; simp at p0 p1; have p9 := HP.lt; clear hC hT))
          | (go_at_call 10; ((with_reducible refine (load_any m gx gb AF fs.length cf a b c d e fs x y 203 _ S1 h.cl.chip hE.g1.fine (by omega) hE.b1 hE.c64 Z2 v2 D2 n2 K2 P2 Q2 E2 Y2 S2 hE.sn2).mono ?_); rintro e' wN ⟨⟨A1x, c1x, rfl, hoL⟩, hC, hT⟩; have hs1 := HT.size; replace HT := HT.trans (tw_c hT); have hs2 := HT.size; have hAL : Below wN.heap.size wN (wN.alloc (.cells #[.int .i64 (K2 : Nat), .int .i64 (P2 : Nat), .int .i64 (Q2 : Nat), .int .i64 (E2 : Nat)] 40)) := (Below.refl _ _).alloc (Nat.le_refl _) _; replace h := (h.chip hC hT).below hAL; replace HP := (hT.blk HP (fun q9 => hnp (Or.inl q9))).alloc_ (.cells #[.int .i64 (K2 : Nat), .int .i64 (P2 : Nat), .int .i64 (Q2 : Nat), .int .i64 (E2 : Nat)] 40); replace HT := HT.then hAL; replace hoL := own_below hoL hAL; have GT1 : Blk (wN.alloc (.cells #[.int .i64 (K2 : Nat), .int .i64 (P2 : Nat), .int .i64 (Q2 : Nat), .int .i64 (E2 : Nat)] 40)) wN.heap.size 40 #[.int .i64 (K2 : Nat), .int .i64 (P2 : Nat), .int .i64 (Q2 : Nat), .int .i64 (E2 : Nat)] := Blk.new_ _ _ _; (try clear p0 p1 p9); have p0 := HP.cell_ 0; have p1 := HP.cell_ 1; simp at p0 p1; have p9 := HP.lt; clear hC hT hAL))
          | (go_at_call 11; ((with_reducible refine (rload_any mR gB gN gW gD L AF2 fs.length cf2 a b c d e fs x y 203 _ S1 h.rl hE.g1.fine hE.g1.wt (by omega) hE.b1 hE.c64 Z2 v2 D2 n2 K2 P2 Q2 E2 Y2 S2 hE.sn2).mono ?_); rintro e' wN ⟨⟨A2x, c2x, rfl, hoR⟩, hC, hT⟩; have hmR := hltw mR (Or.inr (Or.inl rfl)); have hAL : Below wN.heap.size wN (wN.alloc (.cells #[.int .i64 (K2 : Nat), .int .i64 (P2 : Nat), .int .i64 (Q2 : Nat), .int .i64 (E2 : Nat)] 40)) := (Below.refl _ _).alloc (Nat.le_refl _) _; replace h := (h.ref hC (tch_r hT)).below hAL; replace HT := HT.trans (tw_f (tch_r hT)); replace HT := HT.then hAL; replace hoL := own_below (own_keepS hoL hT (fun g q9 => by omega)) hAL; replace GT1 := (hT.blk GT1 (fun q9 => by omega)).alloc_ (.cells #[.int .i64 (K2 : Nat), .int .i64 (P2 : Nat), .int .i64 (Q2 : Nat), .int .i64 (E2 : Nat)] 40); replace hoR := own_below hoR hAL; have GT2 : Blk (wN.alloc (.cells #[.int .i64 (K2 : Nat), .int .i64 (P2 : Nat), .int .i64 (Q2 : Nat), .int .i64 (E2 : Nat)] 40)) wN.heap.size 40 #[.int .i64 (K2 : Nat), .int .i64 (P2 : Nat), .int .i64 (Q2 : Nat), .int .i64 (E2 : Nat)] := Blk.new_ _ _ _; (try clear a0 a1 a2 a3 a9 d0 d1 d2 d3 d9); obtain ⟨a0, a1, a2, a3⟩ : _ ∧ _ ∧ _ ∧ _ := ⟨GT1.cell_ 0, GT1.cell_ 1, GT1.cell_ 2, GT1.cell_ 3⟩; obtain ⟨d0, d1, d2, d3⟩ : _ ∧ _ ∧ _ ∧ _ := ⟨GT2.cell_ 0, GT2.cell_ 1, GT2.cell_ 2, GT2.cell_ 3⟩; simp at a0 a1 a2 a3 d0 d1 d2 d3; have a9 := GT1.lt; have d9 := GT2.lt; clear hC hT hAL HP p0 p1 p9))
          | (go_at_call 13; ((with_reducible refine (same_q D2 n2 hE.dn.1 A1x A2x c1x c2x _ (Sl.of_own hoL) (Sl.of_own hoR) hE.dn.2).mono ?_); rintro e' wN ⟨rfl, hb⟩; replace h := h.below hb; replace HT := HT.then hb; replace GT1 := GT1.below hb GT1.lt; replace GT2 := GT2.below hb GT2.lt; (try clear a0 a1 a2 a3 a9 d0 d1 d2 d3 d9); obtain ⟨a0, a1, a2, a3⟩ : _ ∧ _ ∧ _ ∧ _ := ⟨GT1.cell_ 0, GT1.cell_ 1, GT1.cell_ 2, GT1.cell_ 3⟩; obtain ⟨d0, d1, d2, d3⟩ : _ ∧ _ ∧ _ ∧ _ := ⟨GT2.cell_ 0, GT2.cell_ 1, GT2.cell_ 2, GT2.cell_ 3⟩; simp at a0 a1 a2 a3 d0 d1 d2 d3; have a9 := GT1.lt; have d9 := GT2.lt; clear hb hoL hoR))
          | (go_at_call 12; ((with_reducible refine (num_any _ _).mono ?_); rintro e' wN ⟨rfl, rfl⟩; skip))
          | (go_at_call 16; ((with_reducible refine (scan_any m gx gb AF fs.length cf a b c d e fs NA NB 300 Z4 acc4 S2 S4 _ h.cl.chip hE.g3 (by omega) hE.b3 hE.na hE.nb hE.w1 Lf nf hE.l1).mono ?_); rintro e' wN ⟨⟨A5, c5, rfl, hrF⟩, hC, hT, hg4, hb4⟩; have hsF := HT.size; have hzF := hT.size; replace h := h.chip hC hT; replace HT := HT.trans (tw_c hT); clear hC hT))
          | (go_at_call 17; ((with_reducible refine (rscan_any mR gB gN gW gD L AF2 fs.length cf2 a b c d e fs NA NB 300 _ S2 h.rl hE.g3 (by omega) hE.b3 hE.na hE.nb Z4 acc4 S4 hE.w1 Lf nf hE.l1).mono ?_); rintro e' wN ⟨⟨A6, c6, rfl, hrG⟩, hC, hT, -⟩; have hmR := hltw mR (Or.inr (Or.inl rfl)); have hsG := HT.size; replace hzF := Nat.le_trans hzF hT.size; replace hrF := RowFd.keepS hrF hT (fun g q9 => by omega); replace h := h.ref hC (tch_r hT); replace HT := HT.trans (tw_f (tch_r hT)); clear hC hT))
          | (go_at_call 18; ((with_reducible refine (count_any m gx gb AF fs.length cf a b c d e fs NA NB (300 + 1000) Z5 acc5 S4 S5 _ h.cl.chip hg4 (by omega) hb4 hE.na hE.nb hE.w2 pR qR rR hE.l2).mono ?_); rintro e' wN ⟨rfl, hC, hT, -, -⟩; replace hzF := Nat.le_trans hzF hT.size; replace hrF := RowFd.keepS hrF hT (fun g q9 => by have := hltw g (Or.inl q9); omega); replace hrG := RowFd.keepS hrG hT (fun g q9 => by have := hltw g (Or.inl q9); omega); replace h := h.chip hC hT; replace HT := HT.trans (tw_c hT); clear hC hT))
          | (go_at_call 19; ((with_reducible refine (rcount_any mR gB gN gW gD L AF2 fs.length cf2 a b c d e fs NA NB (300 + 1000) _ S4 h.rl hg4 (by omega) hb4 hE.na hE.nb Z5 acc5 S5 hE.w2 pR qR rR hE.l2).mono ?_); rintro e' wN ⟨rfl, hC, hT, -⟩; replace hzF := Nat.le_trans hzF hT.size; replace hrF := RowFd.keepS hrF hT (fun g q9 => by omega); replace hrG := RowFd.keepS hrG hT (fun g q9 => by omega); replace HT := HT.trans (tw_f (tch_r hT)); clear h hC hT))
          | (go_at_call 20; ((with_reducible refine (same_yes Lf A5 A6 nf c5 c6 _ hE.l1.out.2 (by have := hE.nf; omega) (rowfd_sl hrF) (rowfd_sl hrG)).mono ?_); rintro e' wN ⟨rfl, hb⟩; replace hzF := Nat.le_trans hzF hb.size; replace hrF := RowFd.below hrF hb; replace HT := HT.then hb; clear hb hrG))
          | (go_at_call 21; ((with_reducible refine (overf _ A5 nf c5 Lf _ hrF (Lib.hid hE.l1.out.2) hzF hE.nf).mono ?_); rintro e' wN ⟨⟨v9, rfl⟩, hTO⟩; skip))
          | (go_at_call 6; ((with_reducible refine (awake9 _).mono ?_); rintro e' wN ⟨rfl, hbZ⟩; skip)))
        · go_ret
          exact ⟨rfl, btr HBB HBB.size hbZ⟩
        · go_ret
          have HF : Tch (fun g => w.heap.size ≤ g) _ _ := (HT.mono (S' := fun g => w.heap.size ≤ g) (fun g q9 => by have := hlo g q9; simp at this; omega)).trans (hTO.mono (fun g q9 => by have := HBB.size; have := HB0.size; omega))
          have HF2 := HBB.trans (HF.below HBB.size (fun g q9 => q9))
          exact ⟨rfl, btr HF2 HF2.size hbZ⟩
    · have hi20 : (20 : Int) < (fs.length : Int) := by omega
      go_enter Try.func3, Try.ntmps3
      go_wp2_with (go_at_call 6; ((with_reducible refine (awake9 _).mono ?_); rintro e' wN ⟨rfl, hbZ⟩; skip))
      go_ret
      exact ⟨rfl, btr HB0 HB0.size hbZ⟩
  · have hi60 : (60 : Int) < (len : Int) := by omega
    go_enter Try.func3, Try.ntmps3
    go_wp2_with (go_at_call 6; ((with_reducible refine (awake9 _).mono ?_); rintro e' wN ⟨rfl, hbZ⟩; skip))
    go_ret
    exact ⟨rfl, btr HB0 HB0.size hbZ⟩
end Go.Proofs.Ytcpniplfkillbaa
namespace Go.Proofs.Ytcpniplfkillbaa
open Go.ChangeShapes Go.WideShapes Go.ChangeAt Go.RowKit Go.Deep
section
variable {H : Type} {enc : TypeId × Value → H} {P : Program} {w : World} {base : Nat} {spare : Nat → Bool} {held : Bool}
end
end Go.Proofs.Ytcpniplfkillbaa
