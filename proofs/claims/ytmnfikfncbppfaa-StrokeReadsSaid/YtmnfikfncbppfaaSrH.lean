/- Chapter 2's own Lay. -/
import Derived.Test.YtmnfikfncbppfaaSrG
namespace Go.Proofs.Ytmnfikfncbppfaa
open Go.ChangeShapes Go.WideShapes Go.ChangeAt Go.RowKit
set_option linter.unusedSimpArgs false
set_option linter.unusedVariables false

attribute [local go_sem ↓] Go.wp_at_zero Go.wp_at_succ
def StOk (s : St) : Prop := s.1 < 256 ∧ ∀ p ∈ s.2, p.1 < 256 ∧ p.2.1 < 256 ∧ p.2.2.1 < 256 ∧ p.2.2.2 < 256
theorem build_2b (a b : Int) (w : World) : (Instr.buildSlice 22 2 #[(0, .int .u8 a), (1, .int .u8 b)]).run Try.prog w = .ok (.slice (some ⟨w.heap.size, 0, none⟩) 2 2) (w.alloc (.cells #[.int .u8 a, .int .u8 b] 5)) := by kernel_rfl
theorem wp_build2b {w : World} {o : Oper} {a : Act} {K : Act → World → Prop} {Q : Exit → Act → World → Prop} (x y : Operand) (hop : o.op = Op.buildSlice 22 2 #[(0, x), (1, y)])
    (b c : Int) (hx : a.eval x = .int .u8 b) (hy : a.eval y = .int .u8 c)
    (hK : ∀ w' g, Blk w' g 5 #[.int .u8 b, .int .u8 c] → w.heap.size ≤ g → Below w.heap.size w w' → K (a.put o.dst (.slice (some ⟨g, 0, none⟩) 2 2)) w') : Oper.wp Try.prog o a w K Q := by
  have hrun := build_2b b c w
  unfold Oper.wp
  simp [execOp, hop, hx, hy, hrun, Result.andThen]
  exact hK _ _ (Blk.new_ _ _ _) (Nat.le_refl _) ((Below.refl _ _).alloc (Nat.le_refl _) _)
theorem rd_blk {w : World} {g a b : Nat} (h : Blk w g 5 #[.int .u8 (a : Int), .int .u8 (b : Int)]) : Rd w (some ⟨g, 0, none⟩) 2 1 [byteV a, byteV b] := by
  refine ⟨rfl, Or.inr ⟨g, 0, rfl, fun j u hj => ?_⟩⟩
  rw [h.cell_, Nat.zero_add]
  simpa [byteV] using hj
theorem own_one (w : World) (base : Nat) (e : TypeId) (u : Value) (hb : base ≤ w.heap.size) : (w.alloc (.cells #[u] e)).ownsRow base e 1 (.slice (some ⟨w.heap.size, 0, none⟩) 1 1) 1 [u] := by
  refine ⟨by simp, Or.inr ⟨w.heap.size, 1, #[u], rfl, hb, heap_alloc_new w _, by omega, by unfold maxLen; omega, by simp, by simp⟩⟩
theorem ptsB_len (ps : List Pt) : (ptsB ps).length = 4 * ps.length := by
  induction ps with
  | nil => rfl
  | cons p ps ih => rw [ptsB_cons]; simp [ih]; omega
theorem ptsB_take {ps : List Pt} {k : Nat} {p : Pt} (h : ps[k]? = some p) : ptsB (ps.take (k + 1)) = ptsB (ps.take k) ++ [p.1, p.2.1] ++ [p.2.2.1, p.2.2.2] := by
  rw [List.take_add_one, h]
  unfold ptsB
  rw [List.flatMap_append]
  simp [ptB]
theorem stsB_take {ss : List St} {k : Nat} {s : St} (h : ss[k]? = some s) : stsB (ss.take (k + 1)) = stsB (ss.take k) ++ [s.1, s.2.length] ++ ptsB s.2 := by
  rw [List.take_add_one, h]
  unfold stsB
  rw [List.flatMap_append]
  simp [stB]
theorem mayT_bd {s : St} (h : mayT s = true) : s.1 / 16 ≤ 7 ∧ 1 ≤ s.1 % 16 ∧ s.1 % 16 ≤ 9 ∧ 1 ≤ s.2.length ∧ s.2.length ≤ 10 := by
  unfold mayT at h
  simp at h
  obtain ⟨⟨⟨⟨a, b⟩, c⟩, d⟩, e⟩ := h
  exact ⟨a, b, c, d, e⟩
theorem mayS_all {ss : List St} (h : mayS ss = true) : ∀ s ∈ ss, mayT s = true := by
  unfold mayS at h
  simp only [Bool.and_eq_true, List.all_eq_true] at h
  exact h.2
theorem byte_hd (h : Nat) (h8 : h < 256) : IntKind.u8.wrap (16 * ((h / 16 : Nat) : Int) + ((h % 16 : Nat) : Int)) = (h : Int) := by
  rw [IntKind.wrap_u8]
  omega
set_option maxRecDepth 100000 in
set_option maxHeartbeats 4000000 in
theorem rlay_ok (es : List (St × Value)) (n : Nat) (A : Option Addr) (c : Nat) (w : World) (hn : es.length = n) (h : ShV w w.heap.size A es) (hm : mayS (es.map Prod.fst) = true) (hok : ∀ e ∈ es, StOk e.1) :
    Calls Try.prog 19 #[.slice A n c] w fun e' w' => (∃ v, e' = .returned (.tuple #[v, .int .i64 0]) ∧ w'.ownsRow w.heap.size 5 1 v (layB (es.map Prod.fst)).length ((layB (es.map Prod.fst)).map byteV)) ∧ Below w.heap.size w w' := by
  have hn6 : n ≤ 6 := by have := mayS_len hm; rw [List.length_map, hn] at this; exact this
  have hT : ∀ e ∈ es, mayT e.1 = true := fun e he => mayS_all hm e.1 (List.mem_map_of_mem he)
  have hcall := rsmay_any es n A c w hn h (fun e he => by have := (mayT_bd (hT e he)).2.2.2.2; omega) (by omega)
  rw [hm] at hcall
  have HT := Lib.hid hT
  have HN := Lib.hid hn
  have HOK := Lib.hid hok
  have e0 : IntKind.u8.wrap (n : Int) = (n : Int) := by rw [IntKind.wrap_u8]; omega
  clear hm hT hn hok
  go_enter Try.func19, Try.ntmps19
  go_wp2_with (go_at_call 25; ((with_reducible refine (hcall).mono ?_); rintro e' w1 ⟨rfl, hb1⟩))
  have hB1 := hb1.alloc hb1.size (.cells #[.int .u8 (n : Int)] 5)
  have hO1 : (w1.alloc (.cells #[.int .u8 (n : Int)] 5)).ownsRow w.heap.size 5 1 (.slice (some ⟨w1.heap.size, 0, none⟩) 1 1) 1 ([n].map byteV) := own_one w1 w.heap.size _ _ hb1.size
  clear hb1 hcall
  go_loopw [4, 5] (fun s4 s5 wr => ∃ (i N : Nat) (v : Value) (bs : List Nat), i ≤ n ∧ s5 = .int .i64 (i : Int) ∧ s4 = v ∧ Hid (bs = n :: stsB ((es.map Prod.fst).take i)) ∧ wr.ownsRow w.heap.size 5 1 v N (bs.map byteV) ∧ N ≤ 1 + 42 * i ∧ Below w.heap.size w wr) (fun _ s5 _ => n - (iOf s5).toNat)
  case atStart => exact ⟨0, 1, _, [n], Nat.zero_le _, rfl, rfl, Lib.hid (by simp [stsB]), hO1, by omega, hB1⟩
  case round =>
    obtain ⟨i, N, v, bs, hi, rfl, e4, HBS, HRW, hN, hB⟩ := hrel
    have e4' := e4.symm
    subst e4'
    have hsz := hB.size
    by_cases hlt : i < n
    · obtain ⟨b1, o1, rfl, lt1, q1⟩ := h.at_ (by rw [HN.out]; omega)
      obtain ⟨e, he⟩ : ∃ e, es[i]? = some e := ⟨_, List.getElem?_eq_getElem (by rw [HN.out]; exact hlt)⟩
      obtain ⟨x0w, x1w, x2w⟩ := q1 i e he
      have hmem : e ∈ es := List.mem_of_getElem? he
      have hs : (es.map Prod.fst)[i]? = some e.1 := by rw [List.getElem?_map, he]; rfl
      have htk := stsB_take hs
      have hTe := mayT_bd (HT.out e hmem)
      have hOe := HOK.out e hmem
      obtain ⟨⟨hh, ps⟩, qv⟩ := e
      obtain ⟨A1, c1, e1, sP⟩ := h.2 _ hmem
      dsimp only at e1 x0w x1w x2w sP hTe hOe htk
      subst e1
      obtain ⟨m, hm⟩ : ∃ m, ps.length = m := ⟨_, rfl⟩
      rw [hm] at x2w hTe htk
      have HM := Lib.hid hm
      have HTK := Lib.hid htk
      have HPO := Lib.hid hOe.2
      obtain ⟨t1, t2, t3, t4, t5⟩ := hTe
      have e1 := byte_hd hh hOe.1
      have e2 : IntKind.u8.wrap (m : Int) = (m : Int) := by rw [IntKind.wrap_u8]; omega
      obtain ⟨P, hP⟩ : ∃ P, ((hh / 16 : Nat) : Int) = P := ⟨_, rfl⟩
      obtain ⟨R, hR⟩ : ∃ R, ((hh % 16 : Nat) : Int) = R := ⟨_, rfl⟩
      have p1 : 0 ≤ P := by omega
      have p2 : P ≤ 7 := by omega
      have p3 : 1 ≤ R := by omega
      have p4 : R ≤ 9 := by omega
      rw [hP] at x0w e1
      rw [hR] at x1w e1
      have w9 : IntKind.i64.wrap (16 * P) = 16 * P := IntWalk.i64_in _ (by omega)
      have w8 : IntKind.i64.wrap (16 * P + R) = 16 * P + R := IntWalk.i64_in _ (by omega)
      have x0 := (hB.cell (p := ⟨b1, o1 + i * 3, none⟩) lt1).trans x0w
      have x1 := (hB.cell (p := ⟨b1, o1 + i * 3 + 1, none⟩) lt1).trans x1w
      have x2 := (hB.cell (p := ⟨b1, o1 + i * 3 + 2, none⟩) lt1).trans x2w
      have lq : b1 < wr.drew.heap.size := Nat.lt_of_lt_of_le lt1 hsz
      have HRd := own_below HRW (Below.refl _ wr).drew
      have i0 : (0 : Int) ≤ (i : Int) := by omega
      have i9 : (i : Int) < (n : Int) := by omega
      have i8 : N + 2 ≤ 300 := by omega
      clear q1 he hmem hs hm htk hOe t1 t2 t3 t4 hP hR HRW
      go_upto_region 7 with fail
      refine wp_region_noPanic ?_
      refine wp_region_held_drew (S := (fun w' => w'.cell? ⟨b1, o1 + i * 3, none⟩ = some (.int .i64 P) ∧ w'.cell? ⟨b1, o1 + i * 3 + 1, none⟩ = some (.int .i64 R) ∧ w'.cell? ⟨b1, o1 + i * 3 + 2, none⟩ = some (.slice A1 m c1))) (by kernel_rfl) ?_ (fun hHeld => ?_)
      · (first | exact ⟨x0, x1, x2⟩ | assumption)
      refine wpAnyH_take (i := 0) (oi := { dst := some 20, op := Op.move (Operand.tmp 4), type := 22, pos := "ref.go:48", after := #[], guard := none }) (v := ?_) rfl (by kernel_rfl) (by kernel_rfl) (by kernel_rfl) (fun _ _ _ h => h) (Or.inl ⟨by rfl, ?_⟩) (by assumption) ?_
      rotate_left
      · (intro wS hSw; (try dsimp only at hSw); go_simp; (try with_reducible rfl))
      try simp only [Act.put, List.setIfInBounds_toArray, List.set_cons_zero, List.set_cons_succ]
      refine wpAnyH_take (i := 1) (oi := { dst := some 21, op := Op.move (Operand.tmp 0), type := 26, pos := "ref.go:48", after := #[], guard := none }) (v := ?_) rfl (by kernel_rfl) (by kernel_rfl) (by kernel_rfl) (fun _ _ _ h => h) (Or.inl ⟨by rfl, ?_⟩) (by assumption) ?_
      rotate_left
      · (intro wS hSw; (try dsimp only at hSw); go_simp; (try with_reducible rfl))
      try simp only [Act.put, List.setIfInBounds_toArray, List.set_cons_zero, List.set_cons_succ]
      refine wpAnyH_take (i := 2) (oi := { dst := some 22, op := Op.move (Operand.tmp 5), type := 3, pos := "ref.go:48", after := #[], guard := none }) (v := ?_) rfl (by kernel_rfl) (by kernel_rfl) (by kernel_rfl) (fun _ _ _ h => h) (Or.inl ⟨by rfl, ?_⟩) (by assumption) ?_
      rotate_left
      · (intro wS hSw; (try dsimp only at hSw); go_simp; (try with_reducible rfl))
      try simp only [Act.put, List.setIfInBounds_toArray, List.set_cons_zero, List.set_cons_succ]
      refine wpAnyH_take (i := 3) (oi := { dst := some 23, op := Op.indexAddr 26 (Operand.tmp 21) (Operand.tmp 22), type := 0, pos := "ref.go:48", after := #[{ on := 1, ground := Ground.data }, { on := 2, ground := Ground.data }], guard := none }) (v := ?_) rfl (by kernel_rfl) (by kernel_rfl) (by kernel_rfl) (fun _ _ _ h => h) (Or.inl ⟨by rfl, ?_⟩) (by assumption) ?_
      rotate_left
      · (intro wS hSw; (try dsimp only at hSw); go_simp; (try with_reducible rfl))
      try simp only [Act.put, List.setIfInBounds_toArray, List.set_cons_zero, List.set_cons_succ]
      refine wpAnyH_take (i := 4) (oi := { dst := some 24, op := Op.fieldAddr 44 (Operand.tmp 23) 0, type := 0, pos := "ref.go:48", after := #[{ on := 3, ground := Ground.data }], guard := none }) (v := ?_) rfl (by kernel_rfl) (by kernel_rfl) (by kernel_rfl) (fun _ _ _ h => h) (Or.inl ⟨by rfl, ?_⟩) (by assumption) ?_
      rotate_left
      · (intro wS hSw; (try dsimp only at hSw); go_simp; (try with_reducible rfl))
      try simp only [Act.put, List.setIfInBounds_toArray, List.set_cons_zero, List.set_cons_succ]
      refine wpAnyH_take (i := 5) (oi := { dst := some 25, op := Op.load 3 (Operand.tmp 24), type := 3, pos := "ref.go:48", after := #[{ on := 4, ground := Ground.data }], guard := none }) (v := ?_) rfl (by kernel_rfl) (by kernel_rfl) (by kernel_rfl) (fun _ _ _ h => h) (Or.inl ⟨by rfl, ?_⟩) (by assumption) ?_
      rotate_left
      · (intro wS hSw; (try dsimp only at hSw); go_simp; (try with_reducible rfl))
      try simp only [Act.put, List.setIfInBounds_toArray, List.set_cons_zero, List.set_cons_succ]
      refine wpAnyH_take (i := 6) (oi := { dst := some 26, op := Op.binOp BinOp.mul 3 (Operand.const (Value.int IntKind.i64 16)) (Operand.tmp 25) 3, type := 3, pos := "ref.go:48", after := #[{ on := 5, ground := Ground.data }], guard := none }) (v := ?_) rfl (by kernel_rfl) (by kernel_rfl) (by kernel_rfl) (fun _ _ _ h => h) (Or.inl ⟨by rfl, ?_⟩) (by assumption) ?_
      rotate_left
      · (intro wS hSw; (try dsimp only at hSw); go_simp; (try with_reducible rfl))
      try simp only [Act.put, List.setIfInBounds_toArray, List.set_cons_zero, List.set_cons_succ]
      refine wpAnyH_take (i := 7) (oi := { dst := some 27, op := Op.move (Operand.tmp 0), type := 26, pos := "ref.go:48", after := #[], guard := none }) (v := ?_) rfl (by kernel_rfl) (by kernel_rfl) (by kernel_rfl) (fun _ _ _ h => h) (Or.inl ⟨by rfl, ?_⟩) (by assumption) ?_
      rotate_left
      · (intro wS hSw; (try dsimp only at hSw); go_simp; (try with_reducible rfl))
      try simp only [Act.put, List.setIfInBounds_toArray, List.set_cons_zero, List.set_cons_succ]
      refine wpAnyH_take (i := 8) (oi := { dst := some 28, op := Op.move (Operand.tmp 5), type := 3, pos := "ref.go:48", after := #[], guard := none }) (v := ?_) rfl (by kernel_rfl) (by kernel_rfl) (by kernel_rfl) (fun _ _ _ h => h) (Or.inl ⟨by rfl, ?_⟩) (by assumption) ?_
      rotate_left
      · (intro wS hSw; (try dsimp only at hSw); go_simp; (try with_reducible rfl))
      try simp only [Act.put, List.setIfInBounds_toArray, List.set_cons_zero, List.set_cons_succ]
      refine wpAnyH_take (i := 9) (oi := { dst := some 29, op := Op.indexAddr 26 (Operand.tmp 27) (Operand.tmp 28), type := 0, pos := "ref.go:48", after := #[{ on := 7, ground := Ground.data }, { on := 8, ground := Ground.data }], guard := none }) (v := ?_) rfl (by kernel_rfl) (by kernel_rfl) (by kernel_rfl) (fun _ _ _ h => h) (Or.inl ⟨by rfl, ?_⟩) (by assumption) ?_
      rotate_left
      · (intro wS hSw; (try dsimp only at hSw); go_simp; (try with_reducible rfl))
      try simp only [Act.put, List.setIfInBounds_toArray, List.set_cons_zero, List.set_cons_succ]
      refine wpAnyH_take (i := 10) (oi := { dst := some 30, op := Op.fieldAddr 44 (Operand.tmp 29) 1, type := 0, pos := "ref.go:48", after := #[{ on := 9, ground := Ground.data }], guard := none }) (v := ?_) rfl (by kernel_rfl) (by kernel_rfl) (by kernel_rfl) (fun _ _ _ h => h) (Or.inl ⟨by rfl, ?_⟩) (by assumption) ?_
      rotate_left
      · (intro wS hSw; (try dsimp only at hSw); go_simp; (try with_reducible rfl))
      try simp only [Act.put, List.setIfInBounds_toArray, List.set_cons_zero, List.set_cons_succ]
      refine wpAnyH_take (i := 11) (oi := { dst := some 31, op := Op.load 3 (Operand.tmp 30), type := 3, pos := "ref.go:48", after := #[{ on := 10, ground := Ground.data }], guard := none }) (v := ?_) rfl (by kernel_rfl) (by kernel_rfl) (by kernel_rfl) (fun _ _ _ h => h) (Or.inl ⟨by rfl, ?_⟩) (by assumption) ?_
      rotate_left
      · (intro wS hSw; (try dsimp only at hSw); go_simp; (try with_reducible rfl))
      try simp only [Act.put, List.setIfInBounds_toArray, List.set_cons_zero, List.set_cons_succ]
      refine wpAnyH_take (i := 12) (oi := { dst := some 32, op := Op.binOp BinOp.add 3 (Operand.tmp 26) (Operand.tmp 31) 3, type := 3, pos := "ref.go:48", after := #[{ on := 6, ground := Ground.data }, { on := 11, ground := Ground.data }], guard := none }) (v := ?_) rfl (by kernel_rfl) (by kernel_rfl) (by kernel_rfl) (fun _ _ _ h => h) (Or.inl ⟨by rfl, ?_⟩) (by assumption) ?_
      rotate_left
      · (intro wS hSw; (try dsimp only at hSw); go_simp; (try with_reducible rfl))
      try simp only [Act.put, List.setIfInBounds_toArray, List.set_cons_zero, List.set_cons_succ]
      refine wpAnyH_take (i := 13) (oi := { dst := some 33, op := Op.convert 3 5 (Operand.tmp 32), type := 5, pos := "ref.go:48", after := #[{ on := 12, ground := Ground.data }], guard := none }) (v := ?_) rfl (by kernel_rfl) (by kernel_rfl) (by kernel_rfl) (fun _ _ _ h => h) (Or.inl ⟨by rfl, ?_⟩) (by assumption) ?_
      rotate_left
      · (intro wS hSw; (try dsimp only at hSw); go_simp; (try with_reducible rfl))
      try simp only [Act.put, List.setIfInBounds_toArray, List.set_cons_zero, List.set_cons_succ]
      refine wpAnyH_take (i := 14) (oi := { dst := some 34, op := Op.move (Operand.tmp 0), type := 26, pos := "ref.go:48", after := #[], guard := none }) (v := ?_) rfl (by kernel_rfl) (by kernel_rfl) (by kernel_rfl) (fun _ _ _ h => h) (Or.inl ⟨by rfl, ?_⟩) (by assumption) ?_
      rotate_left
      · (intro wS hSw; (try dsimp only at hSw); go_simp; (try with_reducible rfl))
      try simp only [Act.put, List.setIfInBounds_toArray, List.set_cons_zero, List.set_cons_succ]
      refine wpAnyH_take (i := 15) (oi := { dst := some 35, op := Op.move (Operand.tmp 5), type := 3, pos := "ref.go:48", after := #[], guard := none }) (v := ?_) rfl (by kernel_rfl) (by kernel_rfl) (by kernel_rfl) (fun _ _ _ h => h) (Or.inl ⟨by rfl, ?_⟩) (by assumption) ?_
      rotate_left
      · (intro wS hSw; (try dsimp only at hSw); go_simp; (try with_reducible rfl))
      try simp only [Act.put, List.setIfInBounds_toArray, List.set_cons_zero, List.set_cons_succ]
      refine wpAnyH_take (i := 16) (oi := { dst := some 36, op := Op.indexAddr 26 (Operand.tmp 34) (Operand.tmp 35), type := 0, pos := "ref.go:48", after := #[{ on := 14, ground := Ground.data }, { on := 15, ground := Ground.data }], guard := none }) (v := ?_) rfl (by kernel_rfl) (by kernel_rfl) (by kernel_rfl) (fun _ _ _ h => h) (Or.inl ⟨by rfl, ?_⟩) (by assumption) ?_
      rotate_left
      · (intro wS hSw; (try dsimp only at hSw); go_simp; (try with_reducible rfl))
      try simp only [Act.put, List.setIfInBounds_toArray, List.set_cons_zero, List.set_cons_succ]
      refine wpAnyH_take (i := 17) (oi := { dst := some 37, op := Op.fieldAddr 44 (Operand.tmp 36) 2, type := 0, pos := "ref.go:48", after := #[{ on := 16, ground := Ground.data }], guard := none }) (v := ?_) rfl (by kernel_rfl) (by kernel_rfl) (by kernel_rfl) (fun _ _ _ h => h) (Or.inl ⟨by rfl, ?_⟩) (by assumption) ?_
      rotate_left
      · (intro wS hSw; (try dsimp only at hSw); go_simp; (try with_reducible rfl))
      try simp only [Act.put, List.setIfInBounds_toArray, List.set_cons_zero, List.set_cons_succ]
      refine wpAnyH_take (i := 18) (oi := { dst := some 38, op := Op.load 42 (Operand.tmp 37), type := 42, pos := "ref.go:48", after := #[{ on := 17, ground := Ground.data }], guard := none }) (v := ?_) rfl (by kernel_rfl) (by kernel_rfl) (by kernel_rfl) (fun _ _ _ h => h) (Or.inl ⟨by rfl, ?_⟩) (by assumption) ?_
      rotate_left
      · (intro wS hSw; (try dsimp only at hSw); go_simp; (try with_reducible rfl))
      try simp only [Act.put, List.setIfInBounds_toArray, List.set_cons_zero, List.set_cons_succ]
      refine wpAnyH_take (i := 19) (oi := { dst := some 39, op := Op.call { callee := Callee.builtin Builtin.len, args := #[Operand.tmp 38], argTypes := #[42] }, type := 3, pos := "ref.go:48", after := #[{ on := 18, ground := Ground.data }], guard := none }) (v := ?_) rfl (by kernel_rfl) (by kernel_rfl) (by kernel_rfl) (fun _ _ _ h => h) (Or.inl ⟨by rfl, ?_⟩) (by assumption) ?_
      rotate_left
      · (intro wS hSw; (try dsimp only at hSw); go_simp; (try with_reducible rfl))
      try simp only [Act.put, List.setIfInBounds_toArray, List.set_cons_zero, List.set_cons_succ]
      refine wpAnyH_take (i := 20) (oi := { dst := some 40, op := Op.convert 3 5 (Operand.tmp 39), type := 5, pos := "ref.go:48", after := #[{ on := 19, ground := Ground.data }], guard := none }) (v := ?_) rfl (by kernel_rfl) (by kernel_rfl) (by kernel_rfl) (fun _ _ _ h => h) (Or.inl ⟨by rfl, ?_⟩) (by assumption) ?_
      rotate_left
      · (intro wS hSw; (try dsimp only at hSw); go_simp; (try with_reducible rfl))
      try simp only [Act.put, List.setIfInBounds_toArray, List.set_cons_zero, List.set_cons_succ]
      refine wpAnyH_ready (rs := [21]) (by kernel_rfl) (by simp) ?_
      refine AllReadyH.cons (o := { dst := some 41, op := Op.buildSlice 22 2 #[(0, Operand.tmp 33), (1, Operand.tmp 40)], type := 22, pos := "ref.go:48", after := #[{ on := 13, ground := Ground.data }, { on := 20, ground := Ground.data }], guard := none }) rfl (fun K hK => ?_) AllReadyH.nil
      refine wp_build2b _ _ rfl (hh : Int) (m : Int) rfl rfl ?_
      intro wN b3 B3 hqb hb
      have x0 := (hb.cell (p := ⟨b1, o1 + i * 3, none⟩) lq).trans x0
      have x1 := (hb.cell (p := ⟨b1, o1 + i * 3 + 1, none⟩) lq).trans x1
      have x2 := (hb.cell (p := ⟨b1, o1 + i * 3 + 2, none⟩) lq).trans x2
      have HNR := own_below HRd hb
      have HNB : Below w.heap.size wr wN := (Below.refl _ wr).drew.trans (hb.mono hsz)
      clear hb
      refine hK.out _ _ ?_ (fun hNew => ?_)
      · (first | exact ⟨x0, x1, x2⟩ | assumption)
      clear hK K hHeld
      have hHeld := hNew
      clear hNew
      try simp only [Act.put, List.setIfInBounds_toArray, List.set_cons_zero, List.set_cons_succ]
      refine wpAnyH_ready (rs := [22]) (by kernel_rfl) (by simp) ?_
      refine AllReadyH.cons (o := { dst := some 42, op := Op.call { callee := Callee.builtin Builtin.append, args := #[Operand.tmp 20, Operand.tmp 41], argTypes := #[22, 22] }, type := 22, pos := "ref.go:48", after := #[{ on := 0, ground := Ground.data }, { on := 21, ground := Ground.data }], guard := none }) rfl (fun K hK => ?_) AllReadyH.nil
      obtain ⟨ti0, hi9, hz0, hz1, hz2⟩ := info_parts infoByte
      refine wp_app _ (.tmp 20) (.tmp 41) 22 rfl w.heap.size 5 ti0 _ 1 1 Try.underlying22 hi9 hz0 hz1 hz2 rfl (by decide) v N (bs.map byteV) rfl HNR _ 2 2 [byteV hh, byteV m] rfl (rd_blk B3) (by intro u hu; simp at hu; rcases hu with rfl | rfl <;> rfl) (by unfold maxLen; omega) (by omega) (by have := HNB.size; omega) ?_
      intro v2 wX hoX hgX hvX
      clear hi9 hz0 hz1 hz2
      have hbX := below_gr hgX HNR (Nat.le_refl _) (by have := HNB.size; omega)
      have x0 := (hbX.cell (p := ⟨b1, o1 + i * 3, none⟩) lt1).trans x0
      have x1 := (hbX.cell (p := ⟨b1, o1 + i * 3 + 1, none⟩) lt1).trans x1
      have x2 := (hbX.cell (p := ⟨b1, o1 + i * 3 + 2, none⟩) lt1).trans x2
      have HXB := HNB.trans hbX
      clear hbX hgX hvX HNR
      refine hK.out _ _ ?_ (fun hNew => ?_)
      · (first | exact ⟨x0, x1, x2⟩ | assumption)
      clear hK K hHeld
      have hHeld := hNew
      clear hNew
      try simp only [Act.put, List.setIfInBounds_toArray, List.set_cons_zero, List.set_cons_succ]
      refine wpAnyH_take (i := 23) (oi := { dst := some 4, op := Op.assign (Operand.tmp 42), type := 22, pos := "ref.go:48", after := #[{ on := 22, ground := Ground.data }, { on := 22, ground := Ground.chain }, { on := 0, ground := Ground.phase }, { on := 1, ground := Ground.phase }, { on := 2, ground := Ground.phase }, { on := 3, ground := Ground.phase }, { on := 4, ground := Ground.phase }, { on := 5, ground := Ground.phase }, { on := 6, ground := Ground.phase }, { on := 7, ground := Ground.phase }, { on := 8, ground := Ground.phase }, { on := 9, ground := Ground.phase }, { on := 10, ground := Ground.phase }, { on := 11, ground := Ground.phase }, { on := 12, ground := Ground.phase }, { on := 13, ground := Ground.phase }, { on := 14, ground := Ground.phase }, { on := 15, ground := Ground.phase }, { on := 16, ground := Ground.phase }, { on := 17, ground := Ground.phase }, { on := 18, ground := Ground.phase }, { on := 19, ground := Ground.phase }, { on := 20, ground := Ground.phase }, { on := 21, ground := Ground.phase }, { on := 22, ground := Ground.phase }], guard := none }) (v := ?_) rfl (by kernel_rfl) (by kernel_rfl) (by kernel_rfl) (fun _ _ _ h => h) (Or.inl ⟨by rfl, ?_⟩) (by assumption) ?_
      rotate_left
      · (intro wS hSw; (try dsimp only at hSw); go_simp; (try with_reducible rfl))
      try simp only [Act.put, List.setIfInBounds_toArray, List.set_cons_zero, List.set_cons_succ]
      refine wpAnyH_done (by kernel_rfl) ?_ _
      refine NoPanic.normal ?_
      clear hHeld
      go_wp2_with fail
      have hRX : wX.ownsRow w.heap.size 5 1 v2 (N + 2) ((bs ++ [hh, m]).map byteV) := by rw [List.map_append]; exact hoX
      have hBX := hB.trans HXB
      clear hoX HXB B3 HRd x0 x1 x2 lq
      go_loopw [4, 6] (fun s4 s6 wy => ∃ (k N2 : Nat) (v3 : Value) (bs3 : List Nat), k ≤ m ∧ s6 = .int .i64 (k : Int) ∧ s4 = v3 ∧ Hid (bs3 = bs ++ [hh, m] ++ ptsB (ps.take k)) ∧ wy.ownsRow w.heap.size 5 1 v3 N2 (bs3.map byteV) ∧ N2 ≤ N + 2 + 4 * k ∧ Below w.heap.size w wy) (fun _ s6 _ => m - (iOf s6).toNat)
      case atStart => exact ⟨0, N + 2, v2, bs ++ [hh, m], Nat.zero_le _, rfl, rfl, Lib.hid (by simp [ptsB]), (by first | exact hRX | exact own_below hRX (Below.refl _ _).drew), by omega, (by first | exact hBX | exact hBX.drew)⟩
      case round =>
        obtain ⟨k, N2, v3, bs3, hk, rfl, e43, HB3, HR3, hN2, hB2⟩ := hrel
        have e43' := e43.symm
        subst e43'
        have x2 := (hB2.cell (p := ⟨b1, o1 + i * 3 + 2, none⟩) lt1).trans x2w
        by_cases hlk : k < m
        · obtain ⟨b3, o3, rfl, lt3, q3⟩ := sP.at_ (by rw [List.length_map, HM.out]; omega)
          obtain ⟨p, hp⟩ : ∃ p, ps[k]? = some p := ⟨_, List.getElem?_eq_getElem (by rw [HM.out]; exact hlk)⟩
          have hpo := HPO.out p (List.mem_of_getElem? hp)
          have HPT : Hid (ptsB (ps.take (k + 1)) = ptsB (ps.take k) ++ [p.1, p.2.1] ++ [p.2.2.1, p.2.2.2]) := Lib.hid (ptsB_take hp)
          have z0w := q3 k (ptV p) (by simp [hp])
          obtain ⟨pa, pb, pc, pd⟩ := p
          unfold ptV at z0w
          dsimp only at z0w hpo
          obtain ⟨a8, b8, c8, d8⟩ := hpo
          have z0 := (hB2.cell (p := ⟨b3, o3 + k, none⟩) lt3).trans z0w
          have k3 : N2 ≤ 1000 := by omega
          have HRd := own_below HR3 (Below.refl _ wr).drew
          have hsz2 : w.heap.size ≤ wr.drew.heap.size := hB2.size
          have hBd : Below w.heap.size w wr.drew := hB2.drew
          have k0 : (0 : Int) ≤ (k : Int) := by omega
          have k1 : (k : Int) < (m : Int) := by omega
          have k2 : N2 + 2 ≤ 1000 := by omega
          clear q3 hp z0w
          go_upto_region 11 with fail
          refine wp_region_noPanic ?_
          refine wp_region_held_drew (S := (fun w' => w'.cell? ⟨b1, o1 + i * 3 + 2, none⟩ = some (.slice (some ⟨b3, o3, none⟩) m c1) ∧ w'.cell? ⟨b3, o3 + k, none⟩ = some (.complex .f64 (F (ptz pa pb)) (F (ptz pc pd))))) (by kernel_rfl) ?_ (fun hHeld => ?_)
          · (first | exact ⟨x2, z0⟩ | assumption)
          refine wpAnyH_take (i := 0) (oi := { dst := some 53, op := Op.move (Operand.tmp 4), type := 22, pos := "ref.go:50", after := #[], guard := none }) (v := ?_) rfl (by kernel_rfl) (by kernel_rfl) (by kernel_rfl) (fun _ _ _ h => h) (Or.inl ⟨by rfl, ?_⟩) (by assumption) ?_
          rotate_left
          · (intro wS hSw; (try dsimp only at hSw); go_simp; (try with_reducible rfl))
          try simp only [Act.put, List.setIfInBounds_toArray, List.set_cons_zero, List.set_cons_succ]
          refine wpAnyH_take (i := 1) (oi := { dst := some 54, op := Op.move (Operand.tmp 0), type := 26, pos := "ref.go:50", after := #[], guard := none }) (v := ?_) rfl (by kernel_rfl) (by kernel_rfl) (by kernel_rfl) (fun _ _ _ h => h) (Or.inl ⟨by rfl, ?_⟩) (by assumption) ?_
          rotate_left
          · (intro wS hSw; (try dsimp only at hSw); go_simp; (try with_reducible rfl))
          try simp only [Act.put, List.setIfInBounds_toArray, List.set_cons_zero, List.set_cons_succ]
          refine wpAnyH_take (i := 2) (oi := { dst := some 55, op := Op.move (Operand.tmp 5), type := 3, pos := "ref.go:50", after := #[], guard := none }) (v := ?_) rfl (by kernel_rfl) (by kernel_rfl) (by kernel_rfl) (fun _ _ _ h => h) (Or.inl ⟨by rfl, ?_⟩) (by assumption) ?_
          rotate_left
          · (intro wS hSw; (try dsimp only at hSw); go_simp; (try with_reducible rfl))
          try simp only [Act.put, List.setIfInBounds_toArray, List.set_cons_zero, List.set_cons_succ]
          refine wpAnyH_take (i := 3) (oi := { dst := some 56, op := Op.indexAddr 26 (Operand.tmp 54) (Operand.tmp 55), type := 0, pos := "ref.go:50", after := #[{ on := 1, ground := Ground.data }, { on := 2, ground := Ground.data }], guard := none }) (v := ?_) rfl (by kernel_rfl) (by kernel_rfl) (by kernel_rfl) (fun _ _ _ h => h) (Or.inl ⟨by rfl, ?_⟩) (by assumption) ?_
          rotate_left
          · (intro wS hSw; (try dsimp only at hSw); go_simp; (try with_reducible rfl))
          try simp only [Act.put, List.setIfInBounds_toArray, List.set_cons_zero, List.set_cons_succ]
          refine wpAnyH_take (i := 4) (oi := { dst := some 57, op := Op.fieldAddr 44 (Operand.tmp 56) 2, type := 0, pos := "ref.go:50", after := #[{ on := 3, ground := Ground.data }], guard := none }) (v := ?_) rfl (by kernel_rfl) (by kernel_rfl) (by kernel_rfl) (fun _ _ _ h => h) (Or.inl ⟨by rfl, ?_⟩) (by assumption) ?_
          rotate_left
          · (intro wS hSw; (try dsimp only at hSw); go_simp; (try with_reducible rfl))
          try simp only [Act.put, List.setIfInBounds_toArray, List.set_cons_zero, List.set_cons_succ]
          refine wpAnyH_take (i := 5) (oi := { dst := some 58, op := Op.load 42 (Operand.tmp 57), type := 42, pos := "ref.go:50", after := #[{ on := 4, ground := Ground.data }], guard := none }) (v := ?_) rfl (by kernel_rfl) (by kernel_rfl) (by kernel_rfl) (fun _ _ _ h => h) (Or.inl ⟨by rfl, ?_⟩) (by assumption) ?_
          rotate_left
          · (intro wS hSw; (try dsimp only at hSw); go_simp; (try with_reducible rfl))
          try simp only [Act.put, List.setIfInBounds_toArray, List.set_cons_zero, List.set_cons_succ]
          refine wpAnyH_take (i := 6) (oi := { dst := some 59, op := Op.move (Operand.tmp 6), type := 3, pos := "ref.go:50", after := #[], guard := none }) (v := ?_) rfl (by kernel_rfl) (by kernel_rfl) (by kernel_rfl) (fun _ _ _ h => h) (Or.inl ⟨by rfl, ?_⟩) (by assumption) ?_
          rotate_left
          · (intro wS hSw; (try dsimp only at hSw); go_simp; (try with_reducible rfl))
          try simp only [Act.put, List.setIfInBounds_toArray, List.set_cons_zero, List.set_cons_succ]
          refine wpAnyH_take (i := 7) (oi := { dst := some 60, op := Op.indexAddr 42 (Operand.tmp 58) (Operand.tmp 59), type := 0, pos := "ref.go:50", after := #[{ on := 5, ground := Ground.data }, { on := 6, ground := Ground.data }], guard := none }) (v := ?_) rfl (by kernel_rfl) (by kernel_rfl) (by kernel_rfl) (fun _ _ _ h => h) (Or.inl ⟨by rfl, ?_⟩) (by assumption) ?_
          rotate_left
          · (intro wS hSw; (try dsimp only at hSw); go_simp; (try with_reducible rfl))
          try simp only [Act.put, List.setIfInBounds_toArray, List.set_cons_zero, List.set_cons_succ]
          refine wpAnyH_take (i := 8) (oi := { dst := some 61, op := Op.load 41 (Operand.tmp 60), type := 41, pos := "ref.go:50", after := #[{ on := 7, ground := Ground.data }], guard := none }) (v := ?_) rfl (by kernel_rfl) (by kernel_rfl) (by kernel_rfl) (fun _ _ _ h => h) (Or.inl ⟨by rfl, ?_⟩) (by assumption) ?_
          rotate_left
          · (intro wS hSw; (try dsimp only at hSw); go_simp; (try with_reducible rfl))
          try simp only [Act.put, List.setIfInBounds_toArray, List.set_cons_zero, List.set_cons_succ]
          refine wpAnyH_take (i := 9) (oi := { dst := some 62, op := Op.call { callee := Callee.builtin Builtin.real, args := #[Operand.tmp 61], argTypes := #[41] }, type := 47, pos := "ref.go:50", after := #[{ on := 8, ground := Ground.data }], guard := none }) (v := ?_) rfl (by kernel_rfl) (by kernel_rfl) (by kernel_rfl) (fun _ _ _ h => h) (Or.inl ⟨by rfl, ?_⟩) (by assumption) ?_
          rotate_left
          · (intro wS hSw; (try dsimp only at hSw); go_simp; (try with_reducible rfl))
          try simp only [Act.put, List.setIfInBounds_toArray, List.set_cons_zero, List.set_cons_succ]
          refine wpAnyH_take (i := 11) (oi := { dst := some 64, op := Op.move (Operand.tmp 0), type := 26, pos := "ref.go:50", after := #[], guard := none }) (v := ?_) rfl (by kernel_rfl) (by kernel_rfl) (by kernel_rfl) (fun _ _ _ h => h) (Or.inl ⟨by rfl, ?_⟩) (by assumption) ?_
          rotate_left
          · (intro wS hSw; (try dsimp only at hSw); go_simp; (try with_reducible rfl))
          try simp only [Act.put, List.setIfInBounds_toArray, List.set_cons_zero, List.set_cons_succ]
          refine wpAnyH_take (i := 12) (oi := { dst := some 65, op := Op.move (Operand.tmp 5), type := 3, pos := "ref.go:50", after := #[], guard := none }) (v := ?_) rfl (by kernel_rfl) (by kernel_rfl) (by kernel_rfl) (fun _ _ _ h => h) (Or.inl ⟨by rfl, ?_⟩) (by assumption) ?_
          rotate_left
          · (intro wS hSw; (try dsimp only at hSw); go_simp; (try with_reducible rfl))
          try simp only [Act.put, List.setIfInBounds_toArray, List.set_cons_zero, List.set_cons_succ]
          refine wpAnyH_take (i := 13) (oi := { dst := some 66, op := Op.indexAddr 26 (Operand.tmp 64) (Operand.tmp 65), type := 0, pos := "ref.go:50", after := #[{ on := 11, ground := Ground.data }, { on := 12, ground := Ground.data }], guard := none }) (v := ?_) rfl (by kernel_rfl) (by kernel_rfl) (by kernel_rfl) (fun _ _ _ h => h) (Or.inl ⟨by rfl, ?_⟩) (by assumption) ?_
          rotate_left
          · (intro wS hSw; (try dsimp only at hSw); go_simp; (try with_reducible rfl))
          try simp only [Act.put, List.setIfInBounds_toArray, List.set_cons_zero, List.set_cons_succ]
          refine wpAnyH_take (i := 14) (oi := { dst := some 67, op := Op.fieldAddr 44 (Operand.tmp 66) 2, type := 0, pos := "ref.go:50", after := #[{ on := 13, ground := Ground.data }], guard := none }) (v := ?_) rfl (by kernel_rfl) (by kernel_rfl) (by kernel_rfl) (fun _ _ _ h => h) (Or.inl ⟨by rfl, ?_⟩) (by assumption) ?_
          rotate_left
          · (intro wS hSw; (try dsimp only at hSw); go_simp; (try with_reducible rfl))
          try simp only [Act.put, List.setIfInBounds_toArray, List.set_cons_zero, List.set_cons_succ]
          refine wpAnyH_take (i := 15) (oi := { dst := some 68, op := Op.load 42 (Operand.tmp 67), type := 42, pos := "ref.go:50", after := #[{ on := 14, ground := Ground.data }], guard := none }) (v := ?_) rfl (by kernel_rfl) (by kernel_rfl) (by kernel_rfl) (fun _ _ _ h => h) (Or.inl ⟨by rfl, ?_⟩) (by assumption) ?_
          rotate_left
          · (intro wS hSw; (try dsimp only at hSw); go_simp; (try with_reducible rfl))
          try simp only [Act.put, List.setIfInBounds_toArray, List.set_cons_zero, List.set_cons_succ]
          refine wpAnyH_take (i := 16) (oi := { dst := some 69, op := Op.move (Operand.tmp 6), type := 3, pos := "ref.go:50", after := #[], guard := none }) (v := ?_) rfl (by kernel_rfl) (by kernel_rfl) (by kernel_rfl) (fun _ _ _ h => h) (Or.inl ⟨by rfl, ?_⟩) (by assumption) ?_
          rotate_left
          · (intro wS hSw; (try dsimp only at hSw); go_simp; (try with_reducible rfl))
          try simp only [Act.put, List.setIfInBounds_toArray, List.set_cons_zero, List.set_cons_succ]
          refine wpAnyH_take (i := 17) (oi := { dst := some 70, op := Op.indexAddr 42 (Operand.tmp 68) (Operand.tmp 69), type := 0, pos := "ref.go:50", after := #[{ on := 15, ground := Ground.data }, { on := 16, ground := Ground.data }], guard := none }) (v := ?_) rfl (by kernel_rfl) (by kernel_rfl) (by kernel_rfl) (fun _ _ _ h => h) (Or.inl ⟨by rfl, ?_⟩) (by assumption) ?_
          rotate_left
          · (intro wS hSw; (try dsimp only at hSw); go_simp; (try with_reducible rfl))
          try simp only [Act.put, List.setIfInBounds_toArray, List.set_cons_zero, List.set_cons_succ]
          refine wpAnyH_take (i := 18) (oi := { dst := some 71, op := Op.load 41 (Operand.tmp 70), type := 41, pos := "ref.go:50", after := #[{ on := 17, ground := Ground.data }], guard := none }) (v := ?_) rfl (by kernel_rfl) (by kernel_rfl) (by kernel_rfl) (fun _ _ _ h => h) (Or.inl ⟨by rfl, ?_⟩) (by assumption) ?_
          rotate_left
          · (intro wS hSw; (try dsimp only at hSw); go_simp; (try with_reducible rfl))
          try simp only [Act.put, List.setIfInBounds_toArray, List.set_cons_zero, List.set_cons_succ]
          refine wpAnyH_take (i := 19) (oi := { dst := some 72, op := Op.call { callee := Callee.builtin Builtin.imag, args := #[Operand.tmp 71], argTypes := #[41] }, type := 47, pos := "ref.go:50", after := #[{ on := 18, ground := Ground.data }], guard := none }) (v := ?_) rfl (by kernel_rfl) (by kernel_rfl) (by kernel_rfl) (fun _ _ _ h => h) (Or.inl ⟨by rfl, ?_⟩) (by assumption) ?_
          rotate_left
          · (intro wS hSw; (try dsimp only at hSw); go_simp; (try with_reducible rfl))
          try simp only [Act.put, List.setIfInBounds_toArray, List.set_cons_zero, List.set_cons_succ]
          refine wpAnyH_ready (rs := [10]) (by kernel_rfl) (by simp) ?_
          refine AllReadyH.cons (o := { dst := some 63, op := Op.call { callee := Callee.value (Operand.func 26), args := #[Operand.tmp 53, Operand.tmp 62], argTypes := #[22, 47] }, type := 22, pos := "ref.go:50", after := #[{ on := 0, ground := Ground.data }, { on := 9, ground := Ground.data }], guard := none }) rfl (fun K hK => ?_) AllReadyH.nil
          go_simp
          (first | (go_at_call 26; ((with_reducible refine (rpart_any pa pb w.heap.size v3 N2 bs3 _ a8 b8 HRd hsz2 k3).mono ?_); rintro e' wQ ⟨sv1, rfl, ho1, hq1⟩; have x2 := (hq1.cell (p := ⟨b1, o1 + i * 3 + 2, none⟩) lt1).trans x2; have z0 := (hq1.cell (p := ⟨b3, o3 + k, none⟩) lt3).trans z0; have HQB := hBd.trans hq1; clear hq1)) | (go_at_call 26; ((with_reducible refine (rpart_any pc pd w.heap.size sv1 (N2 + 2) (bs3 ++ [pa, pb]) _ c8 d8 ho1 HQB.size k2).mono ?_); rintro e' wQ2 ⟨sv2, rfl, ho2, hq2⟩; have x2 := (hq2.cell (p := ⟨b1, o1 + i * 3 + 2, none⟩) lt1).trans x2; have z0 := (hq2.cell (p := ⟨b3, o3 + k, none⟩) lt3).trans z0; have HQB2 := HQB.trans hq2; clear hq2)))
          show K _ _
          refine hK.out _ _ ?_ (fun hNew => ?_)
          · (first | exact ⟨x2, z0⟩ | assumption)
          clear hK K hHeld
          have hHeld := hNew
          clear hNew
          try simp only [Act.put, List.setIfInBounds_toArray, List.set_cons_zero, List.set_cons_succ]
          refine wpAnyH_ready (rs := [20]) (by kernel_rfl) (by simp) ?_
          refine AllReadyH.cons (o := { dst := some 73, op := Op.call { callee := Callee.value (Operand.func 26), args := #[Operand.tmp 63, Operand.tmp 72], argTypes := #[22, 47] }, type := 22, pos := "ref.go:50", after := #[{ on := 10, ground := Ground.data }, { on := 19, ground := Ground.data }, { on := 10, ground := Ground.chain }], guard := none }) rfl (fun K hK => ?_) AllReadyH.nil
          go_simp
          (first | (go_at_call 26; ((with_reducible refine (rpart_any pa pb w.heap.size v3 N2 bs3 _ a8 b8 HRd hsz2 k3).mono ?_); rintro e' wQ ⟨sv1, rfl, ho1, hq1⟩; have x2 := (hq1.cell (p := ⟨b1, o1 + i * 3 + 2, none⟩) lt1).trans x2; have z0 := (hq1.cell (p := ⟨b3, o3 + k, none⟩) lt3).trans z0; have HQB := hBd.trans hq1; clear hq1)) | (go_at_call 26; ((with_reducible refine (rpart_any pc pd w.heap.size sv1 (N2 + 2) (bs3 ++ [pa, pb]) _ c8 d8 ho1 HQB.size k2).mono ?_); rintro e' wQ2 ⟨sv2, rfl, ho2, hq2⟩; have x2 := (hq2.cell (p := ⟨b1, o1 + i * 3 + 2, none⟩) lt1).trans x2; have z0 := (hq2.cell (p := ⟨b3, o3 + k, none⟩) lt3).trans z0; have HQB2 := HQB.trans hq2; clear hq2)))
          show K _ _
          refine hK.out _ _ ?_ (fun hNew => ?_)
          · (first | exact ⟨x2, z0⟩ | assumption)
          clear hK K hHeld
          have hHeld := hNew
          clear hNew
          try simp only [Act.put, List.setIfInBounds_toArray, List.set_cons_zero, List.set_cons_succ]
          refine wpAnyH_take (i := 21) (oi := { dst := some 4, op := Op.assign (Operand.tmp 73), type := 22, pos := "ref.go:50", after := #[{ on := 20, ground := Ground.data }, { on := 20, ground := Ground.chain }, { on := 0, ground := Ground.phase }, { on := 1, ground := Ground.phase }, { on := 2, ground := Ground.phase }, { on := 3, ground := Ground.phase }, { on := 4, ground := Ground.phase }, { on := 5, ground := Ground.phase }, { on := 6, ground := Ground.phase }, { on := 7, ground := Ground.phase }, { on := 8, ground := Ground.phase }, { on := 9, ground := Ground.phase }, { on := 10, ground := Ground.phase }, { on := 11, ground := Ground.phase }, { on := 12, ground := Ground.phase }, { on := 13, ground := Ground.phase }, { on := 14, ground := Ground.phase }, { on := 15, ground := Ground.phase }, { on := 16, ground := Ground.phase }, { on := 17, ground := Ground.phase }, { on := 18, ground := Ground.phase }, { on := 19, ground := Ground.phase }, { on := 20, ground := Ground.phase }], guard := none }) (v := ?_) rfl (by kernel_rfl) (by kernel_rfl) (by kernel_rfl) (fun _ _ _ h => h) (Or.inl ⟨by rfl, ?_⟩) (by assumption) ?_
          rotate_left
          · (intro wS hSw; (try dsimp only at hSw); go_simp; (try with_reducible rfl))
          try simp only [Act.put, List.setIfInBounds_toArray, List.set_cons_zero, List.set_cons_succ]
          refine wpAnyH_done (by kernel_rfl) ?_ _
          refine NoPanic.normal ?_
          go_wp2_with fail
          go_roundw
          case rel => exact ⟨k + 1, N2 + 2 + 2, sv2, bs3 ++ [pa, pb] ++ [pc, pd], by omega, by go_num, rfl, Lib.hid (by rw [HB3.out, HPT.out]; simp), ho2, by omega, HQB2⟩
          case measure => simp [iOf]; omega
        · have hkm : k = m := by omega
          subst hkm
          go_wp2
          go_roundw
          case rel => exact ⟨i + 1, N2, v3, bs3, by omega, by go_num, rfl, Lib.hid (by rw [HB3.out, List.take_of_length_le (l := ps) (by rw [HM.out]; omega), HBS.out, HTK.out]; simp), HR3, by omega, hB2⟩
          case measure => simp [iOf]; omega

    · have hin : i = n := by omega
      subst hin
      have HL : Hid (layB (es.map Prod.fst) = bs) := Lib.hid (by rw [HBS.out, List.take_of_length_le (by rw [List.length_map, HN.out]; omega)]; unfold layB; rw [List.length_map, HN.out])
      go_wp2
      go_ret2
      refine ⟨⟨v, rfl, ?_⟩, hB⟩
      have hl := HRW.1
      rw [HL.out]
      rw [List.length_map] at hl
      rw [show bs.length = N by omega]
      exact HRW
end Go.Proofs.Ytmnfikfncbppfaa
