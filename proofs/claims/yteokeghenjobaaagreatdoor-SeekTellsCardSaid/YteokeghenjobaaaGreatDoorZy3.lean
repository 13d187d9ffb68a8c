/- seek.Find. -/
import Derived.Test.YteokeghenjobaaaGreatDoorZy2
import Derived.Maps.OwnSet
import Derived.Maps.OwnOps
import Derived.Lib.SliceRun
import Derived.Deep.DeepCutAuto
set_option linter.unusedSimpArgs false
set_option linter.unusedVariables false
set_option maxRecDepth 100000
set_option maxHeartbeats 16000000
namespace Go.Proofs.YteokeghenjobaaaGreatDoor
open Go.ChangeShapes Go.WideShapes Go.ChangeAt Go.RowKit
attribute [local go_sem ↓] Go.wp_at_zero Go.wp_at_succ
attribute [local go_sem] Oper.semAt_some
theorem mayTg_len {l : List ByteArray} (h : mayTg l = true) : l.length ≤ 4 := by
  unfold mayTg at h
  simp only [Bool.and_eq_true, decide_eq_true_eq] at h
  exact h.1
theorem mayN_len {x : ByteArray} (h : mayN x = true) : x.size ≤ 20 := by
  have := (name_iff.1 h).2.1
  rw [size_L]
  exact this
theorem MayF.note {s : Sf} (h : MayF s) {n : Nt} (hn : n ∈ s.ts) : n.tg.length ≤ 4 ∧ n.nm.size ≤ 20 := by
  have := (h.ts n hn).2.2
  unfold mayNt at this
  simp only [Bool.and_eq_true] at this
  exact ⟨mayTg_len this.2.2.2, mayN_len this.1⟩
theorem MayF.bookIx {s : Sf} (h : MayF s) {n : Nt} (hn : n ∈ s.ts) : ∃ (I : Nat) (b : Bk), bookAt s n.bk = (I : Int) ∧ s.bs[I]? = some b ∧ bkNm s n.bk = b.nm := by
  have h1 := h.book hn
  have h2 := (idxP_lt (fun b : Bk => b.id == n.bk) s.bs).2
  have h3 : bookAt s n.bk < (s.bs.length : Int) := h2
  have hlt : (bookAt s n.bk).toNat < s.bs.length := by omega
  refine ⟨(bookAt s n.bk).toNat, s.bs[(bookAt s n.bk).toNat], by omega, List.getElem?_eq_getElem hlt, ?_⟩
  unfold bkNm
  rw [List.getElem?_eq_getElem hlt]
theorem flat_mapI (L : List It) : L.flatMap itC = (L.map itC).flatten := List.flatMap_def ..
theorem one_cell (w : World) (v : Value) (t : TypeId) : (w.alloc (.cells #[v] t)).cell? ⟨w.heap.size, 0, none⟩ = some v := by
  rw [Joins.cell_of_block (heap_alloc_new w _)]
  rfl
theorem find_arg (s : Sf) (v : Value) (q : List UInt8) (w : World) (hS : ShR w w.heap.size v s) (hT : Tabs w) (hM : mayS s = false) :
    Calls Tryz.prog 12 #[v, .string (bOf q)] w fun e' w' => e' = .returned (.tuple #[.slice none 0 0, .int .i64 2]) ∧ Below w.heap.size w w' := by
  have hS0 := hS
  obtain ⟨Ab, cb, An, cn, rfl, hB, hN, hcb, hmb, hcn, hmn⟩ := hS.ex
  clear hS
  have HB : Below w.heap.size w (w.alloc (.cells #[.int .i64 s.nb, .int .i64 s.nn, .int .i64 s.ns, .slice Ab s.bs.length cb, .slice An s.ts.length cn] 25)) := ((Below.refl w.heap.size w).alloc (by first | (simp; done) | (simp; omega)) _)
  have B1 : Blk (w.alloc (.cells #[.int .i64 s.nb, .int .i64 s.nn, .int .i64 s.ns, .slice Ab s.bs.length cb, .slice An s.ts.length cn] 25)) w.heap.size 25 #[.int .i64 s.nb, .int .i64 s.nn, .int .i64 s.ns, .slice Ab s.bs.length cb, .slice An s.ts.length cn] := Blk.new_ w 25 #[.int .i64 s.nb, .int .i64 s.nn, .int .i64 s.ns, .slice Ab s.bs.length cb, .slice An s.ts.length cn]
  have S1 : ShR (w.alloc (.cells #[.int .i64 s.nb, .int .i64 s.nn, .int .i64 s.ns, .slice Ab s.bs.length cb, .slice An s.ts.length cn] 25)) ((w.alloc (.cells #[.int .i64 s.nb, .int .i64 s.nn, .int .i64 s.ns, .slice Ab s.bs.length cb, .slice An s.ts.length cn] 25))).heap.size (.agg #[.int .i64 s.nb, .int .i64 s.nn, .int .i64 s.ns, .slice Ab s.bs.length cb, .slice An s.ts.length cn]) s := hS0.next HB
  have T1 := hT.next HB
  have HM := Lib.hid hM
  clear hM hS0 hT hB hN
  go_enter Tryz.func12, Tryz.ntmps12
  go_wp2_with (go_at_call 28; ((with_reducible refine (smay_any s _ _ S1 T1 _ HM.out).mono ?_); rintro e' w3 ⟨rfl, b3⟩; have S1 := S1.next b3; have B1 := B1.below b3 B1.lt; have HB := btr HB HB.size b3; (try clear k0 k1 k2 k3 k4); have k0 := B1.cell_ 0; have k1 := B1.cell_ 1; have k2 := B1.cell_ 2; have k3 := B1.cell_ 3; have k4 := B1.cell_ 4; simp at k0 k1 k2 k3 k4; clear b3))
  go_ret2
  exact ⟨rfl, HB⟩
theorem find_form (s : Sf) (v : Value) (q : List UInt8) (w : World) (hS : ShR w w.heap.size v s) (hT : Tabs w) (hM : mayS s = true) (hq : readL q = none) (hl : q.length ≤ 100000) :
    Calls Tryz.prog 12 #[v, .string (bOf q)] w fun e' w' => e' = .returned (.tuple #[.slice none 0 0, .int .i64 5]) ∧ Below w.heap.size w w' := by
  have hS0 := hS
  obtain ⟨Ab, cb, An, cn, rfl, hB, hN, hcb, hmb, hcn, hmn⟩ := hS.ex
  clear hS
  have HB : Below w.heap.size w (w.alloc (.cells #[.int .i64 s.nb, .int .i64 s.nn, .int .i64 s.ns, .slice Ab s.bs.length cb, .slice An s.ts.length cn] 25)) := ((Below.refl w.heap.size w).alloc (by first | (simp; done) | (simp; omega)) _)
  have B1 : Blk (w.alloc (.cells #[.int .i64 s.nb, .int .i64 s.nn, .int .i64 s.ns, .slice Ab s.bs.length cb, .slice An s.ts.length cn] 25)) w.heap.size 25 #[.int .i64 s.nb, .int .i64 s.nn, .int .i64 s.ns, .slice Ab s.bs.length cb, .slice An s.ts.length cn] := Blk.new_ w 25 #[.int .i64 s.nb, .int .i64 s.nn, .int .i64 s.ns, .slice Ab s.bs.length cb, .slice An s.ts.length cn]
  have S1 : ShR (w.alloc (.cells #[.int .i64 s.nb, .int .i64 s.nn, .int .i64 s.ns, .slice Ab s.bs.length cb, .slice An s.ts.length cn] 25)) ((w.alloc (.cells #[.int .i64 s.nb, .int .i64 s.nn, .int .i64 s.ns, .slice Ab s.bs.length cb, .slice An s.ts.length cn] 25))).heap.size (.agg #[.int .i64 s.nb, .int .i64 s.nn, .int .i64 s.ns, .slice Ab s.bs.length cb, .slice An s.ts.length cn]) s := hS0.next HB
  have T1 := hT.next HB
  have HM := Lib.hid hM
  have HQ := Lib.hid hq
  have HQL := Lib.hid hl
  clear hM hq hl hS0 hT hB hN
  go_enter Tryz.func12, Tryz.ntmps12
  go_wp2_with (first | (go_at_call 28; ((with_reducible refine (smay_any s _ _ S1 T1 _ HM.out).mono ?_); rintro e' w3 ⟨rfl, b3⟩; have S1 := S1.next b3; have B1 := B1.below b3 B1.lt; have HB := btr HB HB.size b3; (try clear k0 k1 k2 k3 k4); have k0 := B1.cell_ 0; have k1 := B1.cell_ 1; have k2 := B1.cell_ 2; have k3 := B1.cell_ 3; have k4 := B1.cell_ 4; simp at k0 k1 k2 k3 k4; clear b3)) | (go_at_call 35; ((with_reducible refine (read_any q _ _ HQ.out HQL.out).mono ?_); rintro e' w4 ⟨⟨v4, B4, rfl, -, hB4⟩, b4⟩; obtain rfl := hB4 rfl; have S1 := S1.next b4; have B1 := B1.below b4 B1.lt; have HB := btr HB HB.size b4; (try clear k0 k1 k2 k3 k4); have k0 := B1.cell_ 0; have k1 := B1.cell_ 1; have k2 := B1.cell_ 2; have k3 := B1.cell_ 3; have k4 := B1.cell_ 4; simp at k0 k1 k2 k3 k4; clear b4)))
  go_ret2
  exact ⟨rfl, HB⟩
theorem fk_keep {w W w1 w3 : World} {g0 b2 o2 I : Nat} {a0 a1 a2 a3 a4 a5 a6 : Value} (h : Below W.heap.size W w1 ∧ w1.cell? ⟨w.heap.size, 0, none⟩ = some a0 ∧ w1.cell? ⟨w.heap.size, 1, none⟩ = some a1 ∧ w1.cell? ⟨w.heap.size, 2, none⟩ = some a2 ∧ w1.cell? ⟨w.heap.size, 3, none⟩ = some a3 ∧ w1.cell? ⟨w.heap.size, 4, none⟩ = some a4 ∧ w1.cell? ⟨g0, 1, none⟩ = some a5 ∧ w1.cell? ⟨b2, o2 + I * 2 + 1, none⟩ = some a6) (h0 : w.heap.size < W.heap.size) (h1 : g0 < W.heap.size) (h2 : b2 < W.heap.size) (hb : Below w1.heap.size w1 w3) : Below W.heap.size W w3 ∧ w3.cell? ⟨w.heap.size, 0, none⟩ = some a0 ∧ w3.cell? ⟨w.heap.size, 1, none⟩ = some a1 ∧ w3.cell? ⟨w.heap.size, 2, none⟩ = some a2 ∧ w3.cell? ⟨w.heap.size, 3, none⟩ = some a3 ∧ w3.cell? ⟨w.heap.size, 4, none⟩ = some a4 ∧ w3.cell? ⟨g0, 1, none⟩ = some a5 ∧ w3.cell? ⟨b2, o2 + I * 2 + 1, none⟩ = some a6 := by
  obtain ⟨hB, c0, c1, c2, c3, c4, c5, c6⟩ := h
  have l := hB.size
  have x0 : w.heap.size < w1.heap.size := by omega
  have x1 : g0 < w1.heap.size := by omega
  have x2 : b2 < w1.heap.size := by omega
  exact ⟨btr hB l hb, (hb.cell (p := ⟨_, _, none⟩) x0).trans c0, (hb.cell (p := ⟨_, _, none⟩) x0).trans c1, (hb.cell (p := ⟨_, _, none⟩) x0).trans c2, (hb.cell (p := ⟨_, _, none⟩) x0).trans c3, (hb.cell (p := ⟨_, _, none⟩) x0).trans c4, (hb.cell (p := ⟨_, _, none⟩) x1).trans c5, (hb.cell (p := ⟨_, _, none⟩) x2).trans c6⟩
theorem fk_alloc {w W w1 : World} {g0 b2 o2 I : Nat} {a0 a1 a2 a3 a4 a5 a6 : Value} (h : Below W.heap.size W w1 ∧ w1.cell? ⟨w.heap.size, 0, none⟩ = some a0 ∧ w1.cell? ⟨w.heap.size, 1, none⟩ = some a1 ∧ w1.cell? ⟨w.heap.size, 2, none⟩ = some a2 ∧ w1.cell? ⟨w.heap.size, 3, none⟩ = some a3 ∧ w1.cell? ⟨w.heap.size, 4, none⟩ = some a4 ∧ w1.cell? ⟨g0, 1, none⟩ = some a5 ∧ w1.cell? ⟨b2, o2 + I * 2 + 1, none⟩ = some a6) (h0 : w.heap.size < W.heap.size) (h1 : g0 < W.heap.size) (h2 : b2 < W.heap.size) (o : Obj) : Below W.heap.size W (w1.alloc o) ∧ (w1.alloc o).cell? ⟨w.heap.size, 0, none⟩ = some a0 ∧ (w1.alloc o).cell? ⟨w.heap.size, 1, none⟩ = some a1 ∧ (w1.alloc o).cell? ⟨w.heap.size, 2, none⟩ = some a2 ∧ (w1.alloc o).cell? ⟨w.heap.size, 3, none⟩ = some a3 ∧ (w1.alloc o).cell? ⟨w.heap.size, 4, none⟩ = some a4 ∧ (w1.alloc o).cell? ⟨g0, 1, none⟩ = some a5 ∧ (w1.alloc o).cell? ⟨b2, o2 + I * 2 + 1, none⟩ = some a6 := fk_keep h h0 h1 h2 ((Below.refl _ w1).alloc (Nat.le_refl _) o)
theorem fk_set {w W w1 : World} {g0 b2 o2 I : Nat} {a0 a1 a2 a3 a4 a5 a6 : Value} (h : Below W.heap.size W w1 ∧ w1.cell? ⟨w.heap.size, 0, none⟩ = some a0 ∧ w1.cell? ⟨w.heap.size, 1, none⟩ = some a1 ∧ w1.cell? ⟨w.heap.size, 2, none⟩ = some a2 ∧ w1.cell? ⟨w.heap.size, 3, none⟩ = some a3 ∧ w1.cell? ⟨w.heap.size, 4, none⟩ = some a4 ∧ w1.cell? ⟨g0, 1, none⟩ = some a5 ∧ w1.cell? ⟨b2, o2 + I * 2 + 1, none⟩ = some a6) (h0 : w.heap.size < W.heap.size) (h1 : g0 < W.heap.size) (h2 : b2 < W.heap.size) (u : Value) : Below W.heap.size W (w1.setCell ⟨W.heap.size, 0, none⟩ u) ∧ (w1.setCell ⟨W.heap.size, 0, none⟩ u).cell? ⟨w.heap.size, 0, none⟩ = some a0 ∧ (w1.setCell ⟨W.heap.size, 0, none⟩ u).cell? ⟨w.heap.size, 1, none⟩ = some a1 ∧ (w1.setCell ⟨W.heap.size, 0, none⟩ u).cell? ⟨w.heap.size, 2, none⟩ = some a2 ∧ (w1.setCell ⟨W.heap.size, 0, none⟩ u).cell? ⟨w.heap.size, 3, none⟩ = some a3 ∧ (w1.setCell ⟨W.heap.size, 0, none⟩ u).cell? ⟨w.heap.size, 4, none⟩ = some a4 ∧ (w1.setCell ⟨W.heap.size, 0, none⟩ u).cell? ⟨g0, 1, none⟩ = some a5 ∧ (w1.setCell ⟨W.heap.size, 0, none⟩ u).cell? ⟨b2, o2 + I * 2 + 1, none⟩ = some a6 := by
  obtain ⟨hB, c0, c1, c2, c3, c4, c5, c6⟩ := h
  have hb : Below W.heap.size w1 (w1.setCell ⟨W.heap.size, 0, none⟩ u) := (Below.refl _ w1).setCell (p := ⟨W.heap.size, 0, none⟩) (by simp) u
  exact ⟨hB.trans hb, (hb.cell (p := ⟨_, _, none⟩) h0).trans c0, (hb.cell (p := ⟨_, _, none⟩) h0).trans c1, (hb.cell (p := ⟨_, _, none⟩) h0).trans c2, (hb.cell (p := ⟨_, _, none⟩) h0).trans c3, (hb.cell (p := ⟨_, _, none⟩) h0).trans c4, (hb.cell (p := ⟨_, _, none⟩) h1).trans c5, (hb.cell (p := ⟨_, _, none⟩) h2).trans c6⟩
theorem set_one {w : World} {g : Nat} {t : TypeId} {v : Value} (h : Blk w g t #[v]) (u : Value) : (w.setCell ⟨g, 0, none⟩ u).cell? ⟨g, 0, none⟩ = some u ∧ g < (w.setCell ⟨g, 0, none⟩ u).heap.size := by
  have h2 := h.set_ 0 u
  have h3 := h2.cell_ 0
  simp at h3
  exact ⟨h3, h2.lt⟩
theorem find_any (s : Sf) (v : Value) (q : List UInt8) (ts : List Trm) (w : World) (hS : ShR w w.heap.size v s) (hT : Tabs w) (hM : mayS s = true) (hq : readL q = some ts) (hl : q.length ≤ 100000) :
    Calls Tryz.prog 12 #[v, .string (bOf q)] w fun e' w' => ∃ (A : Option Addr) (c : Nat) (its : List It), e' = .returned (.tuple #[.slice A its.length c, .int .i64 0]) ∧ its.Perm (hitsL s ts) ∧ OrdF its ∧ w'.ownsRow w.heap.size 50 2 (.slice A its.length c) its.length (its.map itC).flatten ∧ Below w.heap.size w w' := by
  have hF := mayF_of hM
  have hS0 := hS
  obtain ⟨Ab, cb, An, cn, rfl, hB, hN, hcb, hmb, hcn, hmn⟩ := hS.ex
  clear hS
  obtain ⟨n, hn⟩ : ∃ n, s.ts.length = n := ⟨_, rfl⟩
  obtain ⟨bn, hbn⟩ : ∃ n, s.bs.length = n := ⟨_, rfl⟩
  have HB : Below w.heap.size w (w.alloc (.cells #[.int .i64 s.nb, .int .i64 s.nn, .int .i64 s.ns, .slice Ab s.bs.length cb, .slice An s.ts.length cn] 25)) := ((Below.refl w.heap.size w).alloc (by first | (simp; done) | (simp; omega)) _)
  have B1 : Blk (w.alloc (.cells #[.int .i64 s.nb, .int .i64 s.nn, .int .i64 s.ns, .slice Ab s.bs.length cb, .slice An s.ts.length cn] 25)) w.heap.size 25 #[.int .i64 s.nb, .int .i64 s.nn, .int .i64 s.ns, .slice Ab s.bs.length cb, .slice An s.ts.length cn] := Blk.new_ w 25 #[.int .i64 s.nb, .int .i64 s.nn, .int .i64 s.ns, .slice Ab s.bs.length cb, .slice An s.ts.length cn]
  have S1 : ShR (w.alloc (.cells #[.int .i64 s.nb, .int .i64 s.nn, .int .i64 s.ns, .slice Ab s.bs.length cb, .slice An s.ts.length cn] 25)) ((w.alloc (.cells #[.int .i64 s.nb, .int .i64 s.nn, .int .i64 s.ns, .slice Ab s.bs.length cb, .slice An s.ts.length cn] 25))).heap.size (.agg #[.int .i64 s.nb, .int .i64 s.nn, .int .i64 s.ns, .slice Ab s.bs.length cb, .slice An s.ts.length cn]) s := hS0.next HB
  have T1 := hT.next HB
  obtain ⟨es, hel, hse, hnt⟩ := hN.ex
  have hB0 := hB
  simp only [hn, hbn] at HB B1 S1 T1 hel ⊢
  have hn12 : n ≤ 12 := by have := hF.tl; omega
  have HEL := Lib.hid hel
  have HN := Lib.hid hn
  have HBN := Lib.hid hbn
  have HM := Lib.hid hM
  have HQ := Lib.hid hq
  have HQL := Lib.hid hl
  have HFF := Lib.hid hF
  have HL2 : Hid (ts.length ≤ 201) := Lib.hid (by
    have h1 := read_len hq
    by_cases h0 : q = []
    · subst h0
      cases hq
      exact Nat.zero_le _
    · rw [read_split h0 h1] at hq
      have h2 := trmsL_len _ _ hq
      have h3 := splitL_len q
      omega)
  clear hM hn hbn hS0 hT hel hB hF hq hl
  go_enter Tryz.func12, Tryz.ntmps12
  go_upto_region 6 with (first | (go_at_call 28; ((with_reducible refine (smay_any s _ _ S1 T1 _ HM.out).mono ?_); rintro e' w3 ⟨rfl, b3⟩; have S1 := S1.next b3; have B1 := B1.below b3 B1.lt; have HB := btr HB HB.size b3; (try clear k0 k1 k2 k3 k4); have k0 := B1.cell_ 0; have k1 := B1.cell_ 1; have k2 := B1.cell_ 2; have k3 := B1.cell_ 3; have k4 := B1.cell_ 4; simp at k0 k1 k2 k3 k4; clear b3)) | (go_at_call 35; ((with_reducible refine (read_any q _ _ HQ.out HQL.out).mono ?_); rintro e' w4 ⟨⟨v4, B4, rfl, hB4, -⟩, b4⟩; obtain ⟨rfl, hRT⟩ := hB4 _ rfl; have S1 := S1.next b4; have B1 := B1.below b4 B1.lt; have HB := btr HB HB.size b4; (try clear k0 k1 k2 k3 k4); have k0 := B1.cell_ 0; have k1 := B1.cell_ 1; have k2 := B1.cell_ 2; have k3 := B1.cell_ 3; have k4 := B1.cell_ 4; simp at k0 k1 k2 k3 k4; clear b4)))
  obtain ⟨A4, c4, rfl, hc4, hm4⟩ := own_shape hRT
  have hTM : SlE 3 w4 w4.heap.size A4 (ts.map trC) := sle_of_own (by rw [← List.flatMap_def]; exact hRT) (fun x hx => by obtain ⟨y, _, rfl⟩ := List.mem_map.1 hx; rfl) (by decide)
  obtain ⟨tl, htl⟩ : ∃ n, ts.length = n := ⟨_, rfl⟩
  have HTL := Lib.hid htl
  rw [htl] at hc4 ⊢
  clear hRT htl T1
  have hS4 := S1
  have HBQ := HB
  have B1q := B1
  clear HB B1 S1
  go_wp2_with fail
  go_loopw [8, 25] (fun sv i wr => ∃ k : Nat, k ≤ n ∧ i = .int .i64 k ∧ Hid (RowI wr w4.heap.size sv (((s.ts.take k).filter (hitB s ts)).map ntIt)) ∧ Below w4.heap.size w4 wr) (fun _ i _ => n - (intOf i).toNat)
  case atStart => exact ⟨0, by omega, rfl, Lib.hid (World.ownsRow_nil _ _ _ _), Below.refl _ _⟩
  case round =>
    obtain ⟨k, hk, rfl, HR, HBr⟩ := hrel
    have hw4 := HBQ.size
    have hwl := B1q.lt
    have hsz := HBr.size
    clear k0 k1 k2 k3 k4
    by_cases hlt : k < n
    · have hlx : k < s.ts.length := by have := HN.out; omega
      have i0 : (0 : Int) ≤ (k : Int) := by omega
      have i1 : (k : Int) < (n : Int) := by omega
      obtain ⟨y, hx⟩ : ∃ y, s.ts[k]? = some y := ⟨_, List.getElem?_eq_getElem hlx⟩
      have hmem : y ∈ s.ts := List.mem_of_getElem? hx
      obtain ⟨I, b, hI, hbI, hbn⟩ := HFF.out.bookIx hmem
      have hsm := HFF.out.note hmem
      obtain ⟨e0, he⟩ : ∃ e, es[k]? = some e := ⟨_, List.getElem?_eq_getElem (by have := HEL.out; omega)⟩
      obtain ⟨At, ct, As, cs, rfl, hnin⟩ := (hnt k y e0 hx he).ex
      obtain ⟨b1, o1, rfl, l1, q1⟩ := hse.at_ (by have := HEL.out; omega)
      have hIl : I < bn := by have := (List.getElem?_eq_some_iff.1 hbI).1; have := HBN.out; omega
      obtain ⟨b2, o2, rfl, l2, q2⟩ := SlE.at_ hB0 (by rw [List.length_map]; have := HBN.out; omega)
      have hbe : (s.bs.map bkC)[I]? = some (bkC b) := by rw [List.getElem?_map, hbI]; rfl
      have HBw := btr HBQ HBQ.size HBr
      have y0 : wr.cell? ⟨b1, o1 + k * 5 + 0, none⟩ = some (.int .i64 y.id) := (HBw.cell (p := ⟨b1, _, none⟩) l1).trans (q1 k _ he 0 _ rfl)
      have y1 : wr.cell? ⟨b1, o1 + k * 5 + 1, none⟩ = some (.int .i64 y.bk) := (HBw.cell (p := ⟨b1, _, none⟩) l1).trans (q1 k _ he 1 _ rfl)
      have y2 : wr.cell? ⟨b1, o1 + k * 5 + 2, none⟩ = some (.string y.nm) := (HBw.cell (p := ⟨b1, _, none⟩) l1).trans (q1 k _ he 2 _ rfl)
      have y3 : wr.cell? ⟨b1, o1 + k * 5 + 3, none⟩ = some (.slice At y.tg.length ct) := (HBw.cell (p := ⟨b1, _, none⟩) l1).trans (q1 k _ he 3 _ rfl)
      have y4 : wr.cell? ⟨b1, o1 + k * 5 + 4, none⟩ = some (.slice As y.sh.length cs) := (HBw.cell (p := ⟨b1, _, none⟩) l1).trans (q1 k _ he 4 _ rfl)
      simp only [Nat.add_zero] at y0
      have z1 : wr.cell? ⟨b2, o2 + I * 2 + 1, none⟩ = some (.string b.nm) := (HBw.cell (p := ⟨b2, _, none⟩) l2).trans (q2 I _ hbe 1 _ rfl)
      have HX := Lib.hid hx
      have hNI : NtIn w w.heap.size y [.int .i64 y.id, .int .i64 y.bk, .string y.nm, .slice At y.tg.length ct, .slice As y.sh.length cs] := hnt k y _ hx he
      obtain ⟨bkn, hbk⟩ : ∃ B, b.nm = B := ⟨_, rfl⟩
      rw [hbk] at z1
      have HBK : Hid (bkNm s y.bk = bkn) := Lib.hid (hbn.trans hbk)
      have HI := Lib.hid hI
      have HS1 : Hid (∀ w_, Below (wr.alloc (.cells #[.int .i64 y.id, .int .i64 y.bk, .string y.nm, .slice At y.tg.length ct, .slice As y.sh.length cs] 54)).heap.size (wr.alloc (.cells #[.int .i64 y.id, .int .i64 y.bk, .string y.nm, .slice At y.tg.length ct, .slice As y.sh.length cs] 54)) w_ → ShR w_ w_.heap.size (.agg #[.int .i64 s.nb, .int .i64 s.nn, .int .i64 s.ns, .slice (some ⟨b2, o2, none⟩) bn cb, .slice (some ⟨b1, o1, none⟩) n cn]) s) := Lib.hid (fun w_ h => ((hS4.next HBr).next ((Below.refl _ wr).alloc (Nat.le_refl _) _)).next h)
      have HNI : Hid (NtIn (wr.alloc (.cells #[.int .i64 y.id, .int .i64 y.bk, .string y.nm, .slice At y.tg.length ct, .slice As y.sh.length cs] 54)) (wr.alloc (.cells #[.int .i64 y.id, .int .i64 y.bk, .string y.nm, .slice At y.tg.length ct, .slice As y.sh.length cs] 54)).heap.size y [.int .i64 y.id, .int .i64 y.bk, .string y.nm, .slice At y.tg.length ct, .slice As y.sh.length cs]) := Lib.hid ((hNI.below (btr HBw HBw.size ((Below.refl _ wr).alloc (Nat.le_refl _) (.cells #[.int .i64 y.id, .int .i64 y.bk, .string y.nm, .slice At y.tg.length ct, .slice As y.sh.length cs] 54)))).mono (btr HBw HBw.size ((Below.refl _ wr).alloc (Nat.le_refl _) (.cells #[.int .i64 y.id, .int .i64 y.bk, .string y.nm, .slice At y.tg.length ct, .slice As y.sh.length cs] 54))).size)
      have HTM : Hid (∀ w_, Below (wr.alloc (.cells #[.int .i64 y.id, .int .i64 y.bk, .string y.nm, .slice At y.tg.length ct, .slice As y.sh.length cs] 54)).heap.size (wr.alloc (.cells #[.int .i64 y.id, .int .i64 y.bk, .string y.nm, .slice At y.tg.length ct, .slice As y.sh.length cs] 54)) w_ → SlE 3 w_ w_.heap.size A4 (ts.map trC)) := Lib.hid (fun w_ h => ((SlE.next hTM HBr).next ((Below.refl _ wr).alloc (Nat.le_refl _) _)).next h)
      have HSM := Lib.hid hsm
      have j0 : (0 : Int) ≤ (I : Int) := by omega
      have j1 : (I : Int) < (bn : Int) := by omega
      obtain ⟨yt, hyt⟩ : ∃ n, y.tg.length = n := ⟨_, rfl⟩
      obtain ⟨ys, hys⟩ : ∃ n, y.sh.length = n := ⟨_, rfl⟩
      have HYT := Lib.hid (And.intro hyt hys)
      simp only [hyt, hys] at y3 y4 HS1 HNI HTM
      clear hx he q1 q2 hI hbI hbn hbk hbe hmem hsm hnin hNI hIl hyt hys
      go_upto_region 10 with fail
      have hal : Below wr.heap.size wr (wr.alloc (.cells #[.int .i64 y.id, .int .i64 y.bk, .string y.nm, .slice At yt ct, .slice As ys cs] 54)) := (Below.refl _ wr).alloc (Nat.le_refl _) _
      have BN : Blk (wr.alloc (.cells #[.int .i64 y.id, .int .i64 y.bk, .string y.nm, .slice At yt ct, .slice As ys cs] 54)) wr.heap.size 54 #[.int .i64 y.id, .int .i64 y.bk, .string y.nm, .slice At yt ct, .slice As ys cs] := Blk.new_ wr 54 #[.int .i64 y.id, .int .i64 y.bk, .string y.nm, .slice At yt ct, .slice As ys cs]
      have B1v := B1q.below (HBr.trans (hal.mono HBr.size)) B1q.lt
      have HRw : Hid (RowI (wr.alloc (.cells #[.int .i64 y.id, .int .i64 y.bk, .string y.nm, .slice At yt ct, .slice As ys cs] 54)) w4.heap.size _ (((s.ts.take k).filter (hitB s ts)).map ntIt)) := Lib.hid (HR.out.alloc _)
      have z1 := (hal.cell (p := ⟨b2, _, none⟩) (by show b2 < wr.heap.size; have := HBw.size; omega)).trans z1
      have HBr := HBr.trans (hal.mono HBr.size)
      clear y0 y1 y2 y3 y4 HR HBw
      obtain ⟨W, hW⟩ : ∃ W, W = wr.alloc (.cells #[.int .i64 y.id, .int .i64 y.bk, .string y.nm, .slice At yt ct, .slice As ys cs] 54) := ⟨_, rfl⟩
      have hg0 : wr.heap.size < W.heap.size := by rw [hW]; simp
      have hb2 : b2 < W.heap.size := by rw [hW]; simp; omega
      simp only [← hW] at BN B1v HRw HBr HS1 HNI HTM z1 ⊢
      have hw0 : w.heap.size < W.heap.size := B1v.lt
      clear hW hal
      obtain ⟨g0, hg⟩ : ∃ g, wr.heap.size = g := ⟨_, rfl⟩
      rw [hg] at BN hg0 ⊢
      clear hg hsz hwl
      have k0 := B1v.cell_ 0
      have k1 := B1v.cell_ 1
      have k2 := B1v.cell_ 2
      have k3 := B1v.cell_ 3
      have k4 := B1v.cell_ 4
      have e1 := BN.cell_ 1
      simp at k0 k1 k2 k3 k4 e1
      go_cut [11] (fun v wx => ∃ gb, v = .pointer (some ⟨gb, 0, none⟩) ∧ wx.cell? ⟨gb, 0, none⟩ = some (.string bkn) ∧ gb < wx.heap.size ∧ Below W.heap.size W wx)
      case first =>
        have QD : (Below W.heap.size W W.drew ∧ W.drew.cell? ⟨w.heap.size, 0, none⟩ = some (.int .i64 s.nb) ∧ W.drew.cell? ⟨w.heap.size, 1, none⟩ = some (.int .i64 s.nn) ∧ W.drew.cell? ⟨w.heap.size, 2, none⟩ = some (.int .i64 s.ns) ∧ W.drew.cell? ⟨w.heap.size, 3, none⟩ = some (.slice (some ⟨b2, o2, none⟩) bn cb) ∧ W.drew.cell? ⟨w.heap.size, 4, none⟩ = some (.slice (some ⟨b1, o1, none⟩) n cn) ∧ W.drew.cell? ⟨g0, 1, none⟩ = some (.int .i64 y.bk) ∧ W.drew.cell? ⟨b2, o2 + I * 2 + 1, none⟩ = some (.string bkn)) := ⟨drew_below (Below.refl _ W), k0, k1, k2, k3, k4, e1, z1⟩
        refine wp_region_noPanic ?_
        refine wp_region_held_drew (S := (fun w_ => Below W.heap.size W w_ ∧ w_.cell? ⟨w.heap.size, 0, none⟩ = some (.int .i64 s.nb) ∧ w_.cell? ⟨w.heap.size, 1, none⟩ = some (.int .i64 s.nn) ∧ w_.cell? ⟨w.heap.size, 2, none⟩ = some (.int .i64 s.ns) ∧ w_.cell? ⟨w.heap.size, 3, none⟩ = some (.slice (some ⟨b2, o2, none⟩) bn cb) ∧ w_.cell? ⟨w.heap.size, 4, none⟩ = some (.slice (some ⟨b1, o1, none⟩) n cn) ∧ w_.cell? ⟨g0, 1, none⟩ = some (.int .i64 y.bk) ∧ w_.cell? ⟨b2, o2 + I * 2 + 1, none⟩ = some (.string bkn))) (by kernel_rfl) ?_ (fun hHeld => ?_)
        · (first | with_reducible exact QD | with_reducible exact hNext | exact fk_alloc hHeld hw0 hg0 hb2 _ | exact fk_alloc hNext hw0 hg0 hb2 _ | exact fk_set hNext hw0 hg0 hb2 _ | assumption)
        refine tk 0 ?_; try simp only [Act.put, pz1, pz2, pz3]
        refine tk 1 ?_; try simp only [Act.put, pz1, pz2, pz3]
        refine tk 2 ?_; try simp only [Act.put, pz1, pz2, pz3]
        refine tk 3 ?_; try simp only [Act.put, pz1, pz2, pz3]
        refine tk 4 ?_; try simp only [Act.put, pz1, pz2, pz3]
        refine wpAnyH_ready (rs := [5, 9]) (by kernel_rfl) (by simp) ?_
        refine (AllReadyH.cons (o := ⟨some 34, .call { callee := .value (.func 36), args := #[.tmp 31, .tmp 33], argTypes := #[25, 3] }, 3, "seek.go:124", #[⟨2, .data⟩, ⟨4, .data⟩], none⟩) rfl (fun K hK => ?_) (AllReadyH.cons (o := ⟨some 11, .alloc 9, 0, "seek.go:124", #[], none⟩) rfl (fun K hK => ?_) AllReadyH.nil))
        · go_simp
          (go_at_call 36; ((with_reducible refine (pBook_any s _ y.bk _ (HS1.out _ hHeld.1)).mono ?_); rintro e' w3 ⟨rfl, hb3⟩; rw [HI.out]; have hNext := fk_keep hHeld hw0 hg0 hb2 hb3; (try (have BZ := (Blk.new_ W 9 #[.string ByteArray.empty]).below hb3 (by simp); have cz := BZ.cell_ 0; have fz := BZ.free 0; simp at cz)); (try (have BZ := (drew_blk (Blk.new_ W 9 #[.string ByteArray.empty])).below hb3 (by simp); have cz := BZ.cell_ 0; have fz := BZ.free 0; simp at cz))))
          go_wp2_with fail
          refine hK.out _ _ ?_ (fun hNew => ?_)
          · (first | with_reducible exact QD | with_reducible exact hNext | exact fk_alloc hHeld hw0 hg0 hb2 _ | exact fk_alloc hNext hw0 hg0 hb2 _ | exact fk_set hNext hw0 hg0 hb2 _ | assumption)
          clear hK K hHeld
          have hHeld := hNew
          clear hNew
          try simp only [Act.put, pz1, pz2, pz3]
          refine tk 6 ?_; try simp only [Act.put, pz1, pz2, pz3]
          refine tk 7 ?_; try simp only [Act.put, pz1, pz2, pz3]
          refine tk 8 ?_; try simp only [Act.put, pz1, pz2, pz3]
          refine wpAnyH_ready (rs := [9]) (by kernel_rfl) (by simp) ?_
          refine AllReadyH.cons (o := ⟨some 11, .alloc 9, 0, "seek.go:124", #[], none⟩) rfl (fun K hK => ?_) AllReadyH.nil
          go_simp
          refine hK.out _ _ ?_ (fun hNew => ?_)
          · (first | with_reducible exact QD | with_reducible exact hNext | exact fk_alloc hHeld hw0 hg0 hb2 _ | exact fk_alloc hNext hw0 hg0 hb2 _ | exact fk_set hNext hw0 hg0 hb2 _ | assumption)
          clear hK K hHeld
          have hHeld := hNew
          clear hNew
          try simp only [Act.put, pz1, pz2, pz3]
          refine wpAnyH_ready (rs := [10]) (by kernel_rfl) (by simp) ?_
          refine AllReadyH.cons (o := ⟨none, .store 9 (.tmp 11) (.tmp 37), 0, "seek.go:124", #[⟨9, .data⟩, ⟨8, .data⟩, ⟨5, .chain⟩, ⟨0, .phase⟩, ⟨1, .phase⟩, ⟨2, .phase⟩, ⟨3, .phase⟩, ⟨4, .phase⟩, ⟨5, .phase⟩, ⟨6, .phase⟩, ⟨7, .phase⟩, ⟨8, .phase⟩, ⟨9, .phase⟩], none⟩) rfl (fun K hK => ?_) AllReadyH.nil
          go_simp
          refine hK.out _ _ ?_ (fun hNew => ?_)
          · (first | with_reducible exact QD | with_reducible exact hNext | exact fk_alloc hHeld hw0 hg0 hb2 _ | exact fk_alloc hNext hw0 hg0 hb2 _ | exact fk_set hNext hw0 hg0 hb2 _ | assumption)
          clear hK K hHeld
          have hHeld := hNew
          clear hNew
          try simp only [Act.put, pz1, pz2, pz3]
          refine wpAnyH_done (by kernel_rfl) ?_ _
          refine NoPanic.normal ?_
          go_wp2_with fail
          go_meet
          (first | exact ⟨_, rfl, one_cell _ _ _, by simp, hHeld.1⟩ | exact ⟨_, rfl, drew_cell (one_cell _ _ _), by simp, hHeld.1⟩ | exact ⟨_, rfl, drew_cell (set_one BZ _).1, (set_one BZ _).2, hHeld.1⟩ | exact ⟨_, rfl, (set_one BZ _).1, (set_one BZ _).2, hHeld.1⟩)
        · go_simp
          refine hK.out _ _ ?_ (fun hNew => ?_)
          · (first | with_reducible exact QD | with_reducible exact hNext | exact fk_alloc hHeld hw0 hg0 hb2 _ | exact fk_alloc hNext hw0 hg0 hb2 _ | exact fk_set hNext hw0 hg0 hb2 _ | assumption)
          clear hK K hHeld
          have hHeld := hNew
          clear hNew
          try simp only [Act.put, pz1, pz2, pz3]
          refine wpAnyH_ready (rs := [5]) (by kernel_rfl) (by simp) ?_
          refine AllReadyH.cons (o := ⟨some 34, .call { callee := .value (.func 36), args := #[.tmp 31, .tmp 33], argTypes := #[25, 3] }, 3, "seek.go:124", #[⟨2, .data⟩, ⟨4, .data⟩], none⟩) rfl (fun K hK => ?_) AllReadyH.nil
          go_simp
          (go_at_call 36; ((with_reducible refine (pBook_any s _ y.bk _ (HS1.out _ hHeld.1)).mono ?_); rintro e' w3 ⟨rfl, hb3⟩; rw [HI.out]; have hNext := fk_keep hHeld hw0 hg0 hb2 hb3; (try (have BZ := (Blk.new_ W 9 #[.string ByteArray.empty]).below hb3 (by simp); have cz := BZ.cell_ 0; have fz := BZ.free 0; simp at cz)); (try (have BZ := (drew_blk (Blk.new_ W 9 #[.string ByteArray.empty])).below hb3 (by simp); have cz := BZ.cell_ 0; have fz := BZ.free 0; simp at cz))))
          go_wp2_with fail
          refine hK.out _ _ ?_ (fun hNew => ?_)
          · (first | with_reducible exact QD | with_reducible exact hNext | exact fk_alloc hHeld hw0 hg0 hb2 _ | exact fk_alloc hNext hw0 hg0 hb2 _ | exact fk_set hNext hw0 hg0 hb2 _ | assumption)
          clear hK K hHeld
          have hHeld := hNew
          clear hNew
          try simp only [Act.put, pz1, pz2, pz3]
          refine tk 6 ?_; try simp only [Act.put, pz1, pz2, pz3]
          refine tk 7 ?_; try simp only [Act.put, pz1, pz2, pz3]
          refine tk 8 ?_; try simp only [Act.put, pz1, pz2, pz3]
          refine wpAnyH_ready (rs := [10]) (by kernel_rfl) (by simp) ?_
          refine AllReadyH.cons (o := ⟨none, .store 9 (.tmp 11) (.tmp 37), 0, "seek.go:124", #[⟨9, .data⟩, ⟨8, .data⟩, ⟨5, .chain⟩, ⟨0, .phase⟩, ⟨1, .phase⟩, ⟨2, .phase⟩, ⟨3, .phase⟩, ⟨4, .phase⟩, ⟨5, .phase⟩, ⟨6, .phase⟩, ⟨7, .phase⟩, ⟨8, .phase⟩, ⟨9, .phase⟩], none⟩) rfl (fun K hK => ?_) AllReadyH.nil
          go_simp
          refine hK.out _ _ ?_ (fun hNew => ?_)
          · (first | with_reducible exact QD | with_reducible exact hNext | exact fk_alloc hHeld hw0 hg0 hb2 _ | exact fk_alloc hNext hw0 hg0 hb2 _ | exact fk_set hNext hw0 hg0 hb2 _ | assumption)
          clear hK K hHeld
          have hHeld := hNew
          clear hNew
          try simp only [Act.put, pz1, pz2, pz3]
          refine wpAnyH_done (by kernel_rfl) ?_ _
          refine NoPanic.normal ?_
          go_wp2_with fail
          go_meet
          (first | exact ⟨_, rfl, one_cell _ _ _, by simp, hHeld.1⟩ | exact ⟨_, rfl, drew_cell (one_cell _ _ _), by simp, hHeld.1⟩ | exact ⟨_, rfl, drew_cell (set_one BZ _).1, (set_one BZ _).2, hHeld.1⟩ | exact ⟨_, rfl, (set_one BZ _).1, (set_one BZ _).2, hHeld.1⟩)
      case rest =>
        obtain ⟨gb, rfl, c1, l1, hbX⟩ := hcut
        obtain ⟨T, hT⟩ : ∃ T, (ts.any fun t => !soB t y bkn) = T := ⟨_, rfl⟩
        have HIT : Hid (hitB s ts y = !T) := Lib.hid (by unfold hitB; rw [HBK.out, hT])
        have BNx : Blk wc g0 54 #[.int .i64 y.id, .int .i64 y.bk, .string y.nm, .slice At y.tg.length ct, .slice As y.sh.length cs] := by rw [HYT.out.1, HYT.out.2]; exact BN.below hbX BN.lt
        have hct := ct_term ts A4 c4 y At As ct cs bkn g0 gb wc (HTM.out _ hbX) (by rw [HTL.out]; exact hc4) hm4 (by rw [HYT.out.1, HYT.out.2]; exact NtIn.mono (NtIn.below HNI.out hbX) hbX.size) BNx c1 l1 (by have := HSM.out.1; omega) (by have := HSM.out.2; omega) T hT
        rw [HTL.out] at hct
        have hon0 := own_belowW HRw.out hbX
        have HBx := btr HBr HBr.size hbX
        obtain ⟨L, hL⟩ : ∃ L, ((s.ts.take k).filter (hitB s ts)).map ntIt = L := ⟨_, rfl⟩
        have hL6 : L.length ≤ 12 := by
          rw [← hL, List.length_map]
          have h1 := List.length_filter_le (hitB s ts) (s.ts.take k)
          rw [List.length_take] at h1
          omega
        rw [hL] at hon0
        have HL := Lib.hid hL
        have HCT := Lib.hid hct
        have hw4x := HBx.size
        have hid := Lib.hid (And.intro hm4 hc4)
        clear hT hL hct HRw HS1 HNI HTM hbX c1 BN HBr k0 k1 k2 k3 k4 e1 z1 hc4 hm4
        cases T
        · have HLN : Hid (((s.ts.take (k + 1)).filter (hitB s ts)).map ntIt = L ++ [ntIt y]) := Lib.hid (by rw [filter_yes HX.out HIT.out, List.map_append, HL.out]; rfl)
          go_upto_region 12 with (go_at_call 37; ((with_reducible refine HCT.out.mono ?_); rintro e' w5 ⟨rfl, hb5⟩; clear HCT))
          have B5 := BNx.below hb5 BNx.lt
          obtain ⟨x0, x1, x2, x3, x4⟩ := cell5 B5
          have hon : w5.ownsRow w4.heap.size 50 2 _ L.length (L.flatMap itC) := own_belowW hon0 hb5
          have HB5 := btr HBx HBx.size hb5
          have hw45 := HB5.size
          clear hb5 HBx hon0 BNx x1 x3 x4 B5
          go_wp2_with (at_builtin; obtain ⟨ti0, hi, hz0, hz1, hz2⟩ := info_parts infoIt; refine wpList_app _ rfl (.tmp 42) (.tmp 48) _ rfl w4.heap.size 50 ti0 _ 2 24 Tryz.underlying29 hi hz0 hz1 hz2 rfl (by decide) _ L.length (L.flatMap itC) rfl (hon.alloc _) _ 1 _ (itC (ntIt y)) rfl (rd_newI _ (ntIt y) (by simp)) (one1I _) (by unfold maxLen; omega) (by omega) (by simp; omega) ?_; intro v' w' ho' hg' hv'; clear hi hz0 hz1 hz2)
          have HF : Below w4.heap.size w4 w' := (HB5.alloc HB5.size _).trans (below_app (by omega) (by simp; omega) (hon.alloc _) hg')
          have HR2 : Hid (RowI w' w4.heap.size v' (((s.ts.take (k + 1)).filter (hitB s ts)).map ntIt)) := Lib.hid (by rw [HLN.out]; exact RowI.snoc ho')
          clear ho' hg' hv' hon x0 x2
          go_roundw
          case rel => exact ⟨k + 1, by omega, by go_num, HR2, HF⟩
          case measure => simp [intOf]; omega
        · have HLN : Hid (((s.ts.take (k + 1)).filter (hitB s ts)).map ntIt = L) := Lib.hid (by rw [filter_no HX.out HIT.out, HL.out])
          go_wp2_with (go_at_call 37; ((with_reducible refine HCT.out.mono ?_); rintro e' w5 ⟨rfl, hb5⟩; clear HCT))
          have HR2 : Hid (RowI w5 w4.heap.size _ (((s.ts.take (k + 1)).filter (hitB s ts)).map ntIt)) := Lib.hid (by rw [HLN.out]; exact own_belowW hon0 hb5)
          have HF := btr HBx HBx.size hb5
          clear hb5 HBx hon0 BNx
          go_roundw
          case rel => exact ⟨k + 1, by omega, by go_num, HR2, HF⟩
          case measure => simp [intOf]; omega
    · have hjn : k = n := by omega
      subst hjn
      rw [List.take_of_length_le (by rw [HN.out]; exact Nat.le_refl _)] at HR
      have hfl : (hitsL s ts).length ≤ 12 := by
        unfold hitsL
        rw [List.length_map]
        have h1 := List.length_filter_le (hitB s ts) s.ts
        have := HN.out
        omega
      have HRo := HR.out
      unfold RowI at HRo
      rw [flat_mapI, show (s.ts.filter (hitB s ts)).map ntIt = hitsL s ts from rfl] at HRo
      obtain ⟨A5, c5, rfl, hc5, hm5⟩ := own_shape HRo
      have hso := sortF_own (hitsL s ts) _ _ wr HRo (by omega)
      obtain ⟨hl, hhl⟩ : ∃ n, (hitsL s ts).length = n := ⟨_, rfl⟩
      rw [hhl] at hso ⊢
      have HHL := Lib.hid hhl
      have HSO := Lib.hid hso
      clear hlt hfl hso hhl HRo HR hc5 hm5
      go_wp2_with (go_at_call 40; ((with_reducible refine HSO.out.mono ?_); rintro e' w5 ⟨rfl, its, p1, p2, p3, p4⟩; clear HSO))
      go_ret2
      have hle : its.length = hl := p1.length_eq.trans HHL.out
      rw [hle] at p3
      exact ⟨A5, c5, its, (by rw [hle]; rfl), p1, p2, by rw [hle]; exact own_base p3 hw4, (HBQ.trans (HBr.mono hw4)).trans (p4.mono hw4)⟩
end Go.Proofs.YteokeghenjobaaaGreatDoor
namespace Go.Proofs.YteokeghenjobaaaGreatDoor
open Go.ChangeShapes Go.WideShapes Go.ChangeAt Go.RowKit
attribute [local go_sem ↓] Go.wp_at_zero Go.wp_at_succ
attribute [local go_sem] Oper.semAt_some
def mayQ (q : List UInt8) : Bool := (readL q).isSome
theorem mayq_any (q : List UInt8) (w : World) (hl : q.length ≤ 100000) (T : Bool) (hT : mayQ q = T) :
    Calls Tryz.prog 23 #[.string (bOf q)] w fun e' w' => e' = .returned (.bool T) ∧ Below w.heap.size w w' := by
  have HQL := Lib.hid hl
  have HT := Lib.hid hT
  clear hl hT
  go_enter Tryz.func23, Tryz.ntmps23
  go_wp2_with (go_at_call 35; ((with_reducible refine (read_any q _ _ rfl HQL.out).mono ?_); rintro e' w4 ⟨⟨v4, B4, rfl, hy, hn⟩, b4⟩; have HB4 : Hid (B4 = T) := Lib.hid (by rw [← HT.out]; unfold mayQ; cases hr : readL q with | none => exact hn hr | some ts => exact (hy ts hr).1); clear hy hn))
  go_ret
  exact ⟨by rw [← HB4.out]; rfl, b4⟩
theorem comN_next {a b : List ByteArray} {k : Nat} {x : ByteArray} (h : a[k]? = some x) : comN (a.take (k + 1)) b = comN (a.take k) b + (if hasB b x then 1 else 0) := by
  unfold comN
  rw [List.take_add_one, h, List.filter_append, List.length_append]
  cases hb : hasB b x <;> simp [hb]
theorem common_any (a b : List ByteArray) (A Bq : Option Addr) (c d : Nat) (w : World) (ha : Sl w w.heap.size A (a.map strV)) (hb : Sl w w.heap.size Bq (b.map strV)) (l1 : a.length ≤ 100000) (l2 : b.length ≤ 100000) :
    Calls Tryz.prog 49 #[.slice A a.length c, .slice Bq b.length d] w fun e' w' => e' = .returned (.int .i64 (comN a b : Int)) ∧ w' = w := by
  have hcon := fun x => contains_any Bq d b x w.heap.size w hb (by omega)
  obtain ⟨n, hn⟩ : ∃ n, a.length = n := ⟨_, rfl⟩
  obtain ⟨m, hm⟩ : ∃ n, b.length = n := ⟨_, rfl⟩
  rw [hm] at hcon
  rw [hn] at l1
  rw [hn, hm]
  have HN := Lib.hid hn
  have HCN := Lib.hid hcon
  have hz : (0 : Int) ≤ (n : Int) := by omega
  have H0 : Hid (comN (a.take 0) b = 0) := Lib.hid rfl
  clear hn hm hcon hb l2
  go_enter Tryz.func49, Tryz.ntmps49
  go_wp2_with fail
  go_loop [5, 10] (fun sc i => ∃ k c : Nat, k ≤ n ∧ i = .int .i64 k ∧ sc = .int .i64 c ∧ c ≤ k ∧ Hid (comN (a.take k) b = c)) (fun _ i => n - (intOf i).toNat)
  case atStart => exact ⟨0, 0, by omega, rfl, rfl, by omega, H0⟩
  case round =>
    obtain ⟨k, c, hk, rfl, rfl, hck, HK⟩ := hrel
    clear H0
    by_cases hlt : k < n
    · have hlx : k < a.length := by have := HN.out; omega
      obtain ⟨b1, o1, rfl, l1, q1⟩ := ha.at_ (by rw [List.length_map]; omega)
      obtain ⟨x, hx⟩ : ∃ x, a[k]? = some x := ⟨_, List.getElem?_eq_getElem hlx⟩
      have cx : w.cell? ⟨b1, o1 + k, none⟩ = some (.string x) := q1 k _ (by rw [List.getElem?_map, hx]; rfl)
      have i0 : (0 : Int) ≤ (k : Int) := by omega
      have i1 : (k : Int) < (n : Int) := by omega
      have HX := Lib.hid hx
      clear q1 hx hlx
      obtain ⟨B, hB⟩ : ∃ B, hasB b x = B := ⟨_, rfl⟩
      have HB := Lib.hid hB
      clear hB
      cases B
      · go_wp2_with (go_at_call 86; ((with_reducible refine (HCN.out x).mono ?_); rintro e' w' ⟨rfl, rfl⟩; rw [HB.out]))
        go_round
        case rel => exact ⟨k + 1, c, by omega, by go_num, by first | rfl | go_num, by omega, Lib.hid (by rw [comN_next HX.out, HB.out, HK.out]; rfl)⟩
        case measure => simp [intOf]; omega
      · go_wp2_with (go_at_call 86; ((with_reducible refine (HCN.out x).mono ?_); rintro e' w' ⟨rfl, rfl⟩; rw [HB.out]))
        go_round
        case rel => exact ⟨k + 1, c + 1, by omega, by go_num, by go_num, by omega, Lib.hid (by rw [comN_next HX.out, HB.out, HK.out]; rfl)⟩
        case measure => simp [intOf]; omega
    · have hjn : k = n := by omega
      subst hjn
      clear hlt
      go_wp2_with fail
      go_ret
      refine ⟨?_, by first | rfl | trivial⟩
      have := HK.out
      rw [List.take_of_length_le (by rw [HN.out]; exact Nat.le_refl _)] at this
      rw [this]
      rfl
def amgB (l : List ByteArray) (x : ByteArray) : Bool := l.any fun y => sameS y x
def inB (l : List It) (x : It) : Bool := l.any fun y => y.id == x.id && sameS y.nm x.nm
end Go.Proofs.YteokeghenjobaaaGreatDoor
namespace Go.Proofs.YteokeghenjobaaaGreatDoor
open Go.ChangeShapes Go.WideShapes Go.ChangeAt Go.RowKit
attribute [local go_sem ↓] Go.wp_at_zero Go.wp_at_succ
theorem sameItems_yes (L : List It) (A B : Option Addr) (n c d : Nat) (w : World) (hn : L.length = n) (n1 : n ≤ 1000000) (h1 : SlE 2 w w.heap.size A (L.map itC)) (h2 : SlE 2 w w.heap.size B (L.map itC)) : Calls Tryz.prog 18 #[.slice A n c, .slice B n d] w fun e' w' => e' = .returned (.bool true) ∧ Below w.heap.size w w' := by
  have HN := Lib.hid hn
  have H1 := Lib.hid h1
  have H2 := Lib.hid h2
  clear hn h1 h2
  go_enter Tryz.func18, Tryz.ntmps18
  go_wp2_with fail
  go_loopw [5] (fun s5 wr => ∃ k : Nat, k ≤ n ∧ s5 = .int .i64 (k : Int) ∧ Below w.heap.size w wr) (fun s5 _ => n - (intOf s5).toNat)
  case atStart => exact ⟨0, Nat.zero_le _, rfl, Below.refl _ _⟩
  case round =>
    obtain ⟨k, hk, rfl, hB⟩ := hrel
    by_cases hlt : k < n
    · have hlx : k < L.length := by have := HN.out; omega
      obtain ⟨b1, o1, rfl, l1, q1⟩ := (SlE.below H1.out hB).at_ (by rw [List.length_map]; omega)
      obtain ⟨b2, o2, rfl, l2, q2⟩ := (SlE.below H2.out hB).at_ (by rw [List.length_map]; omega)
      obtain ⟨x, hx⟩ : ∃ x, L[k]? = some x := ⟨_, List.getElem?_eq_getElem hlx⟩
      have he : (L.map itC)[k]? = some (itC x) := by rw [List.getElem?_map, hx]; rfl
      have x0 := q1 k _ he 0 _ rfl
      have x1 := q1 k _ he 1 _ rfl
      have y0 := q2 k _ he 0 _ rfl
      have y1 := q2 k _ he 1 _ rfl
      simp only [Nat.add_zero] at x0 y0
      have k0 : (0 : Int) ≤ (k : Int) := by omega
      have k1 : (k : Int) < (n : Int) := by omega
      clear hx he q1 q2 hlx
      go_upto_region 6 with fail
      refine wp_region_noPanic ?_
      refine wp_region_held_drew (S := (fun w_ => w_.cell? ⟨b1, o1 + k * 2, none⟩ = some (.int .i64 x.id) ∧ w_.cell? ⟨b1, o1 + k * 2 + 1, none⟩ = some (.string x.nm) ∧ w_.cell? ⟨b2, o2 + k * 2, none⟩ = some (.int .i64 x.id) ∧ w_.cell? ⟨b2, o2 + k * 2 + 1, none⟩ = some (.string x.nm))) (by kernel_rfl) ?_ (fun hHeld => ?_)
      · (first | exact ⟨x0, x1, y0, y1⟩ | assumption)
      refine tk 0 ?_; try simp only [Act.put, pz1, pz2, pz3]
      refine tk 1 ?_; try simp only [Act.put, pz1, pz2, pz3]
      refine tk 2 ?_; try simp only [Act.put, pz1, pz2, pz3]
      refine tk 3 ?_; try simp only [Act.put, pz1, pz2, pz3]
      refine tk 4 ?_; try simp only [Act.put, pz1, pz2, pz3]
      refine tk 5 ?_; try simp only [Act.put, pz1, pz2, pz3]
      refine tk 6 ?_; try simp only [Act.put, pz1, pz2, pz3]
      refine tk 7 ?_; try simp only [Act.put, pz1, pz2, pz3]
      refine tk 8 ?_; try simp only [Act.put, pz1, pz2, pz3]
      refine wpAnyH_done (by kernel_rfl) ?_ _
      refine NoPanic.normal ?_
      go_wp2_with fail
      go_roundw
      case rel => exact ⟨k + 1, by omega, by go_num, (by first | exact hB | exact drew_below hB)⟩
      case measure => simp [intOf]; omega
    · obtain rfl : k = n := by omega
      go_wp2_with fail
      go_ret
      exact ⟨rfl, hB⟩
theorem find_no (s : Sf) (v : Value) (x : Int) (w : World) (hS : ShR w w.heap.size v s) (hT : Tabs w) (M : Bool) (hM : mayS s = M) (hI : M = false ∨ noteAt s x < 0) :
    Calls Tryz.prog 48 #[v, .int .i64 x] w fun e' w' => e' = .returned (.tuple #[.agg #[.int .i64 0, .int .i64 0, .string ⟨#[]⟩, .slice none 0 0, .slice none 0 0], .bool false]) ∧ Below w.heap.size w w' := by
  have hS0 := hS
  obtain ⟨Ab, cb, An, cn, rfl, hB, hN, hcb, hmb, hcn, hmn⟩ := hS.ex
  clear hS
  have HB : Below w.heap.size w ((w.alloc (.cells #[.int .i64 s.nb, .int .i64 s.nn, .int .i64 s.ns, .slice Ab s.bs.length cb, .slice An s.ts.length cn] 25)).alloc (.cells #[.int .i64 0, .int .i64 0, .string ⟨#[]⟩, .slice none 0 0, .slice none 0 0] 54)) := (((Below.refl w.heap.size w).alloc (by first | (simp; done) | (simp; omega)) _).alloc (by first | (simp; done) | (simp; omega)) _)
  have B1 : Blk ((w.alloc (.cells #[.int .i64 s.nb, .int .i64 s.nn, .int .i64 s.ns, .slice Ab s.bs.length cb, .slice An s.ts.length cn] 25)).alloc (.cells #[.int .i64 0, .int .i64 0, .string ⟨#[]⟩, .slice none 0 0, .slice none 0 0] 54)) w.heap.size 25 #[.int .i64 s.nb, .int .i64 s.nn, .int .i64 s.ns, .slice Ab s.bs.length cb, .slice An s.ts.length cn] := (Blk.new_ w 25 #[.int .i64 s.nb, .int .i64 s.nn, .int .i64 s.ns, .slice Ab s.bs.length cb, .slice An s.ts.length cn]).alloc_ (.cells #[.int .i64 0, .int .i64 0, .string ⟨#[]⟩, .slice none 0 0, .slice none 0 0] 54)
  have B2 : Blk ((w.alloc (.cells #[.int .i64 s.nb, .int .i64 s.nn, .int .i64 s.ns, .slice Ab s.bs.length cb, .slice An s.ts.length cn] 25)).alloc (.cells #[.int .i64 0, .int .i64 0, .string ⟨#[]⟩, .slice none 0 0, .slice none 0 0] 54)) (w.heap.size + 1) 54 #[.int .i64 0, .int .i64 0, .string ⟨#[]⟩, .slice none 0 0, .slice none 0 0] := by
    have := Blk.new_ (w.alloc (.cells #[.int .i64 s.nb, .int .i64 s.nn, .int .i64 s.ns, .slice Ab s.bs.length cb, .slice An s.ts.length cn] 25)) 54 #[.int .i64 0, .int .i64 0, .string ⟨#[]⟩, .slice none 0 0, .slice none 0 0]
    simpa using this
  have S1 : ShR ((w.alloc (.cells #[.int .i64 s.nb, .int .i64 s.nn, .int .i64 s.ns, .slice Ab s.bs.length cb, .slice An s.ts.length cn] 25)).alloc (.cells #[.int .i64 0, .int .i64 0, .string ⟨#[]⟩, .slice none 0 0, .slice none 0 0] 54)) (((w.alloc (.cells #[.int .i64 s.nb, .int .i64 s.nn, .int .i64 s.ns, .slice Ab s.bs.length cb, .slice An s.ts.length cn] 25)).alloc (.cells #[.int .i64 0, .int .i64 0, .string ⟨#[]⟩, .slice none 0 0, .slice none 0 0] 54))).heap.size (.agg #[.int .i64 s.nb, .int .i64 s.nn, .int .i64 s.ns, .slice Ab s.bs.length cb, .slice An s.ts.length cn]) s := hS0.next HB
  have T1 := hT.next HB
  obtain ⟨I, hIe⟩ : ∃ I, noteAt s x = I := ⟨_, rfl⟩
  have HI := Lib.hid hIe
  rw [hIe] at hI
  have HM := Lib.hid hM
  clear hM hIe hS0 hT hB hN hcb hmb hcn hmn
  cases M
  · clear hI
    go_enter Tryz.func48, Tryz.ntmps48
    go_wp2_with (first | (go_at_call 84; ((with_reducible refine (pNote_any s _ x _ S1).mono ?_); rintro e' w3 ⟨rfl, bx⟩; rw [HI.out]; have S1 := S1.next bx; have T1 := T1.next bx; have B1 := B1.below bx B1.lt; have B2 := B2.below bx B2.lt; have HB := btr HB HB.size bx; (try clear k0 k1 k2 k3 k4 r0 r1 r2 r3 r4 t0 t1 t2 t3 t4); have k0 := B1.cell_ 0; have r0 := B2.cell_ 0; have t0 := B2.free 0; have k1 := B1.cell_ 1; have r1 := B2.cell_ 1; have t1 := B2.free 1; have k2 := B1.cell_ 2; have r2 := B2.cell_ 2; have t2 := B2.free 2; have k3 := B1.cell_ 3; have r3 := B2.cell_ 3; have t3 := B2.free 3; have k4 := B1.cell_ 4; have r4 := B2.cell_ 4; have t4 := B2.free 4; simp at k0 k1 k2 k3 k4 r0 r1 r2 r3 r4; clear bx)) | (go_at_call 28; ((with_reducible refine (smay_any s _ _ S1 T1 _ HM.out).mono ?_); rintro e' w4 ⟨rfl, bx⟩; have S1 := S1.next bx; have T1 := T1.next bx; have B1 := B1.below bx B1.lt; have B2 := B2.below bx B2.lt; have HB := btr HB HB.size bx; (try clear k0 k1 k2 k3 k4 r0 r1 r2 r3 r4 t0 t1 t2 t3 t4); have k0 := B1.cell_ 0; have r0 := B2.cell_ 0; have t0 := B2.free 0; have k1 := B1.cell_ 1; have r1 := B2.cell_ 1; have t1 := B2.free 1; have k2 := B1.cell_ 2; have r2 := B2.cell_ 2; have t2 := B2.free 2; have k3 := B1.cell_ 3; have r3 := B2.cell_ 3; have t3 := B2.free 3; have k4 := B1.cell_ 4; have r4 := B2.cell_ 4; have t4 := B2.free 4; simp at k0 k1 k2 k3 k4 r0 r1 r2 r3 r4; clear bx)))
    have B2u := B2.st5_ (.int .i64 0) (.int .i64 0) (.string ⟨#[]⟩) (.slice none 0 0) (.slice none 0 0)
    have hb2 := st5_below HB (g := w.heap.size + 1) (by omega) 0 (.int .i64 0) (.int .i64 0) (.string ⟨#[]⟩) (.slice none 0 0) (.slice none 0 0)
    change bodyPost _ _ _ _ _ (st5 w4 (w.heap.size + 1) 0 (.int .i64 0) (.int .i64 0) (.string ⟨#[]⟩) (.slice none 0 0) (.slice none 0 0))
    generalize st5 w4 (w.heap.size + 1) 0 (.int .i64 0) (.int .i64 0) (.string ⟨#[]⟩) (.slice none 0 0) (.slice none 0 0) = WF at B2u hb2 ⊢
    apply bodyPost_ret (v := .tuple #[.agg #[.int .i64 0, .int .i64 0, .string ⟨#[]⟩, .slice none 0 0, .slice none 0 0], .bool false])
    · exact results_cell1 Tryz.results48 _ WF (w.heap.size + 1) 54 _ (0, 0) _ rfl B2u Tryz.underlying54 rfl (by kernel_rfl)
    · rfl
    · exact ⟨rfl, hb2⟩
  · have hI2 := hI.resolve_left (by decide)
    clear hI
    go_enter Tryz.func48, Tryz.ntmps48
    go_wp2_with (first | (go_at_call 84; ((with_reducible refine (pNote_any s _ x _ S1).mono ?_); rintro e' w3 ⟨rfl, bx⟩; rw [HI.out]; have S1 := S1.next bx; have T1 := T1.next bx; have B1 := B1.below bx B1.lt; have B2 := B2.below bx B2.lt; have HB := btr HB HB.size bx; (try clear k0 k1 k2 k3 k4 r0 r1 r2 r3 r4 t0 t1 t2 t3 t4); have k0 := B1.cell_ 0; have r0 := B2.cell_ 0; have t0 := B2.free 0; have k1 := B1.cell_ 1; have r1 := B2.cell_ 1; have t1 := B2.free 1; have k2 := B1.cell_ 2; have r2 := B2.cell_ 2; have t2 := B2.free 2; have k3 := B1.cell_ 3; have r3 := B2.cell_ 3; have t3 := B2.free 3; have k4 := B1.cell_ 4; have r4 := B2.cell_ 4; have t4 := B2.free 4; simp at k0 k1 k2 k3 k4 r0 r1 r2 r3 r4; clear bx)) | (go_at_call 28; ((with_reducible refine (smay_any s _ _ S1 T1 _ HM.out).mono ?_); rintro e' w4 ⟨rfl, bx⟩; have S1 := S1.next bx; have T1 := T1.next bx; have B1 := B1.below bx B1.lt; have B2 := B2.below bx B2.lt; have HB := btr HB HB.size bx; (try clear k0 k1 k2 k3 k4 r0 r1 r2 r3 r4 t0 t1 t2 t3 t4); have k0 := B1.cell_ 0; have r0 := B2.cell_ 0; have t0 := B2.free 0; have k1 := B1.cell_ 1; have r1 := B2.cell_ 1; have t1 := B2.free 1; have k2 := B1.cell_ 2; have r2 := B2.cell_ 2; have t2 := B2.free 2; have k3 := B1.cell_ 3; have r3 := B2.cell_ 3; have t3 := B2.free 3; have k4 := B1.cell_ 4; have r4 := B2.cell_ 4; have t4 := B2.free 4; simp at k0 k1 k2 k3 k4 r0 r1 r2 r3 r4; clear bx)))
    have B2u := B2.st5_ (.int .i64 0) (.int .i64 0) (.string ⟨#[]⟩) (.slice none 0 0) (.slice none 0 0)
    have hb2 := st5_below HB (g := w.heap.size + 1) (by omega) 0 (.int .i64 0) (.int .i64 0) (.string ⟨#[]⟩) (.slice none 0 0) (.slice none 0 0)
    change bodyPost _ _ _ _ _ (st5 w4 (w.heap.size + 1) 0 (.int .i64 0) (.int .i64 0) (.string ⟨#[]⟩) (.slice none 0 0) (.slice none 0 0))
    generalize st5 w4 (w.heap.size + 1) 0 (.int .i64 0) (.int .i64 0) (.string ⟨#[]⟩) (.slice none 0 0) (.slice none 0 0) = WF at B2u hb2 ⊢
    apply bodyPost_ret (v := .tuple #[.agg #[.int .i64 0, .int .i64 0, .string ⟨#[]⟩, .slice none 0 0, .slice none 0 0], .bool false])
    · exact results_cell1 Tryz.results48 _ WF (w.heap.size + 1) 54 _ (0, 0) _ rfl B2u Tryz.underlying54 rfl (by kernel_rfl)
    · rfl
    · exact ⟨rfl, hb2⟩
theorem find_yes (s : Sf) (v : Value) (x : Int) (w : World) (hS : ShR w w.heap.size v s) (hT : Tabs w) (hM : mayS s = true) (k : Nat) (n : Nt) (hk : noteAt s x = (k : Int)) (hn : s.ts[k]? = some n) :
    Calls Tryz.prog 48 #[v, .int .i64 x] w fun e' w' => ∃ v1 v2, e' = .returned (.tuple #[.agg #[.int .i64 n.id, .int .i64 n.bk, .string n.nm, v1, v2], .bool true]) ∧ w'.ownsRow w.heap.size 9 1 v1 n.tg.length (n.tg.map strV) ∧ w'.ownsRow w.heap.size 3 1 v2 n.sh.length (n.sh.map (Value.int .i64)) ∧ Below w.heap.size w w' := by
  have hS0 := hS
  obtain ⟨Ab, cb, An, cn, rfl, hB, hN, hcb, hmb, hcn, hmn⟩ := hS.ex
  clear hS
  have HB : Below w.heap.size w ((w.alloc (.cells #[.int .i64 s.nb, .int .i64 s.nn, .int .i64 s.ns, .slice Ab s.bs.length cb, .slice An s.ts.length cn] 25)).alloc (.cells #[.int .i64 0, .int .i64 0, .string ⟨#[]⟩, .slice none 0 0, .slice none 0 0] 54)) := (((Below.refl w.heap.size w).alloc (by first | (simp; done) | (simp; omega)) _).alloc (by first | (simp; done) | (simp; omega)) _)
  have B1 : Blk ((w.alloc (.cells #[.int .i64 s.nb, .int .i64 s.nn, .int .i64 s.ns, .slice Ab s.bs.length cb, .slice An s.ts.length cn] 25)).alloc (.cells #[.int .i64 0, .int .i64 0, .string ⟨#[]⟩, .slice none 0 0, .slice none 0 0] 54)) w.heap.size 25 #[.int .i64 s.nb, .int .i64 s.nn, .int .i64 s.ns, .slice Ab s.bs.length cb, .slice An s.ts.length cn] := (Blk.new_ w 25 #[.int .i64 s.nb, .int .i64 s.nn, .int .i64 s.ns, .slice Ab s.bs.length cb, .slice An s.ts.length cn]).alloc_ (.cells #[.int .i64 0, .int .i64 0, .string ⟨#[]⟩, .slice none 0 0, .slice none 0 0] 54)
  have B2 : Blk ((w.alloc (.cells #[.int .i64 s.nb, .int .i64 s.nn, .int .i64 s.ns, .slice Ab s.bs.length cb, .slice An s.ts.length cn] 25)).alloc (.cells #[.int .i64 0, .int .i64 0, .string ⟨#[]⟩, .slice none 0 0, .slice none 0 0] 54)) (w.heap.size + 1) 54 #[.int .i64 0, .int .i64 0, .string ⟨#[]⟩, .slice none 0 0, .slice none 0 0] := by
    have := Blk.new_ (w.alloc (.cells #[.int .i64 s.nb, .int .i64 s.nn, .int .i64 s.ns, .slice Ab s.bs.length cb, .slice An s.ts.length cn] 25)) 54 #[.int .i64 0, .int .i64 0, .string ⟨#[]⟩, .slice none 0 0, .slice none 0 0]
    simpa using this
  have S1 : ShR ((w.alloc (.cells #[.int .i64 s.nb, .int .i64 s.nn, .int .i64 s.ns, .slice Ab s.bs.length cb, .slice An s.ts.length cn] 25)).alloc (.cells #[.int .i64 0, .int .i64 0, .string ⟨#[]⟩, .slice none 0 0, .slice none 0 0] 54)) (((w.alloc (.cells #[.int .i64 s.nb, .int .i64 s.nn, .int .i64 s.ns, .slice Ab s.bs.length cb, .slice An s.ts.length cn] 25)).alloc (.cells #[.int .i64 0, .int .i64 0, .string ⟨#[]⟩, .slice none 0 0, .slice none 0 0] 54))).heap.size (.agg #[.int .i64 s.nb, .int .i64 s.nn, .int .i64 s.ns, .slice Ab s.bs.length cb, .slice An s.ts.length cn]) s := hS0.next HB
  have T1 := hT.next HB
  have hlr := (mayF_of hM).small n (List.mem_of_getElem? hn)
  have hlk : k < s.ts.length := (List.getElem?_eq_some_iff.1 hn).1
  have i0 : ¬ (k : Int) < 0 := by omega
  have i2 : (0 : Int) ≤ (k : Int) := by omega
  obtain ⟨m, hm⟩ : ∃ m, s.ts.length = m := ⟨_, rfl⟩
  have i1 : (k : Int) < (m : Int) := by omega
  rw [hm] at HB B1 S1 T1 B2 ⊢
  have HL1 := Lib.hid hlr.1
  have HL2 := Lib.hid hlr.2
  obtain ⟨es, hel, hse, hnt⟩ := hN.ex
  obtain ⟨e0, he⟩ : ∃ e, es[k]? = some e := ⟨_, List.getElem?_eq_getElem (by omega)⟩
  obtain ⟨At, ct, As, cs, rfl, hAt, hAs, htc, htm, hsc, hsm⟩ := (hnt k n e0 hn he).ex
  obtain ⟨b1, o1, rfl, l1, q1⟩ := hse.at_ (by omega)
  have HI := Lib.hid hk
  have HM := Lib.hid hM
  have y0 := q1 k _ he 0 _ rfl
  have y1 := q1 k _ he 1 _ rfl
  have y2 := q1 k _ he 2 _ rfl
  have y3 := q1 k _ he 3 _ rfl
  have y4 := q1 k _ he 4 _ rfl
  simp only [Nat.add_zero] at y0
  clear hM hk hS0 hT hB hcb hmb hcn hmn hlr he hnt q1 hse hel hm hlk hn hN
  go_enter Tryz.func48, Tryz.ntmps48
  go_upto_region 4 with (first | (go_at_call 84; ((with_reducible refine (pNote_any s _ x _ S1).mono ?_); rintro e' w3 ⟨rfl, bx⟩; rw [HI.out]; have S1 := S1.next bx; have T1 := T1.next bx; have B1 := B1.below bx B1.lt; have B2 := B2.below bx B2.lt; have HB := btr HB HB.size bx; (try clear k0 k1 k2 k3 k4 r0 r1 r2 r3 r4 t0 t1 t2 t3 t4); have k0 := B1.cell_ 0; have r0 := B2.cell_ 0; have t0 := B2.free 0; have k1 := B1.cell_ 1; have r1 := B2.cell_ 1; have t1 := B2.free 1; have k2 := B1.cell_ 2; have r2 := B2.cell_ 2; have t2 := B2.free 2; have k3 := B1.cell_ 3; have r3 := B2.cell_ 3; have t3 := B2.free 3; have k4 := B1.cell_ 4; have r4 := B2.cell_ 4; have t4 := B2.free 4; simp at k0 k1 k2 k3 k4 r0 r1 r2 r3 r4; clear bx)) | (go_at_call 28; ((with_reducible refine (smay_any s _ _ S1 T1 _ HM.out).mono ?_); rintro e' w4 ⟨rfl, bx⟩; have S1 := S1.next bx; have T1 := T1.next bx; have B1 := B1.below bx B1.lt; have B2 := B2.below bx B2.lt; have HB := btr HB HB.size bx; (try clear k0 k1 k2 k3 k4 r0 r1 r2 r3 r4 t0 t1 t2 t3 t4); have k0 := B1.cell_ 0; have r0 := B2.cell_ 0; have t0 := B2.free 0; have k1 := B1.cell_ 1; have r1 := B2.cell_ 1; have t1 := B2.free 1; have k2 := B1.cell_ 2; have r2 := B2.cell_ 2; have t2 := B2.free 2; have k3 := B1.cell_ 3; have r3 := B2.cell_ 3; have t3 := B2.free 3; have k4 := B1.cell_ 4; have r4 := B2.cell_ 4; have t4 := B2.free 4; simp at k0 k1 k2 k3 k4 r0 r1 r2 r3 r4; clear bx)))
  have z0 := (HB.cell (p := ⟨b1, o1 + k * 5, none⟩) l1).trans y0
  have z1 := (HB.cell (p := ⟨b1, o1 + k * 5 + 1, none⟩) l1).trans y1
  have z2 := (HB.cell (p := ⟨b1, o1 + k * 5 + 2, none⟩) l1).trans y2
  have z3 := (HB.cell (p := ⟨b1, o1 + k * 5 + 3, none⟩) l1).trans y3
  have z4 := (HB.cell (p := ⟨b1, o1 + k * 5 + 4, none⟩) l1).trans y4
  have hAt2 := (hAt.below HB).mono_ HB.size
  have hAs2 := (hAs.below HB).mono_ HB.size
  have hz4 : w.heap.size + 1 < w4.heap.size := B2.lt
  clear y0 y1 y2 y3 y4 hAt hAs S1 T1 B1 k0 k1 k2 k3
  go_wp2_with (go_at_call 85; ((with_reducible refine (cloneNote_any n At ct As cs _ hAt2 hAs2 HL1.out HL2.out).mono ?_); rintro e' w5 ⟨v1, v2, rfl, p1, p2, b5⟩; obtain ⟨A7, c7, rfl, -, -⟩ := own_shape p1; obtain ⟨A8, c8, rfl, -, -⟩ := own_shape p2; have B2 := B2.below b5 B2.lt; have HB := btr HB HB.size b5; (clear r0 r1 r2 r3 r4 t0 t1 t2 t3 t4); have r0 := B2.cell_ 0; have r1 := B2.cell_ 1; have r2 := B2.cell_ 2; have r3 := B2.cell_ 3; have r4 := B2.cell_ 4; simp at r0 r1 r2 r3 r4; have t0 := B2.free 0; have t1 := B2.free 1; have t2 := B2.free 2; have t3 := B2.free 3; have t4 := B2.free 4; clear b5))
  have B2u := B2.st5_ (.int .i64 n.id) (.int .i64 n.bk) (.string n.nm) (.slice A7 n.tg.length c7) (.slice A8 n.sh.length c8)
  have hgE := st5_grown w5 (w.heap.size + 1) 0 (.int .i64 n.id) (.int .i64 n.bk) (.string n.nm) (.slice A7 n.tg.length c7) (.slice A8 n.sh.length c8)
  have hb2 := below_grown HB hgE (by omega) HB.size
  have p1u := p1.kept hgE (own_off p1 (by omega))
  have p2u := p2.kept hgE (own_off p2 (by omega))
  change bodyPost _ _ _ _ _ (st5 w5 (w.heap.size + 1) 0 (.int .i64 n.id) (.int .i64 n.bk) (.string n.nm) (.slice A7 n.tg.length c7) (.slice A8 n.sh.length c8))
  clear hgE
  generalize st5 w5 (w.heap.size + 1) 0 (.int .i64 n.id) (.int .i64 n.bk) (.string n.nm) (.slice A7 n.tg.length c7) (.slice A8 n.sh.length c8) = WF at B2u hb2 p1u p2u ⊢
  apply bodyPost_ret (v := .tuple #[.agg #[.int .i64 n.id, .int .i64 n.bk, .string n.nm, .slice A7 n.tg.length c7, .slice A8 n.sh.length c8], .bool true])
  · exact results_cell1 Tryz.results48 _ WF (w.heap.size + 1) 54 _ (0, 0) _ rfl B2u Tryz.underlying54 rfl (by kernel_rfl)
  · rfl
  · exact ⟨_, _, rfl, own_base p1u (by omega), own_base p2u (by omega), hb2⟩
end Go.Proofs.YteokeghenjobaaaGreatDoor
namespace Go.Proofs.YteokeghenjobaaaGreatDoor
open Go.ChangeShapes Go.WideShapes Go.ChangeAt Go.RowKit
attribute [local go_sem ↓] Go.wp_at_zero Go.wp_at_succ
attribute [local go_sem] Oper.semAt_some
theorem infoKn : (Tryz.prog.info? 82).map (fun i => (i.zero, i.size, i.bytes)) = some (some (.agg #[.int .i64 0, .string ByteArray.empty, .int .i64 0]), 3, 32) := by kernel_rfl
@[go_sem] theorem build_kn (a c : Int) (b : ByteArray) (w : World) : (Instr.buildSlice 79 1 #[(0, .agg #[.int .i64 a, .string b, .int .i64 c])]).run Tryz.prog w = .ok (.slice (some ⟨w.heap.size, 0, none⟩) 1 1) (w.alloc (.cells #[.int .i64 a, .string b, .int .i64 c] 82)) := by kernel_rfl
theorem one1K (x : Kn) : ∀ u ∈ knC x, u.oneCell' = true := by
  intro u hu
  simp [knC] at hu
  rcases hu with rfl | rfl | rfl <;> rfl
theorem rd_newK (w : World) (x : Kn) {g : Nat} (hg : g = w.heap.size) : Rd (w.alloc (.cells #[.int .i64 x.id, .string x.nm, .int .i64 x.cm] 82)) (some ⟨g, 0, none⟩) 1 3 (knC x) := by
  subst hg
  refine ⟨rfl, Or.inr ⟨_, 0, rfl, fun j u hj => ?_⟩⟩
  rw [Joins.cell_of_block (heap_alloc_new w _), Nat.zero_add]
  simpa [knC] using hj
def RowK (w : World) (base : Nat) (v : Value) (L : List Kn) : Prop := w.ownsRow base 82 3 v L.length (L.map knC).flatten
theorem RowK.snoc {w : World} {base : Nat} {v : Value} {L : List Kn} {x : Kn} (h : w.ownsRow base 82 3 v (L.length + 1) ((L.map knC).flatten ++ knC x)) : RowK w base v (L ++ [x]) := by
  unfold RowK
  rw [List.length_append, List.map_append, List.flatten_append]
  simpa using h
theorem noteAt_none {s : Sf} {x : Int} : noteAt s x < 0 ∨ ∃ (k : Nat) (n : Nt), noteAt s x = (k : Int) ∧ s.ts[k]? = some n ∧ n.id = x := by
  rcases Nat.lt_or_ge 0 0 with h | _
  · omega
  · unfold noteAt
    unfold idxP
    cases hf : s.ts.findIdx? (fun n : Nt => n.id == x) with
    | none => exact Or.inl (by show (-1 : Int) < 0; omega)
    | some i =>
      obtain ⟨hlt, hx, _⟩ := List.findIdx?_eq_some_iff_getElem.1 hf
      exact Or.inr ⟨i, s.ts[i], rfl, List.getElem?_eq_getElem hlt, by simpa using hx⟩
theorem kin_arg (s : Sf) (v : Value) (x : Int) (w : World) (hS : ShR w w.heap.size v s) (hT : Tabs w) (hM : mayS s = false) :
    Calls Tryz.prog 14 #[v, .int .i64 x] w fun e' w' => e' = .returned (.tuple #[.slice none 0 0, .int .i64 2]) ∧ Below w.heap.size w w' := by
  have hS0 := hS
  obtain ⟨Ab, cb, An, cn, rfl, hB, hN, hcb, hmb, hcn, hmn⟩ := hS.ex
  clear hS
  have HB : Below w.heap.size w (w.alloc (.cells #[.int .i64 s.nb, .int .i64 s.nn, .int .i64 s.ns, .slice Ab s.bs.length cb, .slice An s.ts.length cn] 25)) := ((Below.refl w.heap.size w).alloc (by first | (simp; done) | (simp; omega)) _)
  have B1 : Blk (w.alloc (.cells #[.int .i64 s.nb, .int .i64 s.nn, .int .i64 s.ns, .slice Ab s.bs.length cb, .slice An s.ts.length cn] 25)) w.heap.size 25 #[.int .i64 s.nb, .int .i64 s.nn, .int .i64 s.ns, .slice Ab s.bs.length cb, .slice An s.ts.length cn] := Blk.new_ w 25 #[.int .i64 s.nb, .int .i64 s.nn, .int .i64 s.ns, .slice Ab s.bs.length cb, .slice An s.ts.length cn]
  have S1 : ShR (w.alloc (.cells #[.int .i64 s.nb, .int .i64 s.nn, .int .i64 s.ns, .slice Ab s.bs.length cb, .slice An s.ts.length cn] 25)) ((w.alloc (.cells #[.int .i64 s.nb, .int .i64 s.nn, .int .i64 s.ns, .slice Ab s.bs.length cb, .slice An s.ts.length cn] 25))).heap.size (.agg #[.int .i64 s.nb, .int .i64 s.nn, .int .i64 s.ns, .slice Ab s.bs.length cb, .slice An s.ts.length cn]) s := hS0.next HB
  have T1 := hT.next HB
  have HM := Lib.hid hM
  clear hM hS0 hT hB hN
  go_enter Tryz.func14, Tryz.ntmps14
  go_wp2_with (go_at_call 28; ((with_reducible refine (smay_any s _ _ S1 T1 _ HM.out).mono ?_); rintro e' w3 ⟨rfl, b3⟩; have T1 := T1.next b3; have S1 := S1.next b3; have B1 := B1.below b3 B1.lt; have HB := btr HB HB.size b3; (try clear k0 k1 k2 k3 k4); have k0 := B1.cell_ 0; have k1 := B1.cell_ 1; have k2 := B1.cell_ 2; have k3 := B1.cell_ 3; have k4 := B1.cell_ 4; simp at k0 k1 k2 k3 k4; clear b3))
  go_ret2
  exact ⟨rfl, HB⟩
theorem kin_none (s : Sf) (v : Value) (x : Int) (w : World) (hS : ShR w w.heap.size v s) (hT : Tabs w) (hM : mayS s = true) (hI : noteAt s x < 0) :
    Calls Tryz.prog 14 #[v, .int .i64 x] w fun e' w' => e' = .returned (.tuple #[.slice none 0 0, .int .i64 4]) ∧ Below w.heap.size w w' := by
  have hS0 := hS
  obtain ⟨Ab, cb, An, cn, rfl, hB, hN, hcb, hmb, hcn, hmn⟩ := hS.ex
  clear hS
  have HB : Below w.heap.size w (w.alloc (.cells #[.int .i64 s.nb, .int .i64 s.nn, .int .i64 s.ns, .slice Ab s.bs.length cb, .slice An s.ts.length cn] 25)) := ((Below.refl w.heap.size w).alloc (by first | (simp; done) | (simp; omega)) _)
  have B1 : Blk (w.alloc (.cells #[.int .i64 s.nb, .int .i64 s.nn, .int .i64 s.ns, .slice Ab s.bs.length cb, .slice An s.ts.length cn] 25)) w.heap.size 25 #[.int .i64 s.nb, .int .i64 s.nn, .int .i64 s.ns, .slice Ab s.bs.length cb, .slice An s.ts.length cn] := Blk.new_ w 25 #[.int .i64 s.nb, .int .i64 s.nn, .int .i64 s.ns, .slice Ab s.bs.length cb, .slice An s.ts.length cn]
  have S1 : ShR (w.alloc (.cells #[.int .i64 s.nb, .int .i64 s.nn, .int .i64 s.ns, .slice Ab s.bs.length cb, .slice An s.ts.length cn] 25)) ((w.alloc (.cells #[.int .i64 s.nb, .int .i64 s.nn, .int .i64 s.ns, .slice Ab s.bs.length cb, .slice An s.ts.length cn] 25))).heap.size (.agg #[.int .i64 s.nb, .int .i64 s.nn, .int .i64 s.ns, .slice Ab s.bs.length cb, .slice An s.ts.length cn]) s := hS0.next HB
  have T1 := hT.next HB
  have HM := Lib.hid hM
  have HI := Lib.hid hI
  clear hM hI hS0 hT hB hN
  go_enter Tryz.func14, Tryz.ntmps14
  go_wp2_with (first | (go_at_call 28; ((with_reducible refine (smay_any s _ _ S1 T1 _ HM.out).mono ?_); rintro e' w3 ⟨rfl, b3⟩; have T1 := T1.next b3; have S1 := S1.next b3; have B1 := B1.below b3 B1.lt; have HB := btr HB HB.size b3; (try clear k0 k1 k2 k3 k4); have k0 := B1.cell_ 0; have k1 := B1.cell_ 1; have k2 := B1.cell_ 2; have k3 := B1.cell_ 3; have k4 := B1.cell_ 4; simp at k0 k1 k2 k3 k4; clear b3)) | (go_at_call 48; ((with_reducible refine (find_no s _ x _ S1 T1 true HM.out (Or.inr HI.out)).mono ?_); rintro e' w4 ⟨rfl, b4⟩; have S1 := S1.next b4; have B1 := B1.below b4 B1.lt; have HB := btr HB HB.size b4; (try clear k0 k1 k2 k3 k4); have k0 := B1.cell_ 0; have k1 := B1.cell_ 1; have k2 := B1.cell_ 2; have k3 := B1.cell_ 3; have k4 := B1.cell_ 4; simp at k0 k1 k2 k3 k4; clear b4)))
  go_ret2
  exact ⟨rfl, HB.alloc HB.size _⟩
theorem kin_any (s : Sf) (v : Value) (x : Int) (w : World) (hS : ShR w w.heap.size v s) (hT : Tabs w) (hM : mayS s = true) (ki : Nat) (of : Nt) (hI : noteAt s x = (ki : Int)) (hof : s.ts[ki]? = some of) :
    Calls Tryz.prog 14 #[v, .int .i64 x] w fun e' w' => ∃ (A : Option Addr) (c : Nat) (ks : List Kn), e' = .returned (.tuple #[.slice A ks.length c, .int .i64 0]) ∧ ks.Perm (kinsL s of x) ∧ OrdK ks ∧ w'.ownsRow w.heap.size 50 2 (.slice A ks.length c) ks.length ((ks.map knIt).map itC).flatten ∧ Below w.heap.size w w' := by
  have hF := mayF_of hM
  have hS0 := hS
  obtain ⟨Ab, cb, An, cn, rfl, hB, hN, hcb, hmb, hcn, hmn⟩ := hS.ex
  clear hS
  obtain ⟨n, hn⟩ : ∃ n, s.ts.length = n := ⟨_, rfl⟩
  obtain ⟨bn, hbn⟩ : ∃ n, s.bs.length = n := ⟨_, rfl⟩
  have HB : Below w.heap.size w (w.alloc (.cells #[.int .i64 s.nb, .int .i64 s.nn, .int .i64 s.ns, .slice Ab s.bs.length cb, .slice An s.ts.length cn] 25)) := ((Below.refl w.heap.size w).alloc (by first | (simp; done) | (simp; omega)) _)
  have B1 : Blk (w.alloc (.cells #[.int .i64 s.nb, .int .i64 s.nn, .int .i64 s.ns, .slice Ab s.bs.length cb, .slice An s.ts.length cn] 25)) w.heap.size 25 #[.int .i64 s.nb, .int .i64 s.nn, .int .i64 s.ns, .slice Ab s.bs.length cb, .slice An s.ts.length cn] := Blk.new_ w 25 #[.int .i64 s.nb, .int .i64 s.nn, .int .i64 s.ns, .slice Ab s.bs.length cb, .slice An s.ts.length cn]
  have S1 : ShR (w.alloc (.cells #[.int .i64 s.nb, .int .i64 s.nn, .int .i64 s.ns, .slice Ab s.bs.length cb, .slice An s.ts.length cn] 25)) ((w.alloc (.cells #[.int .i64 s.nb, .int .i64 s.nn, .int .i64 s.ns, .slice Ab s.bs.length cb, .slice An s.ts.length cn] 25))).heap.size (.agg #[.int .i64 s.nb, .int .i64 s.nn, .int .i64 s.ns, .slice Ab s.bs.length cb, .slice An s.ts.length cn]) s := hS0.next HB
  have T1 := hT.next HB
  obtain ⟨es, hel, hse, hnt⟩ := hN.ex
  simp only [hn, hbn] at HB B1 S1 T1 hel ⊢
  have hn12 : n ≤ 12 := by have := hF.tl; omega
  have HEL := Lib.hid hel
  have HN := Lib.hid hn
  have HM := Lib.hid hM
  have HI := Lib.hid (And.intro hI hof)
  have HFF := Lib.hid hF
  have HOF : Hid (of.tg.length ≤ 4) := Lib.hid (hF.note (List.mem_of_getElem? hof)).1
  clear hM hn hbn hS0 hT hel hB hF hI hof
  go_enter Tryz.func14, Tryz.ntmps14
  go_upto_region 4 with (first | (go_at_call 28; ((with_reducible refine (smay_any s _ _ S1 T1 _ HM.out).mono ?_); rintro e' w3 ⟨rfl, b3⟩; have T1 := T1.next b3; have S1 := S1.next b3; have B1 := B1.below b3 B1.lt; have HB := btr HB HB.size b3; (try clear k0 k1 k2 k3 k4); have k0 := B1.cell_ 0; have k1 := B1.cell_ 1; have k2 := B1.cell_ 2; have k3 := B1.cell_ 3; have k4 := B1.cell_ 4; simp at k0 k1 k2 k3 k4; clear b3)) | (go_at_call 48; ((with_reducible refine (find_yes s _ x _ S1 T1 HM.out ki of HI.out.1 HI.out.2).mono ?_); rintro e' w4 ⟨v1, v2, rfl, r1, r2, b4⟩; obtain ⟨A6, c6, rfl, hc6, hm6⟩ := own_shape r1; obtain ⟨A7, c7, rfl, -, -⟩ := own_shape r2; have S1 := S1.next b4; have B1 := B1.below b4 B1.lt; have HB := btr HB HB.size b4; (try clear k0 k1 k2 k3 k4); have k0 := B1.cell_ 0; have k1 := B1.cell_ 1; have k2 := B1.cell_ 2; have k3 := B1.cell_ 3; have k4 := B1.cell_ 4; simp at k0 k1 k2 k3 k4; clear b4)))
  obtain ⟨ol, hol⟩ : ∃ n, of.tg.length = n := ⟨_, rfl⟩
  obtain ⟨os, hos⟩ : ∃ n, of.sh.length = n := ⟨_, rfl⟩
  have hTO0 : Sl w4 w4.heap.size A6 (of.tg.map strV) := Sl.of_own r1
  rw [hol, hos]
  have HOL := Lib.hid (And.intro hol hos)
  have hal : Below w4.heap.size w4 (w4.alloc (.cells #[.int .i64 of.id, .int .i64 of.bk, .string of.nm, .slice A6 ol c6, .slice A7 os c7] 54)) := (Below.refl _ w4).alloc (Nat.le_refl _) _
  have hTO1 := (hTO0.below hal).mono_ hal.size
  have BO0 : Blk (w4.alloc (.cells #[.int .i64 of.id, .int .i64 of.bk, .string of.nm, .slice A6 ol c6, .slice A7 os c7] 54)) w4.heap.size 54 #[.int .i64 of.id, .int .i64 of.bk, .string of.nm, .slice A6 ol c6, .slice A7 os c7] := Blk.new_ w4 54 #[.int .i64 of.id, .int .i64 of.bk, .string of.nm, .slice A6 ol c6, .slice A7 os c7]
  have HBQ := btr HB HB.size hal
  have B1q := B1.below hal B1.lt
  have z4 : w4.heap.size < (w4.alloc (.cells #[.int .i64 of.id, .int .i64 of.bk, .string of.nm, .slice A6 ol c6, .slice A7 os c7] 54)).heap.size := by simp
  clear hol hos r1 r2 HB B1 S1 T1 hTO0 hal k0 k1 k2 k3 k4 hc6 hm6
  obtain ⟨w5, hw5⟩ : ∃ V, V = w4.alloc (.cells #[.int .i64 of.id, .int .i64 of.bk, .string of.nm, .slice A6 ol c6, .slice A7 os c7] 54) := ⟨_, rfl⟩
  rw [← hw5] at hTO1 BO0 HBQ B1q z4 ⊢
  clear hw5
  obtain ⟨go, hgo⟩ : ∃ g, w4.heap.size = g := ⟨_, rfl⟩
  rw [hgo] at BO0 z4 ⊢
  clear hgo
  have k4 := B1q.cell_ 4
  simp at k4
  go_upto_region 8 with fail
  clear k4
  go_loopw [8, 29] (fun sv i wr => ∃ k : Nat, k ≤ n ∧ i = .int .i64 k ∧ Hid (RowK wr w5.heap.size sv (((s.ts.take k).filter (kinB of x)).map (kinIt of))) ∧ Below w5.heap.size w5 wr) (fun _ i _ => n - (intOf i).toNat)
  case atStart => exact ⟨0, by omega, rfl, Lib.hid (World.ownsRow_nil _ _ _ _), Below.refl _ _⟩
  case round =>
    obtain ⟨k, hk, rfl, HR, HBr⟩ := hrel
    by_cases hlt : k < n
    · have hlx : k < s.ts.length := by have := HN.out; omega
      have hw4 := HBQ.size
      have i0 : (0 : Int) ≤ (k : Int) := by omega
      have i1 : (k : Int) < (n : Int) := by omega
      obtain ⟨y, hx⟩ : ∃ y, s.ts[k]? = some y := ⟨_, List.getElem?_eq_getElem hlx⟩
      have hsm := HFF.out.note (List.mem_of_getElem? hx)
      obtain ⟨e0, he⟩ : ∃ e, es[k]? = some e := ⟨_, List.getElem?_eq_getElem (by have := HEL.out; omega)⟩
      obtain ⟨At, ct, As, cs, rfl, hyt, -⟩ := (hnt k y e0 hx he).ex
      obtain ⟨b1, o1, rfl, l1, q1⟩ := hse.at_ (by have := HEL.out; omega)
      have HBw := btr HBQ HBQ.size HBr
      have y0 : wr.cell? ⟨b1, o1 + k * 5 + 0, none⟩ = some (.int .i64 y.id) := (HBw.cell (p := ⟨b1, _, none⟩) l1).trans (q1 k _ he 0 _ rfl)
      have y1 : wr.cell? ⟨b1, o1 + k * 5 + 1, none⟩ = some (.int .i64 y.bk) := (HBw.cell (p := ⟨b1, _, none⟩) l1).trans (q1 k _ he 1 _ rfl)
      have y2 : wr.cell? ⟨b1, o1 + k * 5 + 2, none⟩ = some (.string y.nm) := (HBw.cell (p := ⟨b1, _, none⟩) l1).trans (q1 k _ he 2 _ rfl)
      have y3 : wr.cell? ⟨b1, o1 + k * 5 + 3, none⟩ = some (.slice At y.tg.length ct) := (HBw.cell (p := ⟨b1, _, none⟩) l1).trans (q1 k _ he 3 _ rfl)
      have y4 : wr.cell? ⟨b1, o1 + k * 5 + 4, none⟩ = some (.slice As y.sh.length cs) := (HBw.cell (p := ⟨b1, _, none⟩) l1).trans (q1 k _ he 4 _ rfl)
      simp only [Nat.add_zero] at y0
      have HX := Lib.hid hx
      obtain ⟨L, hL⟩ : ∃ L, ((s.ts.take k).filter (kinB of x)).map (kinIt of) = L := ⟨_, rfl⟩
      have hL6 : L.length ≤ 12 := by
        rw [← hL, List.length_map]
        have h1 := List.length_filter_le (kinB of x) (s.ts.take k)
        rw [List.length_take] at h1
        omega
      rw [hL] at HR
      have HL := Lib.hid hL
      obtain ⟨m, hm⟩ : ∃ m, comN of.tg y.tg = m := ⟨_, rfl⟩
      have hm4 : m ≤ 4 := by
        rw [← hm]
        unfold comN
        exact Nat.le_trans (List.length_filter_le _ _) HOF.out
      have hal : Below wr.heap.size wr (wr.alloc (.cells #[.int .i64 y.id, .int .i64 y.bk, .string y.nm, .slice At y.tg.length ct, .slice As y.sh.length cs] 54)) := (Below.refl _ wr).alloc (Nat.le_refl _) _
      have hcm := common_any of.tg y.tg A6 At c6 ct (wr.alloc (.cells #[.int .i64 y.id, .int .i64 y.bk, .string y.nm, .slice At y.tg.length ct, .slice As y.sh.length cs] 54)) (((hTO1.below (HBr.trans (hal.mono HBr.size))).mono_ (HBr.trans (hal.mono HBr.size)).size)) ((hyt.below (btr HBw HBw.size hal)).mono_ (btr HBw HBw.size hal).size) (by have := HOF.out; omega) (by omega)
      rw [hm, HOL.out.1] at hcm
      obtain ⟨yt, hyt2⟩ : ∃ n, y.tg.length = n := ⟨_, rfl⟩
      obtain ⟨ys, hys⟩ : ∃ n, y.sh.length = n := ⟨_, rfl⟩
      simp only [hyt2, hys] at y3 y4 hcm hal
      have o3 : (wr.alloc (.cells #[.int .i64 y.id, .int .i64 y.bk, .string y.nm, .slice At yt ct, .slice As ys cs] 54)).cell? ⟨go, 3, none⟩ = some (.slice A6 ol c6) := by have := (BO0.below (HBr.trans (hal.mono HBr.size)) BO0.lt).cell_ 3; simpa using this
      have HON : Hid (RowK (wr.alloc (.cells #[.int .i64 y.id, .int .i64 y.bk, .string y.nm, .slice At yt ct, .slice As ys cs] 54)) w5.heap.size _ L) := Lib.hid (own_belowW HR.out hal)
      have HBa := HBr.trans (hal.mono HBr.size)
      have BN : Blk (wr.alloc (.cells #[.int .i64 y.id, .int .i64 y.bk, .string y.nm, .slice At yt ct, .slice As ys cs] 54)) wr.heap.size 54 #[.int .i64 y.id, .int .i64 y.bk, .string y.nm, .slice At yt ct, .slice As ys cs] := Blk.new_ wr 54 #[.int .i64 y.id, .int .i64 y.bk, .string y.nm, .slice At yt ct, .slice As ys cs]
      have HCM := Lib.hid hcm
      have HM2 := Lib.hid (And.intro hm (And.intro hyt2 hys))
      clear hx he q1 hsm hcm hL hm hyt2 hys hyt HR HBr HBw
      have hB2 := Lib.hid hal
      clear hal
      go_upto_region 10 with fail
      obtain ⟨W, hW⟩ : ∃ V, V = wr.alloc (.cells #[.int .i64 y.id, .int .i64 y.bk, .string y.nm, .slice At yt ct, .slice As ys cs] 54) := ⟨_, rfl⟩
      have hsz2 : wr.heap.size < W.heap.size := by rw [hW]; simp
      rw [← hW] at o3 HON HBa BN HCM ⊢
      clear hW hB2 y0 y1 y2 y3 y4
      obtain ⟨g1, hg1⟩ : ∃ g, wr.heap.size = g := ⟨_, rfl⟩
      rw [hg1] at BN hsz2 ⊢
      clear hg1
      have hwW := HBa.size
      obtain ⟨x0, x1, x2, x3, x4⟩ := cell5 BN
      rcases (by cases hq : decide (0 < m) <;> simp : decide (0 < m) = true ∨ decide (0 < m) = false) with hp | hp
      · have p1 : (0 : Int) < (m : Int) := by have := of_decide_eq_true hp; omega
        rcases (by cases hq : (y.id != x) <;> simp : (y.id != x) = true ∨ (y.id != x) = false) with hr | hr
        · have HLN : Hid (((s.ts.take (k + 1)).filter (kinB of x)).map (kinIt of) = L ++ [⟨y.id, y.nm, (m : Int)⟩]) := Lib.hid (by rw [filter_yes HX.out (by unfold kinB; rw [HM2.out.1, hp, hr]; rfl), List.map_append, HL.out]; show L ++ [kinIt of y] = _; unfold kinIt; rw [HM2.out.1])
          have hon : W.ownsRow w5.heap.size 82 3 _ L.length (L.map knC).flatten := HON.out
          clear HON hp BN x1 x4
          go_wp2_with (first | (go_at_call 49; ((with_reducible refine HCM.out.mono ?_); rintro e' w7 ⟨rfl, rfl⟩)) | (at_builtin; obtain ⟨ti0, hi, hz0, hz1, hz2⟩ := info_parts infoKn; refine wpList_app _ rfl (.tmp 46) (.tmp 54) _ rfl w5.heap.size 82 ti0 _ 3 32 Tryz.underlying79 hi hz0 hz1 hz2 rfl (by decide) _ L.length (L.map knC).flatten rfl (hon.alloc _) _ 1 _ (knC ⟨y.id, y.nm, (m : Int)⟩) rfl (rd_newK _ ⟨y.id, y.nm, (m : Int)⟩ (by simp)) (one1K _) (by unfold maxLen; omega) (by omega) (by simp; omega) ?_; intro v' w' ho' hg' hv'; clear hi hz0 hz1 hz2))
          have HF : Below w5.heap.size w5 w' := (HBa.alloc HBa.size _).trans (below_app (by omega) (by simp; omega) (hon.alloc _) hg')
          have HR2 : Hid (RowK w' w5.heap.size v' (((s.ts.take (k + 1)).filter (kinB of x)).map (kinIt of))) := Lib.hid (by rw [HLN.out]; exact RowK.snoc ho')
          clear ho' hg' hv' hon x0 x2 x3
          go_roundw
          case rel => exact ⟨k + 1, by omega, by go_num, HR2, HF⟩
          case measure => simp [intOf]; omega
        · have HLN : Hid (((s.ts.take (k + 1)).filter (kinB of x)).map (kinIt of) = L) := Lib.hid (by rw [filter_no HX.out (by unfold kinB; rw [hr, Bool.and_false]), HL.out])
          have HR2 : Hid (RowK W w5.heap.size _ (((s.ts.take (k + 1)).filter (kinB of x)).map (kinIt of))) := Lib.hid (by rw [HLN.out]; exact HON.out)
          clear HON hp
          go_wp2_with (go_at_call 49; ((with_reducible refine HCM.out.mono ?_); rintro e' w7 ⟨rfl, rfl⟩))
          go_roundw
          case rel => exact ⟨k + 1, by omega, by go_num, HR2, HBa⟩
          case measure => simp [intOf]; omega
      · have HLN : Hid (((s.ts.take (k + 1)).filter (kinB of x)).map (kinIt of) = L) := Lib.hid (by rw [filter_no HX.out (by unfold kinB; rw [HM2.out.1, hp, Bool.false_and]), HL.out])
        have p1 : ¬ (0 : Int) < (m : Int) := by have := of_decide_eq_false hp; omega
        have HR2 : Hid (RowK W w5.heap.size _ (((s.ts.take (k + 1)).filter (kinB of x)).map (kinIt of))) := Lib.hid (by rw [HLN.out]; exact HON.out)
        clear HON hp
        go_wp2_with (go_at_call 49; ((with_reducible refine HCM.out.mono ?_); rintro e' w7 ⟨rfl, rfl⟩))
        go_roundw
        case rel => exact ⟨k + 1, by omega, by go_num, HR2, HBa⟩
        case measure => simp [intOf]; omega
    · have hjn : k = n := by omega
      subst hjn
      have hw4 := HBQ.size
      rw [List.take_of_length_le (by rw [HN.out]; exact Nat.le_refl _)] at HR
      have hfl : (kinsL s of x).length ≤ 12 := by
        unfold kinsL
        rw [List.length_map]
        have h1 := List.length_filter_le (kinB of x) s.ts
        have := HN.out
        omega
      have HRo := HR.out
      unfold RowK at HRo
      rw [show (s.ts.filter (kinB of x)).map (kinIt of) = kinsL s of x from rfl] at HRo
      obtain ⟨A5, c5, rfl, hc5, hm5⟩ := own_shape HRo
      have hso := sortK_own (kinsL s of x) _ _ wr HRo (by omega)
      obtain ⟨hl, hhl⟩ : ∃ n, (kinsL s of x).length = n := ⟨_, rfl⟩
      rw [hhl] at hso hfl ⊢
      have HHL := Lib.hid hhl
      have HSO := Lib.hid hso
      clear hlt hso hhl HRo HR hc5 hm5
      go_upto_region 17 with (go_at_call 50; ((with_reducible refine HSO.out.mono ?_); rintro e' w6 ⟨rfl, ks, p1, p2, p3, p4⟩; clear HSO))
      have hle : ks.length = hl := p1.length_eq.trans HHL.out
      have hKS : SlE 3 w6 w6.heap.size A5 (ks.map knC) := sle_of_own (by rw [hle] at p3; exact p3) (fun x hx => by obtain ⟨y, _, rfl⟩ := List.mem_map.1 hx; rfl) (by decide)
      have HLE := Lib.hid hle
      have HB6 := (HBQ.trans (HBr.mono hw4)).trans (p4.mono hw4)
      have hw6 := HB6.size
      have HP := Lib.hid (And.intro p1 p2)
      clear hle p1 p2 p3 p4 HBr
      go_loopw [12, 61] (fun sv i wr => ∃ k : Nat, k ≤ hl ∧ i = .int .i64 k ∧ Hid (RowI wr w6.heap.size sv ((ks.take k).map knIt)) ∧ Below w6.heap.size w6 wr) (fun _ i _ => hl - (intOf i).toNat)
      case atStart => exact ⟨0, by omega, rfl, Lib.hid (World.ownsRow_nil _ _ _ _), Below.refl _ _⟩
      case round =>
        obtain ⟨j, hj, rfl, HR, HBr⟩ := hrel
        have hsz := HBr.size
        by_cases hlt : j < hl
        · have hlx : j < ks.length := by have := HLE.out; omega
          have i0 : (0 : Int) ≤ (j : Int) := by omega
          have i1 : (j : Int) < (hl : Int) := by omega
          obtain ⟨y, hx⟩ : ∃ y, ks[j]? = some y := ⟨_, List.getElem?_eq_getElem hlx⟩
          obtain ⟨b1, o1, rfl, l1, q1⟩ := hKS.at_ (by rw [List.length_map]; omega)
          have he : (ks.map knC)[j]? = some (knC y) := by rw [List.getElem?_map, hx]; rfl
          have y0 : wr.cell? ⟨b1, o1 + j * 3 + 0, none⟩ = some (.int .i64 y.id) := (HBr.cell (p := ⟨b1, _, none⟩) l1).trans (q1 j _ he 0 _ rfl)
          have y1 : wr.cell? ⟨b1, o1 + j * 3 + 1, none⟩ = some (.string y.nm) := (HBr.cell (p := ⟨b1, _, none⟩) l1).trans (q1 j _ he 1 _ rfl)
          have y2 : wr.cell? ⟨b1, o1 + j * 3 + 2, none⟩ = some (.int .i64 y.cm) := (HBr.cell (p := ⟨b1, _, none⟩) l1).trans (q1 j _ he 2 _ rfl)
          simp only [Nat.add_zero] at y0
          obtain ⟨L, hL⟩ : ∃ L, (ks.take j).map knIt = L := ⟨_, rfl⟩
          have hL6 : L.length ≤ 12 := by
            rw [← hL, List.length_map, List.length_take]
            omega
          rw [hL] at HR
          have HLN : Hid ((ks.take (j + 1)).map knIt = L ++ [knIt y]) := Lib.hid (by rw [List.take_add_one, hx, List.map_append, hL]; rfl)
          have hon : wr.ownsRow w6.heap.size 50 2 _ L.length (L.flatMap itC) := HR.out
          clear HR hL hx he q1 hlx
          go_wp2_with (at_builtin; obtain ⟨ti0, hi, hz0, hz1, hz2⟩ := info_parts infoIt; refine wpList_app _ rfl (.tmp 65) (.tmp 68) _ rfl w6.heap.size 50 ti0 _ 2 24 Tryz.underlying29 hi hz0 hz1 hz2 rfl (by decide) _ L.length (L.flatMap itC) rfl ((hon.alloc _).alloc _) _ 1 _ (itC (knIt y)) rfl (rd_newI _ (knIt y) (by simp)) (one1I _) (by unfold maxLen; omega) (by omega) (by simp; omega) ?_; intro v' w' ho' hg' hv'; clear hi hz0 hz1 hz2)
          have HF : Below w6.heap.size w6 w' := ((HBr.alloc HBr.size _).alloc (by simp; omega) _).trans (below_app (by omega) (by simp; omega) ((hon.alloc _).alloc _) hg')
          have HR2 : Hid (RowI w' w6.heap.size v' ((ks.take (j + 1)).map knIt)) := Lib.hid (by rw [HLN.out]; exact RowI.snoc ho')
          clear ho' hg' hv' hon y0 y1 y2
          go_roundw
          case rel => exact ⟨j + 1, by omega, by go_num, HR2, HF⟩
          case measure => simp [intOf]; omega
        · have hjn : j = hl := by omega
          subst hjn
          rw [List.take_of_length_le (by rw [HLE.out]; exact Nat.le_refl _)] at HR
          have HRo := HR.out
          unfold RowI at HRo
          rw [flat_mapI, List.length_map] at HRo
          obtain ⟨A8, c8, rfl, hc8, hm8⟩ := own_shape HRo
          have HRO := Lib.hid HRo
          have HLE2 := HLE
          clear HRo HR hc8 hm8 hlt
          go_wp2_with fail
          go_ret2
          exact ⟨A8, c8, ks, rfl, HP.out.1, HP.out.2, own_base HRO.out hw6, HB6.trans (HBr.mono hw6)⟩
end Go.Proofs.YteokeghenjobaaaGreatDoor
namespace Go.Proofs.YteokeghenjobaaaGreatDoor
open Go.ChangeShapes Go.WideShapes Go.ChangeAt Go.RowKit
attribute [local go_sem ↓] Go.wp_at_zero Go.wp_at_succ
attribute [local go_sem] Oper.semAt_some
def RIn : Value → Option (DataW Int × List MemPlace)
  | .int .i64 n => some (.held n, [])
  | _ => none
theorem RIn_mk (x : Int) : RIn (.int .i64 x) = some (.held x, []) := rfl
theorem RIn_inv {v : Value} {x : Int} {ps : List MemPlace} (h : RIn v = some (.held x, ps)) : v = .int .i64 x := by
  unfold RIn at h
  split at h
  · injection h with h
    injection h with h1 _
    injection h1 with h1
    subst h1
    rfl
  · cases h
def OwnS (w : World) (b n : Nat) (M : List UInt8 → Nat) : Prop :=
  ∃ D : DataW Int, w.ownsMap Tryz.prog 9 RIn b n D ∧ ∀ p, Maps.has D (.string p) = decide (0 < M p) ∧ D.atKey (.string p) (.held 0) = .held (M p : Int)
theorem OwnS.made (w : World) : OwnS (w.alloc (.map #[] 0)) w.heap.size 0 (fun _ => 0) :=
  ⟨.map [], World.ownsMap_made w _ _ _, fun p => ⟨rfl, rfl⟩⟩
theorem OwnS.lt {w : World} {b n : Nat} {M : List UInt8 → Nat} (h : OwnS w b n M) : b < w.heap.size := by
  obtain ⟨D, h, _⟩ := h
  exact h.lt
theorem OwnS.below {w w' : World} {b n : Nat} {M : List UInt8 → Nat} (h : OwnS w b n M) (hb : Below w.heap.size w w') : OwnS w' b n M := by
  obtain ⟨D, h, k⟩ := h
  exact ⟨D, h.kept (row := none) ⟨hb.os, hb.tape, hb.output, hb.size, fun k hk _ => hb.block k hk⟩ (by simp), k⟩
theorem OwnS.alloc_ {w : World} {b n : Nat} {M : List UInt8 → Nat} (h : OwnS w b n M) (o : Obj) : OwnS (w.alloc o) b n M := h.below ((Below.refl _ _).alloc (Nat.le_refl _) _)
theorem lawS : Maps.Keyed Tryz.prog 9 := Maps.string_keyed Tryz.underlying9
theorem zeroI (w : World) : (zeroValue 3).run Tryz.prog w = .ok (.int .i64 0) w := by kernel_rfl
theorem litS (p : ByteArray) (h : p.size ≤ maxLen) : keyOf Tryz.prog 9 (.string p) = some (.string p.data.toList) := Go.WideMaps.keyOf_string_mk Tryz.underlying9 h
section
variable (w : World) {ops : Array Oper} {rest : List Oper} {o : Oper} {a : Act} {Q : Exit → Act → World → Prop}
theorem wpList_lookS (hg : o.guard = none) (m x : Operand) (hop : o.op = Op.lookup 86 m x false) (b n : Nat) (M : List UInt8 → Nat) (hm : a.eval m = .map (some b)) (hown : OwnS w b n M) (p : ByteArray) (hx : a.eval x = .string p) (hp : p.size ≤ maxLen) (y : Nat) (hy : M p.data.toList = y)
    (hK : wpList Tryz.prog ops Q rest (a.put o.dst (.int .i64 (y : Int))) w) : wpList Tryz.prog ops Q (o :: rest) a w := by
  obtain ⟨D, h, k⟩ := hown
  refine wpList_plain hg fun K' hK' => ?_
  obtain ⟨v, ps, hrun, hv⟩ := h.lookup lawS Tryz.underlying86 (zeroI w) (RIn_mk 0) (litS p hp)
  rw [(k _).2, hy] at hv
  obtain rfl := RIn_inv hv
  unfold Oper.wp
  simp [execOp, hop, hm, hx, hrun, Result.andThen]
  exact hK' _ _ hK
theorem wpList_putS (hg : o.guard = none) (m x v : Operand) (hop : o.op = Op.mapUpdate 86 m x v) (b n : Nat) (M : List UInt8 → Nat) (hm : a.eval m = .map (some b)) (hown : OwnS w b n M) (hn : n ≤ 1000000) (p : ByteArray) (hx : a.eval x = .string p) (hp : p.size ≤ maxLen) (y : Nat) (hy : 0 < y) (z : Int) (hz : z = (y : Int)) (hv : a.eval v = .int .i64 z)
    (hK : ∀ w', OwnS w' b (n + 1) (fun q => if q = p.data.toList then y else M q) → w.grownBy w' (some b) → wpList Tryz.prog ops Q rest (a.put o.dst undef) w') : wpList Tryz.prog ops Q (o :: rest) a w := by
  subst hz
  obtain ⟨D, h, k⟩ := hown
  refine wpList_plain hg fun K' hK' => ?_
  obtain ⟨w', hrun, r1, r2⟩ := h.update lawS Tryz.underlying86 (by unfold maxLen; omega) (litS p hp) (RIn_mk (y : Int))
  unfold Oper.wp
  simp [execOp, hop, hm, hx, hv, hrun, Result.andThen]
  refine hK' _ _ (hK w' ⟨_, r1, fun q => ?_⟩ r2)
  show _ = decide (0 < if q = p.data.toList then y else M q) ∧ _ = DataW.held ((if q = p.data.toList then y else M q : Nat) : Int)
  by_cases hq : q = p.data.toList
  · subst hq
    rw [if_pos rfl, decide_eq_true hy]
    exact ⟨Maps.has_put_same h.isMap (by simp [WideAt.IsKeyLit]) _, Maps.atKey_put_same h.isMap (by simp [WideAt.IsKeyLit]) _ _⟩
  · rw [if_neg hq]
    have hne : (Lit.string q) ≠ Lit.string p.data.toList := fun e => hq (by injection e)
    exact ⟨(Maps.has_put_other hne _).trans (k q).1, (Maps.atKey_put_other hne _ _).trans (k q).2⟩
end
theorem Tryz.sortsA (m : Nat) : AnyZ.SortsIn Tryz.prog Tryz.sortedA_ren Fence.wide m :=
  ⟨fun blk off cap ss W hH hblk hsz => callsIn_wide.2 (AnyM.slices_Sort_string Tryz.sortA blk off cap ss W hH hblk hsz),
   fun p cap W => callsIn_wide.2 (AnyM.slices_Sort_string_none Tryz.sortA p cap W)⟩
theorem keys_memS {H : Type} {es : List (Lit × DataW H)} (hk : ∀ p ∈ es, ∃ x, p.1 = Lit.string x) (x : List UInt8) : x ∈ strKeys (.map es) ↔ Maps.has (.map es) (.string x) = true := by
  rw [Maps.has_eq, List.any_eq_true]
  show x ∈ (es.map fun p => strOf p.1) ↔ _
  rw [List.mem_map]
  constructor
  · rintro ⟨p, hp, rfl⟩
    obtain ⟨a, ha⟩ := hk p hp
    refine ⟨p, hp, ?_⟩
    rw [ha]
    simp [Lit.sameKey, strOf]
  · rintro ⟨p, hp, hs⟩
    obtain ⟨a, ha⟩ := hk p hp
    refine ⟨p, hp, ?_⟩
    rw [ha] at hs ⊢
    simpa [Lit.sameKey, strOf] using hs
theorem keys_nodupS {H : Type} {es : List (Lit × DataW H)} (hp : es.Pairwise (fun p q => p.1 ≠ q.1)) (hk : ∀ p ∈ es, ∃ x, p.1 = Lit.string x) : (strKeys (.map es)).Nodup := by
  show (es.map fun p => strOf p.1).Nodup
  refine List.pairwise_map.2 (hp.imp_of_mem fun {p q} h1 h2 hne e => hne ?_)
  obtain ⟨a, ha⟩ := hk p h1
  obtain ⟨c, hc⟩ := hk q h2
  rw [ha, hc] at e ⊢
  exact congrArg _ e
theorem sorted_ltS {ss : List (List UInt8)} (h : ss.Nodup) : (ss.mergeSort (fun x y => decide (x ≤ y))).Pairwise (· < ·) := by
  have h1 : (ss.mergeSort fun x y => decide (x ≤ y)).Pairwise (· ≤ ·) := by
    have h := List.pairwise_mergeSort (le := fun (x y : List UInt8) => decide (x ≤ y)) (fun a b c h1 h2 => decide_eq_true (List.le_trans (of_decide_eq_true h1) (of_decide_eq_true h2))) (fun a b => by rcases List.le_total a b with h | h <;> simp [h]) ss
    exact h.imp (fun h => of_decide_eq_true h)
  have h2 : (ss.mergeSort (fun x y => decide (x ≤ y))).Nodup := ((List.mergeSort_perm ss _).nodup_iff).2 h
  exact (h1.and h2).imp fun {a b} hab => lt_of hab.1 (Ne.symm hab.2)
theorem keysS_any (b : Nat) (w : World) : Calls Tryz.prog 55 #[.map (some b)] w fun e' w' => e' = .returned (.func (.func 89) #[] #[.pointer (some ⟨w.heap.size, 0, none⟩)]) ∧ w' = (w.alloc (.cells #[.map (some b)] 86)) :=
  callsIn_wide.1 (AnyZ.keys_in Tryz.keysA Fence.wide 5 trivial rfl (some b) w)
theorem sortedS_any (b n : Nat) (M : List UInt8 → Nat) (w : World) (hown : OwnS w b n M) (hn : n ≤ 1000000) :
    Calls Tryz.prog 54 #[.func (.func 89) #[] #[.pointer (some ⟨w.heap.size, 0, none⟩)]] (w.alloc (.cells #[.map (some b)] 86)) fun e' w' => ∃ (v : Value) (ks : List (List UInt8)), e' = .returned v ∧ Hid (ks.Pairwise (· < ·) ∧ (∀ p, p ∈ ks ↔ 0 < M p) ∧ ks.length ≤ n ∧ ∀ p ∈ ks, p.length ≤ maxLen) ∧
      w'.ownsRow (w.alloc (.cells #[.map (some b)] 86)).heap.size 9 1 v ks.length (ks.map encStr) ∧ Below (w.alloc (.cells #[.map (some b)] 86)).heap.size (w.alloc (.cells #[.map (some b)] 86)) w' := by
  obtain ⟨D, hD, hM⟩ := hown
  obtain ⟨es, hes, hpw, _⟩ := hD.entries lawS
  obtain ⟨es', hes', hko⟩ := hD.keysOf
  obtain rfl : es = es' := by rw [hes] at hes'; simpa using hes'
  have hk : ∀ p ∈ es, ∃ x, p.1 = Lit.string x := fun p hp => by
    obtain ⟨v, hv⟩ := hko p hp
    obtain ⟨x, _, hx, _⟩ := Maps.keyOf_str Tryz.underlying9 hv
    exact ⟨x, hx⟩
  have hwf := strKeys_le hD Tryz.underlying9
  have hsz := hD.size_le
  have hbl := hD.lt
  have hseq : SeqGives Fence.wide 2 Tryz.prog 89 #[.pointer (some ⟨w.heap.size, 0, none⟩)] encStr (fun ss => ss.Perm (strKeys D)) (Maps.size D) (w.alloc (.cells #[.map (some b)] 86)) :=
    AnyZ.keys_gives (ρ := Tryz.keysA_ren) { Tryz.keysA with } Fence.wide _ trivial rfl (by omega) w.heap.size b n D _ (by simp) (by simp) (by
      obtain ⟨es, clock, hb, Ft, hs, hD⟩ := hD
      exact ⟨es, clock, (Below.heap_alloc _ _ b hbl).trans hb, Ft, hs, hD⟩)
  have cS := AnyZ.sorted_in Tryz.sortedA Fence.wide 5 trivial trivial trivial trivial rfl (by omega) (Tryz.sortsA _) (enters_of Tryz.func57 (by kernel_rfl) rfl) 89 #[.pointer (some ⟨w.heap.size, 0, none⟩)] trivial (enters_of Tryz.func89 (by kernel_rfl) rfl) _ _ (by unfold maxLen; omega) (by omega) _ hseq
  refine (callsIn_wide.1 cS).mono ?_
  rintro e' w' ⟨v, ss, rfl, hS, hrow, _, hb⟩
  have hlen : (ss.mergeSort (fun x y => decide (x ≤ y))).length = ss.length := List.length_mergeSort ss
  subst hes
  have hmem : ∀ p, p ∈ ss.mergeSort (fun x y => decide (x ≤ y)) ↔ p ∈ strKeys (.map es) := fun p => ((List.mergeSort_perm ss _).mem_iff).trans hS.mem_iff
  refine ⟨v, ss.mergeSort (fun x y => decide (x ≤ y)), rfl, Lib.hid ⟨sorted_ltS ((hS.nodup_iff).2 (keys_nodupS hpw hk)), fun p => ?_, ?_, fun p hp => hwf p ((hmem p).1 hp)⟩, ?_, hb⟩
  · rw [hmem p, keys_memS hk, (hM p).1, decide_eq_true_iff]
  · rw [hlen, hS.length_eq]
    show (es.map _).length ≤ n
    rw [List.length_map]
    exact hsz
  · rw [hlen]
    exact hrow
end Go.Proofs.YteokeghenjobaaaGreatDoor
namespace Go.Proofs.YteokeghenjobaaaGreatDoor
open Go.ChangeShapes Go.WideShapes Go.ChangeAt Go.RowKit
attribute [local go_sem ↓] Go.wp_at_zero Go.wp_at_succ
attribute [local go_sem] Oper.semAt_some
theorem OwnS.mono {w : World} {b n m : Nat} {M : List UInt8 → Nat} (h : OwnS w b n M) (hn : n ≤ m) : OwnS w b m M := by
  obtain ⟨D, h, k⟩ := h
  exact ⟨D, h.mono hn, k⟩
def cntT (l : List ByteArray) (x : List UInt8) : Nat := l.countP fun y => decide (y.data.toList = x)
theorem cntT_snoc (l : List ByteArray) (y : ByteArray) : cntT (l ++ [y]) = fun q => if q = y.data.toList then cntT l y.data.toList + 1 else cntT l q := by
  funext q
  unfold cntT
  rw [List.countP_append]
  by_cases h : q = y.data.toList
  · subst h
    simp
  · rw [if_neg h]
    have : ¬ y.data.toList = q := fun e => h e.symm
    simp [this]
theorem cntT_le (l : List ByteArray) (x : List UInt8) : cntT l x ≤ l.length := List.countP_le_length
theorem cntT_pos (l : List ByteArray) (x : List UInt8) : 0 < cntT l x ↔ bOf x ∈ l := by
  unfold cntT
  rw [List.countP_pos_iff]
  constructor
  · rintro ⟨y, hy, h⟩
    have e := of_decide_eq_true h
    have : bOf x = y := data_inj (by rw [bOf_l, e])
    rw [this]
    exact hy
  · intro h
    exact ⟨_, h, decide_eq_true (bOf_l x)⟩
def tagsA (s : Sf) : List ByteArray := s.ts.flatMap fun n => n.tg
def tagIt (s : Sf) (x : List UInt8) : It := ⟨(cntT (tagsA s) x : Int), bOf x⟩
theorem tagsFrom_all : ∀ (l pr : List ByteArray), tagsFrom pr l = true → ∀ t ∈ l, mayN t = true
  | [], _, _, t, ht => by simp at ht
  | x :: l, pr, h, t, ht => by
    unfold tagsFrom at h
    simp only [Bool.and_eq_true] at h
    rcases List.mem_cons.1 ht with rfl | ht
    · exact h.1
    · exact tagsFrom_all l [x] h.2.2 t ht
theorem MayF.tags {s : Sf} (h : MayF s) {n : Nt} (hn : n ∈ s.ts) : ∀ t ∈ n.tg, mayN t = true := by
  have := (h.ts n hn).2.2
  unfold mayNt at this
  simp only [Bool.and_eq_true] at this
  have h2 := this.2.2.2
  unfold mayTg at h2
  simp only [Bool.and_eq_true] at h2
  exact tagsFrom_all _ _ h2.2
theorem flatTake_len {s : Sf} (h : MayF s) (k : Nat) : ((s.ts.take k).flatMap fun n => n.tg).length ≤ 4 * k := by
  have gen : ∀ l : List Nt, (∀ n ∈ l, n.tg.length ≤ 4) → (l.flatMap fun n => n.tg).length ≤ 4 * l.length := by
    intro l
    induction l with
    | nil => intro _; simp
    | cons n l ih =>
      intro hl
      rw [List.flatMap_cons, List.length_append, List.length_cons]
      have h1 := hl n (by simp)
      have h2 := ih (fun m hm => hl m (by simp [hm]))
      omega
  have := gen (s.ts.take k) (fun n hn => (h.note (List.mem_of_mem_take hn)).1)
  rw [List.length_take] at this
  omega
theorem tags_bad (s : Sf) (v : Value) (w : World) (hS : ShR w w.heap.size v s) (hT : Tabs w) (hM : mayS s = false) :
    Calls Tryz.prog 16 #[v] w fun e' w' => e' = .returned (.slice none 0 0) ∧ Below w.heap.size w w' := by
  have hS0 := hS
  obtain ⟨Ab, cb, An, cn, rfl, hB, hN, hcb, hmb, hcn, hmn⟩ := hS.ex
  clear hS
  have HB : Below w.heap.size w (w.alloc (.cells #[.int .i64 s.nb, .int .i64 s.nn, .int .i64 s.ns, .slice Ab s.bs.length cb, .slice An s.ts.length cn] 25)) := ((Below.refl w.heap.size w).alloc (by first | (simp; done) | (simp; omega)) _)
  have B1 : Blk (w.alloc (.cells #[.int .i64 s.nb, .int .i64 s.nn, .int .i64 s.ns, .slice Ab s.bs.length cb, .slice An s.ts.length cn] 25)) w.heap.size 25 #[.int .i64 s.nb, .int .i64 s.nn, .int .i64 s.ns, .slice Ab s.bs.length cb, .slice An s.ts.length cn] := Blk.new_ w 25 #[.int .i64 s.nb, .int .i64 s.nn, .int .i64 s.ns, .slice Ab s.bs.length cb, .slice An s.ts.length cn]
  have S1 : ShR (w.alloc (.cells #[.int .i64 s.nb, .int .i64 s.nn, .int .i64 s.ns, .slice Ab s.bs.length cb, .slice An s.ts.length cn] 25)) ((w.alloc (.cells #[.int .i64 s.nb, .int .i64 s.nn, .int .i64 s.ns, .slice Ab s.bs.length cb, .slice An s.ts.length cn] 25))).heap.size (.agg #[.int .i64 s.nb, .int .i64 s.nn, .int .i64 s.ns, .slice Ab s.bs.length cb, .slice An s.ts.length cn]) s := hS0.next HB
  have T1 := hT.next HB
  have HM := Lib.hid hM
  clear hM hS0 hT hB hN
  go_enter Tryz.func16, Tryz.ntmps16
  go_wp2_with (go_at_call 28; ((with_reducible refine (smay_any s _ _ S1 T1 _ HM.out).mono ?_); rintro e' w3 ⟨rfl, b3⟩; have T1 := T1.next b3; have S1 := S1.next b3; have B1 := B1.below b3 B1.lt; have HB := btr HB HB.size b3; (try clear k0 k1 k2 k3 k4); have k0 := B1.cell_ 0; have k1 := B1.cell_ 1; have k2 := B1.cell_ 2; have k3 := B1.cell_ 3; have k4 := B1.cell_ 4; simp at k0 k1 k2 k3 k4; clear b3))
  go_ret
  exact ⟨rfl, HB⟩
theorem tags_any (s : Sf) (v : Value) (w : World) (hS : ShR w w.heap.size v s) (hT : Tabs w) (hM : mayS s = true) :
    Calls Tryz.prog 16 #[v] w fun e' w' => ∃ (A : Option Addr) (c : Nat) (ks : List (List UInt8)), e' = .returned (.slice A ks.length c) ∧ ks.Pairwise (· < ·) ∧ (∀ p, p ∈ ks ↔ bOf p ∈ tagsA s) ∧ w'.ownsRow w.heap.size 50 2 (.slice A ks.length c) ks.length ((ks.map (tagIt s)).map itC).flatten ∧ Below w.heap.size w w' := by
  have hF := mayF_of hM
  have hS0 := hS
  obtain ⟨Ab, cb, An, cn, rfl, hB, hN, hcb, hmb, hcn, hmn⟩ := hS.ex
  clear hS
  obtain ⟨n, hn⟩ : ∃ n, s.ts.length = n := ⟨_, rfl⟩
  obtain ⟨bn, hbn⟩ : ∃ n, s.bs.length = n := ⟨_, rfl⟩
  have HB : Below w.heap.size w (w.alloc (.cells #[.int .i64 s.nb, .int .i64 s.nn, .int .i64 s.ns, .slice Ab s.bs.length cb, .slice An s.ts.length cn] 25)) := ((Below.refl w.heap.size w).alloc (by first | (simp; done) | (simp; omega)) _)
  have B1 : Blk (w.alloc (.cells #[.int .i64 s.nb, .int .i64 s.nn, .int .i64 s.ns, .slice Ab s.bs.length cb, .slice An s.ts.length cn] 25)) w.heap.size 25 #[.int .i64 s.nb, .int .i64 s.nn, .int .i64 s.ns, .slice Ab s.bs.length cb, .slice An s.ts.length cn] := Blk.new_ w 25 #[.int .i64 s.nb, .int .i64 s.nn, .int .i64 s.ns, .slice Ab s.bs.length cb, .slice An s.ts.length cn]
  have S1 : ShR (w.alloc (.cells #[.int .i64 s.nb, .int .i64 s.nn, .int .i64 s.ns, .slice Ab s.bs.length cb, .slice An s.ts.length cn] 25)) ((w.alloc (.cells #[.int .i64 s.nb, .int .i64 s.nn, .int .i64 s.ns, .slice Ab s.bs.length cb, .slice An s.ts.length cn] 25))).heap.size (.agg #[.int .i64 s.nb, .int .i64 s.nn, .int .i64 s.ns, .slice Ab s.bs.length cb, .slice An s.ts.length cn]) s := hS0.next HB
  have T1 := hT.next HB
  obtain ⟨es, hel, hse, hnt⟩ := hN.ex
  simp only [hn, hbn] at HB B1 S1 T1 hel ⊢
  have hn12 : n ≤ 12 := by have := hF.tl; omega
  have HEL := Lib.hid hel
  have HN := Lib.hid hn
  have HM := Lib.hid hM
  have HFF := Lib.hid hF
  clear hM hn hbn hS0 hT hel hB hF
  have hmm := @run_makeMap Tryz.prog
  go_enter Tryz.func16, Tryz.ntmps16
  go_upto_region 5 with (go_at_call 28; ((with_reducible refine (smay_any s _ _ S1 T1 _ HM.out).mono ?_); rintro e' w3 ⟨rfl, b3⟩; have T1 := T1.next b3; have S1 := S1.next b3; have B1 := B1.below b3 B1.lt; have HB := btr HB HB.size b3; (try clear k0 k1 k2 k3 k4); have k0 := B1.cell_ 0; have k1 := B1.cell_ 1; have k2 := B1.cell_ 2; have k3 := B1.cell_ 3; have k4 := B1.cell_ 4; simp at k0 k1 k2 k3 k4; clear b3; have B1m := B1.alloc_ (.map #[] 0); have m4 := B1m.cell_ 4; simp at m4))
  clear hmm
  have HM0 := OwnS.made w3
  have hal : Below w3.heap.size w3 (w3.alloc (.map #[] 0)) := (Below.refl _ _).alloc (Nat.le_refl _) _
  have HBQ := HB
  have hw3 := HBQ.size
  clear HB B1 S1 T1 k0 k1 k2 k3 k4 m4 B1m
  go_loopw [18] (fun i wr => ∃ k : Nat, k ≤ n ∧ i = .int .i64 k ∧ OwnS wr w3.heap.size (4 * k) (cntT ((s.ts.take k).flatMap fun n => n.tg)) ∧ Below w3.heap.size w3 wr) (fun i _ => n - (intOf i).toNat)
  case atStart => exact ⟨0, by omega, rfl, HM0, hal⟩
  case round =>
    clear HM0 hal
    obtain ⟨k, hk, rfl, hO, HBr⟩ := hrel
    have hgl := hO.lt
    by_cases hlt : k < n
    · have hlx : k < s.ts.length := by have := HN.out; omega
      have i0 : (0 : Int) ≤ (k : Int) := by omega
      have i1 : (k : Int) < (n : Int) := by omega
      obtain ⟨y, hx⟩ : ∃ y, s.ts[k]? = some y := ⟨_, List.getElem?_eq_getElem hlx⟩
      have hmem := List.mem_of_getElem? hx
      have hsm := (HFF.out.note hmem).1
      obtain ⟨e0, he⟩ : ∃ e, es[k]? = some e := ⟨_, List.getElem?_eq_getElem (by have := HEL.out; omega)⟩
      obtain ⟨At, ct, As, cs, rfl, hyt, -⟩ := (hnt k y e0 hx he).ex
      obtain ⟨b1, o1, rfl, l1, q1⟩ := hse.at_ (by have := HEL.out; omega)
      have HBw := btr HBQ HBQ.size HBr
      have y0 : wr.cell? ⟨b1, o1 + k * 5 + 0, none⟩ = some (.int .i64 y.id) := (HBw.cell (p := ⟨b1, _, none⟩) l1).trans (q1 k _ he 0 _ rfl)
      have y1 : wr.cell? ⟨b1, o1 + k * 5 + 1, none⟩ = some (.int .i64 y.bk) := (HBw.cell (p := ⟨b1, _, none⟩) l1).trans (q1 k _ he 1 _ rfl)
      have y2 : wr.cell? ⟨b1, o1 + k * 5 + 2, none⟩ = some (.string y.nm) := (HBw.cell (p := ⟨b1, _, none⟩) l1).trans (q1 k _ he 2 _ rfl)
      have y3 : wr.cell? ⟨b1, o1 + k * 5 + 3, none⟩ = some (.slice At y.tg.length ct) := (HBw.cell (p := ⟨b1, _, none⟩) l1).trans (q1 k _ he 3 _ rfl)
      have y4 : wr.cell? ⟨b1, o1 + k * 5 + 4, none⟩ = some (.slice As y.sh.length cs) := (HBw.cell (p := ⟨b1, _, none⟩) l1).trans (q1 k _ he 4 _ rfl)
      simp only [Nat.add_zero] at y0
      obtain ⟨yt, hyt2⟩ : ∃ n, y.tg.length = n := ⟨_, rfl⟩
      obtain ⟨ys, hys⟩ : ∃ n, y.sh.length = n := ⟨_, rfl⟩
      have HTK : Hid ((s.ts.take (k + 1)).flatMap (fun n => n.tg) = (s.ts.take k).flatMap (fun n => n.tg) ++ y.tg) := Lib.hid (by rw [List.take_add_one, hx, List.flatMap_append]; simp)
      have HTG := Lib.hid (HFF.out.tags hmem)
      have HLP := Lib.hid (flatTake_len HFF.out k)
      rw [hyt2] at y3 hsm
      rw [hys] at y4
      have HYT := Lib.hid hyt2
      obtain ⟨P, hP⟩ : ∃ P, (s.ts.take k).flatMap (fun n => n.tg) = P := ⟨_, rfl⟩
      rw [hP] at hO HTK HLP
      clear hx he q1 hmem hys hyt2 hP hlx
      go_upto_region 8 with fail
      obtain ⟨W, hW⟩ : ∃ V, V = wr.alloc (.cells #[.int .i64 y.id, .int .i64 y.bk, .string y.nm, .slice At yt ct, .slice As ys cs] 54) := ⟨_, rfl⟩
      have hal : Below wr.heap.size wr W := by rw [hW]; exact (Below.refl _ wr).alloc (Nat.le_refl _) _
      have hOW := hO.below hal
      have HBW := HBr.trans (hal.mono HBr.size)
      have hytW := (hyt.below (btr HBQ HBQ.size HBW)).mono_ (btr HBQ HBQ.size HBW).size
      rw [← hW]
      clear hW y0 y1 y2 y3 y4 hO HBr HBw hal hgl
      go_loopw [25] (fun i wx => ∃ j : Nat, j ≤ yt ∧ i = .int .i64 j ∧ OwnS wx w3.heap.size (4 * k + j) (cntT (P ++ y.tg.take j)) ∧ Below w3.heap.size w3 wx) (fun i _ => yt - (intOf i).toNat)
      case atStart => exact ⟨0, by omega, rfl, by rw [List.take_zero, List.append_nil]; exact hOW, HBW⟩
      case round =>
        clear hOW HBW
        obtain ⟨j, hj, rfl, hO, HBr⟩ := hrel
        have hgl := hO.lt
        by_cases hlt2 : j < yt
        · have j0 : (0 : Int) ≤ (j : Int) := by omega
          have j1 : (j : Int) < (yt : Int) := by omega
          have HBw := btr HBQ HBQ.size HBr
          obtain ⟨b2, o2, rfl, l2, q2⟩ := hyt.at_ (by rw [List.length_map]; have := HYT.out; omega)
          obtain ⟨z, hz⟩ : ∃ z, y.tg[j]? = some z := ⟨_, List.getElem?_eq_getElem (by have := HYT.out; omega)⟩
          have cz : wr.cell? ⟨b2, o2 + j, none⟩ = some (.string z) := (HBw.cell (p := ⟨b2, _, none⟩) l2).trans (q2 j _ (by rw [List.getElem?_map, hz]; rfl))
          have hzs : z.size ≤ maxLen := by have := mayN_len (HTG.out z (List.mem_of_getElem? hz)); unfold maxLen; omega
          obtain ⟨m, hm⟩ : ∃ m, cntT (P ++ y.tg.take j) z.data.toList = m := ⟨_, rfl⟩
          have hmb : m ≤ 1000 := by
            rw [← hm]
            have h1 := cntT_le (P ++ y.tg.take j) z.data.toList
            rw [List.length_append, List.length_take] at h1
            have h2 := HLP.out
            omega
          have HCN : Hid (cntT (P ++ y.tg.take (j + 1)) = fun q => if q = z.data.toList then m + 1 else cntT (P ++ y.tg.take j) q) := Lib.hid (by
            rw [List.take_add_one, hz]
            show cntT (P ++ (y.tg.take j ++ [z])) = _
            rw [← List.append_assoc, cntT_snoc, hm])
          have hmw : (m : Int) + 1 = ((m + 1 : Nat) : Int) := by omega
          have HMW := Lib.hid hmw
          have HM2 := Lib.hid hm
          clear hz q2 hm hmw
          go_wp2_with (first | (at_lookup; refine wpList_lookS _ rfl (.tmp 29) (.tmp 30) rfl w3.heap.size (4 * k + j) _ rfl hO z rfl hzs m HM2.out ?_) | (at_mapUpdate; refine wpList_putS _ rfl _ _ _ rfl w3.heap.size (4 * k + j) _ rfl hO (by omega) z rfl hzs (m + 1) (by omega) _ HMW.out rfl ?_; intro w4 ho4 hg4))
          rw [← HCN.out] at ho4
          have HF : Below w3.heap.size w3 w4 := HBr.grown hg4 HBr.size (fun j hj => by have := Option.some.inj hj; omega)
          clear hO hg4 cz
          go_roundw
          case rel => exact ⟨j + 1, by omega, by go_num, ho4, HF⟩
          case measure => simp [intOf]; omega
        · have hjn : j = yt := by omega
          subst hjn
          rw [List.take_of_length_le (by rw [HYT.out]; exact Nat.le_refl _)] at hO
          rw [← HTK.out] at hO
          go_wp2_with fail
          go_roundw
          case rel => exact ⟨k + 1, by omega, by go_num, hO.mono (by omega), HBr⟩
          case measure => simp [intOf]; omega
    · have hjn : k = n := by omega
      subst hjn
      rw [List.take_of_length_le (by rw [HN.out]; exact Nat.le_refl _)] at hO
      clear hlt hnt hse
      have HKA := Lib.hid (keysS_any w3.heap.size wr)
      have HSA := Lib.hid (sortedS_any w3.heap.size (4 * k) (cntT (tagsA s)) wr hO (by omega))
      have hal : Below wr.heap.size wr (wr.alloc (.cells #[.map (some w3.heap.size)] 86)) := (Below.refl _ wr).alloc (Nat.le_refl _) _
      have hOa := hO.below hal
      have HBa := HBr.trans (hal.mono HBr.size)
      have hsa : w3.heap.size ≤ (wr.alloc (.cells #[.map (some w3.heap.size)] 86)).heap.size := HBa.size
      clear hO HBr hgl
      go_upto_region 15 with (first | (go_at_call 55; ((with_reducible refine HKA.out.mono ?_); rintro e' w5 ⟨rfl, rfl⟩)) | (go_at_call 54; ((with_reducible refine HSA.out.mono ?_); rintro e' w6 ⟨v6, ks, rfl, HK, hrow, hb6⟩; obtain ⟨A6, c6, rfl, hc6, hm6⟩ := own_shape hrow)))
      have hO6 := hOa.below hb6
      have hKS := Sl.of_own hrow
      obtain ⟨m, hm⟩ : ∃ m, ks.length = m := ⟨_, rfl⟩
      have hm48 : m ≤ 48 := by have := HK.out.2.2.1; omega
      rw [hm]
      have HMK := Lib.hid hm
      have HB6 := btr (HBQ.trans (HBa.mono hw3)) (HBQ.trans (HBa.mono hw3)).size hb6
      have hw6 := HB6.size
      clear hm hrow hb6 hOa hc6 hm6 HBa hal
      go_loopw [8, 39] (fun sv i wr => ∃ j : Nat, j ≤ m ∧ i = .int .i64 j ∧ Hid (RowI wr w6.heap.size sv ((ks.take j).map (tagIt s))) ∧ Below w6.heap.size w6 wr) (fun _ i _ => m - (intOf i).toNat)
      case atStart => exact ⟨0, by omega, rfl, Lib.hid (World.ownsRow_nil _ _ _ _), Below.refl _ _⟩
      case round =>
        obtain ⟨j, hj, rfl, HR, HBr⟩ := hrel
        have hsz := HBr.size
        by_cases hlt : j < m
        · have hlx : j < ks.length := by have := HMK.out; omega
          have i0 : (0 : Int) ≤ (j : Int) := by omega
          have i1 : (j : Int) < (m : Int) := by omega
          obtain ⟨y, hx⟩ : ∃ y, ks[j]? = some y := ⟨_, List.getElem?_eq_getElem hlx⟩
          obtain ⟨b1, o1, rfl, l1, q1⟩ := hKS.at_ (by rw [List.length_map]; omega)
          have y0 : wr.cell? ⟨b1, o1 + j, none⟩ = some (.string (bOf y)) := (HBr.cell (p := ⟨b1, _, none⟩) l1).trans (q1 j _ (by rw [List.getElem?_map, hx]; rfl))
          have hys : (bOf y).size ≤ maxLen := by rw [bOf_size]; exact HK.out.2.2.2 y (List.mem_of_getElem? hx)
          have hor := hO6.below HBr
          obtain ⟨L, hL⟩ : ∃ L, (ks.take j).map (tagIt s) = L := ⟨_, rfl⟩
          have hL6 : L.length ≤ 48 := by
            rw [← hL, List.length_map, List.length_take]
            omega
          rw [hL] at HR
          have HLN : Hid ((ks.take (j + 1)).map (tagIt s) = L ++ [tagIt s y]) := Lib.hid (by rw [List.take_add_one, hx, List.map_append, hL]; rfl)
          have hon : wr.ownsRow w6.heap.size 50 2 _ L.length (L.flatMap itC) := HR.out
          obtain ⟨cn, hcn⟩ : ∃ c, cntT (tagsA s) y = c := ⟨_, rfl⟩
          have HCN : Hid (cntT (tagsA s) (bOf y).data.toList = cn) := Lib.hid (by rw [bOf_l, hcn])
          have HTI : Hid (tagIt s y = ⟨(cn : Int), bOf y⟩) := Lib.hid (by unfold tagIt; rw [hcn])
          rw [HTI.out] at HLN
          obtain ⟨Y, hY⟩ : ∃ Y, bOf y = Y := ⟨_, rfl⟩
          rw [hY] at y0 hys HCN HLN
          clear HR hL hx q1 hlx hcn hY HTI
          go_wp2_with (first | (at_lookup; refine wpList_lookS _ rfl (.tmp 44) (.tmp 45) rfl w3.heap.size (4 * k) _ rfl hor Y rfl hys cn HCN.out ?_) | (at_builtin; obtain ⟨ti0, hi, hz0, hz1, hz2⟩ := info_parts infoIt; refine wpList_app _ rfl (.tmp 43) (.tmp 49) _ rfl w6.heap.size 50 ti0 _ 2 24 Tryz.underlying29 hi hz0 hz1 hz2 rfl (by decide) _ L.length (L.flatMap itC) rfl (hon.alloc _) _ 1 _ (itC ⟨(cn : Int), Y⟩) rfl (rd_newI _ ⟨(cn : Int), Y⟩ (by simp)) (one1I _) (by unfold maxLen; omega) (by omega) (by simp; omega) ?_; intro v' w' ho' hg' hv'; clear hi hz0 hz1 hz2))
          have HF : Below w6.heap.size w6 w' := (HBr.alloc HBr.size _).trans (below_app (by omega) (by simp; omega) (hon.alloc _) hg')
          have HR2 : Hid (RowI w' w6.heap.size v' ((ks.take (j + 1)).map (tagIt s))) := Lib.hid (by rw [HLN.out]; exact RowI.snoc ho')
          clear ho' hg' hv' hon y0 hor
          go_roundw
          case rel => exact ⟨j + 1, by omega, by go_num, HR2, HF⟩
          case measure => simp [intOf]; omega
        · have hjn : j = m := by omega
          subst hjn
          rw [List.take_of_length_le (by rw [HMK.out]; exact Nat.le_refl _)] at HR
          have HRo := HR.out
          unfold RowI at HRo
          rw [flat_mapI, List.length_map] at HRo
          obtain ⟨A8, c8, rfl, hc8, hm8⟩ := own_shape HRo
          have HRO := Lib.hid HRo
          clear HRo HR hc8 hm8 hlt
          go_wp2_with fail
          go_ret
          exact ⟨A8, c8, ks, rfl, HK.out.1, fun p => (HK.out.2.1 p).trans (cntT_pos _ _), own_base HRO.out hw6, HB6.trans (HBr.mono hw6)⟩
end Go.Proofs.YteokeghenjobaaaGreatDoor
namespace Go.Proofs.YteokeghenjobaaaGreatDoor
open Go.ChangeShapes Go.WideShapes Go.ChangeAt Go.RowKit
attribute [local go_sem ↓] Go.wp_at_zero Go.wp_at_succ
def sA : ByteArray := ⟨#[97]⟩
def sB : ByteArray := ⟨#[98]⟩
def sf0 : Sf := ⟨1, 1, 1, [], []⟩
def sf1 : Sf := makeS sf0 sB
def sf2 : Sf := makeS sf1 sA
theorem may2 : mayS sf2 = true := by decide +kernel
theorem ShR.zero (w : World) : ShR w w.heap.size (.agg #[.int .i64 1, .int .i64 1, .int .i64 1, .slice none 0 0, .slice none 0 0]) sf0 := ⟨none, 0, none, 0, rfl, Or.inl rfl, ⟨[], rfl, Or.inl rfl, fun k n e h => by simp [sf0] at h⟩, by decide, by decide, by decide, by decide⟩
end Go.Proofs.YteokeghenjobaaaGreatDoor
namespace Go.Proofs.YteokeghenjobaaaGreatDoor
open Go.ChangeShapes Go.WideShapes Go.ChangeAt Go.RowKit
attribute [local go_sem ↓] Go.wp_at_zero Go.wp_at_succ
structure DInv {α : Type} (ps : List (α × List Value)) (p : α → Bool) (i j : Nat) (qs : List (α × List Value)) : Prop where
  len : qs.length = ps.length
  tk : qs.take i = (ps.take j).filter (fun x => !p x.1)
  il : i = ((ps.take j).filter (fun x => !p x.1)).length
  dr : qs.drop j = ps.drop j
  lt : i < j
  le : j ≤ ps.length
theorem DInv.start {α : Type} {ps : List (α × List Value)} {p : α → Bool} {k : Nat} {x : α × List Value} (h : (ps.take k).any (fun y => p y.1) = false) (hk : ps[k]? = some x) (hp : p x.1 = true) : DInv ps p k (k + 1) ps := by
  have hlt := (List.getElem?_eq_some_iff.1 hk).1
  have h1 : (ps.take (k + 1)).filter (fun x => !p x.1) = ps.take k := by
    rw [List.take_add_one, hk, List.filter_append]
    have h2 : (ps.take k).filter (fun x => !p x.1) = ps.take k := by
      rw [List.filter_eq_self]
      intro a ha
      have := List.any_eq_false.1 h a ha
      simpa using this
    rw [h2]
    simp [hp]
  exact ⟨rfl, h1.symm, by rw [h1, List.length_take]; omega, rfl, by omega, by omega⟩
theorem DInv.get {α : Type} {ps qs : List (α × List Value)} {p : α → Bool} {i j : Nat} (h : DInv ps p i j qs) {x : α × List Value} (hx : ps[j]? = some x) : qs[j]? = some x := by
  have h1 : (qs.drop j)[0]? = (ps.drop j)[0]? := by rw [h.dr]
  rw [List.getElem?_drop, List.getElem?_drop] at h1
  simpa [hx] using h1
theorem DInv.keep {α : Type} {ps qs : List (α × List Value)} {p : α → Bool} {i j : Nat} (h : DInv ps p i j qs) {x : α × List Value} (hx : ps[j]? = some x) (hp : p x.1 = false) : DInv ps p (i + 1) (j + 1) (qs.set i x) := by
  have hlt := (List.getElem?_eq_some_iff.1 hx).1
  have hl := h.len
  have hij := h.lt
  have h1 : (ps.take (j + 1)).filter (fun x => !p x.1) = (ps.take j).filter (fun x => !p x.1) ++ [x] := filter_yes hx (by simp [hp])
  refine ⟨by rw [List.length_set]; exact hl, ?_, by rw [h1, List.length_append, ← h.il]; rfl, ?_, by omega, by omega⟩
  · rw [h1, ← h.tk, List.take_add_one, List.getElem?_set]
    rw [if_pos rfl, if_pos (by omega), List.take_set_of_le (Nat.le_refl _)]
    rfl
  · rw [List.drop_set_of_lt (by omega), ← List.drop_drop, h.dr, List.drop_drop]
theorem DInv.skip {α : Type} {ps qs : List (α × List Value)} {p : α → Bool} {i j : Nat} (h : DInv ps p i j qs) {x : α × List Value} (hx : ps[j]? = some x) (hp : p x.1 = true) : DInv ps p i (j + 1) qs := by
  have hlt := (List.getElem?_eq_some_iff.1 hx).1
  have h1 : (ps.take (j + 1)).filter (fun x => !p x.1) = (ps.take j).filter (fun x => !p x.1) := filter_no hx (by simp [hp])
  have := h.lt
  exact ⟨h.len, by rw [h1]; exact h.tk, by rw [h1]; exact h.il, by rw [← List.drop_drop, h.dr, List.drop_drop], by omega, by omega⟩
theorem grown_below {w w' : World} {row : Option Nat} (hb : Below w.heap.size w w') : w.grownBy w' row := ⟨hb.os, hb.tape, hb.output, hb.size, fun k hk _ => hb.block k hk⟩
theorem keepC {w w' : World} {g o : Nat} {v : Value} (h : w.cell? ⟨g, o, none⟩ = some v) (hb : Below w.heap.size w w') (hg : g < w.heap.size) : w'.cell? ⟨g, o, none⟩ = some v := (hb.cell (p := ⟨g, o, none⟩) hg).trans h
def st2 (w : World) (g o : Nat) (a0 a1 : Value) : World := World.setCell (World.setCell w ⟨g, o, none⟩ a0) ⟨g, o + 1, none⟩ a1
end Go.Proofs.YteokeghenjobaaaGreatDoor
namespace Go.Proofs.YteokeghenjobaaaGreatDoor
open Go.ChangeShapes Go.WideShapes Go.ChangeAt Go.RowKit
attribute [local go_sem ↓] Go.wp_at_zero Go.wp_at_succ
end Go.Proofs.YteokeghenjobaaaGreatDoor
namespace Go.Proofs.YteokeghenjobaaaGreatDoor
open Go.ChangeShapes Go.WideShapes Go.ChangeAt Go.RowKit
attribute [local go_sem ↓] Go.wp_at_zero Go.wp_at_succ
def dropC (s : Sf) (x : Int) : Int := cond (mayS s) (cond (decide (bookAt s x < 0)) 4 0) 2
def dropS (s : Sf) (x : Int) : Sf := { s with bs := s.bs.filter (fun b => !(b.id == x)), ts := s.ts.filter (fun n => !(n.bk == x)) }
def discC (s : Sf) (x : Int) : Int := cond (mayS s) (cond (decide (noteAt s x < 0)) 4 0) 2
def discS (s : Sf) (x : Int) : Sf := { s with ts := s.ts.filter (fun n => !(n.id == x)) }
end Go.Proofs.YteokeghenjobaaaGreatDoor
namespace Go.Proofs.YteokeghenjobaaaGreatDoor
open Go.ChangeShapes Go.WideShapes Go.ChangeAt Go.RowKit
attribute [local go_sem ↓] Go.wp_at_zero Go.wp_at_succ
theorem below_dr (w : World) : Below w.heap.size w w.drew := below_dn (Below.refl w.heap.size w) 1
theorem sameBooks_yes (L : List Bk) (A B : Option Addr) (c d : Nat) (w : World) (n1 : L.length ≤ 1000000) (h1 : BksIn w w.heap.size A L) (h2 : BksIn w w.heap.size B L) : Calls Tryz.prog 63 #[.slice A L.length c, .slice B L.length d] w fun e' w' => e' = .returned (.bool true) ∧ Below w.heap.size w w' := by
  obtain ⟨n, hn⟩ : ∃ n, L.length = n := ⟨_, rfl⟩
  rw [hn] at n1 ⊢
  have HN := Lib.hid hn
  have H1 := Lib.hid h1
  have H2 := Lib.hid h2
  clear hn h1 h2
  go_enter Tryz.func63, Tryz.ntmps63
  go_wp2_with fail
  go_loopw [5] (fun s5 wr => ∃ k : Nat, k ≤ n ∧ s5 = .int .i64 (k : Int) ∧ Below w.heap.size w wr) (fun s5 _ => n - (intOf s5).toNat)
  case atStart => exact ⟨0, Nat.zero_le _, rfl, Below.refl _ _⟩
  case round =>
    obtain ⟨k, hk, rfl, hB⟩ := hrel
    by_cases hlt : k < n
    · have hlx : k < L.length := by have := HN.out; omega
      obtain ⟨b1, o1, rfl, l1, q1⟩ := (SlE.below H1.out hB).at_ (by rw [List.length_map]; omega)
      obtain ⟨b2, o2, rfl, l2, q2⟩ := (SlE.below H2.out hB).at_ (by rw [List.length_map]; omega)
      obtain ⟨x, hx⟩ : ∃ x, L[k]? = some x := ⟨_, List.getElem?_eq_getElem hlx⟩
      have he : (L.map bkC)[k]? = some (bkC x) := by rw [List.getElem?_map, hx]; rfl
      have x0 := q1 k _ he 0 _ rfl
      have x1 := q1 k _ he 1 _ rfl
      have y0 := q2 k _ he 0 _ rfl
      have y1 := q2 k _ he 1 _ rfl
      simp only [Nat.add_zero] at x0 y0
      clear he
      have k0 : (0 : Int) ≤ (k : Int) := by omega
      have k1 : (k : Int) < (n : Int) := by omega
      clear hx q1 q2 hlx
      go_upto_region 6 with fail
      refine wp_region_noPanic ?_
      refine wp_region_held_drew (S := (fun w_ => w_.cell? ⟨b1, o1 + k * 2, none⟩ = some (.int .i64 x.id) ∧ w_.cell? ⟨b1, o1 + k * 2 + 1, none⟩ = some (.string x.nm) ∧ w_.cell? ⟨b2, o2 + k * 2, none⟩ = some (.int .i64 x.id) ∧ w_.cell? ⟨b2, o2 + k * 2 + 1, none⟩ = some (.string x.nm))) (by kernel_rfl) ?_ (fun hHeld => ?_)
      · (first | exact ⟨x0, x1, y0, y1⟩ | assumption)
      refine tk 0 ?_; try simp only [Act.put, pz1, pz2, pz3]
      refine tk 1 ?_; try simp only [Act.put, pz1, pz2, pz3]
      refine tk 2 ?_; try simp only [Act.put, pz1, pz2, pz3]
      refine tk 3 ?_; try simp only [Act.put, pz1, pz2, pz3]
      refine tk 4 ?_; try simp only [Act.put, pz1, pz2, pz3]
      refine tk 5 ?_; try simp only [Act.put, pz1, pz2, pz3]
      refine tk 6 ?_; try simp only [Act.put, pz1, pz2, pz3]
      refine tk 7 ?_; try simp only [Act.put, pz1, pz2, pz3]
      refine tk 8 ?_; try simp only [Act.put, pz1, pz2, pz3]
      refine wpAnyH_done (by kernel_rfl) ?_ _
      refine NoPanic.normal ?_
      go_wp2_with fail
      go_roundw
      case rel => exact ⟨k + 1, by omega, by go_num, (by first | exact hB | exact drew_below hB)⟩
      case measure => simp [intOf]; omega
    · obtain rfl : k = n := by omega
      go_wp2_with fail
      go_ret
      exact ⟨rfl, hB⟩
theorem sameTexts_yes (L : List ByteArray) (A B : Option Addr) (c d : Nat) (w : World) (n1 : L.length ≤ 1000000) (h1 : Sl w w.heap.size A (L.map strV)) (h2 : Sl w w.heap.size B (L.map strV)) : Calls Tryz.prog 21 #[.slice A L.length c, .slice B L.length d] w fun e' w' => e' = .returned (.bool true) ∧ Below w.heap.size w w' := by
  obtain ⟨n, hn⟩ : ∃ n, L.length = n := ⟨_, rfl⟩
  rw [hn] at n1 ⊢
  have HN := Lib.hid hn
  have H1 := Lib.hid h1
  have H2 := Lib.hid h2
  clear hn h1 h2
  go_enter Tryz.func21, Tryz.ntmps21
  go_wp2_with fail
  go_loopw [5] (fun s5 wr => ∃ k : Nat, k ≤ n ∧ s5 = .int .i64 (k : Int) ∧ Below w.heap.size w wr) (fun s5 _ => n - (intOf s5).toNat)
  case atStart => exact ⟨0, Nat.zero_le _, rfl, Below.refl _ _⟩
  case round =>
    obtain ⟨k, hk, rfl, hB⟩ := hrel
    by_cases hlt : k < n
    · have hlx : k < L.length := by have := HN.out; omega
      obtain ⟨b1, o1, rfl, l1, q1⟩ := (Sl.below H1.out hB).at_ (by rw [List.length_map]; omega)
      obtain ⟨b2, o2, rfl, l2, q2⟩ := (Sl.below H2.out hB).at_ (by rw [List.length_map]; omega)
      obtain ⟨x, hx⟩ : ∃ x, L[k]? = some x := ⟨_, List.getElem?_eq_getElem hlx⟩
      have x0 := q1 k (.string x) (by rw [List.getElem?_map, hx]; rfl)
      have y0 := q2 k (.string x) (by rw [List.getElem?_map, hx]; rfl)
      have k0 : (0 : Int) ≤ (k : Int) := by omega
      have k1 : (k : Int) < (n : Int) := by omega
      clear hx q1 q2 hlx
      go_upto_region 6 with fail
      refine wp_region_noPanic ?_
      refine wp_region_held_drew (S := (fun w_ => w_.cell? ⟨b1, o1 + k, none⟩ = some (.string x) ∧ w_.cell? ⟨b2, o2 + k, none⟩ = some (.string x))) (by kernel_rfl) ?_ (fun hHeld => ?_)
      · (first | exact ⟨x0, y0⟩ | assumption)
      refine tk 0 ?_; try simp only [Act.put, pz1, pz2, pz3]
      refine tk 1 ?_; try simp only [Act.put, pz1, pz2, pz3]
      refine tk 2 ?_; try simp only [Act.put, pz1, pz2, pz3]
      refine tk 3 ?_; try simp only [Act.put, pz1, pz2, pz3]
      refine tk 4 ?_; try simp only [Act.put, pz1, pz2, pz3]
      refine tk 5 ?_; try simp only [Act.put, pz1, pz2, pz3]
      refine tk 6 ?_; try simp only [Act.put, pz1, pz2, pz3]
      refine tk 7 ?_; try simp only [Act.put, pz1, pz2, pz3]
      refine tk 8 ?_; try simp only [Act.put, pz1, pz2, pz3]
      refine wpAnyH_done (by kernel_rfl) ?_ _
      refine NoPanic.normal ?_
      go_wp2_with fail
      go_roundw
      case rel => exact ⟨k + 1, by omega, by go_num, (by first | exact hB | exact drew_below hB)⟩
      case measure => simp [intOf]; omega
    · obtain rfl : k = n := by omega
      go_wp2_with fail
      go_ret
      exact ⟨rfl, hB⟩
theorem sameInts_yes (L : List Int) (A B : Option Addr) (c d : Nat) (w : World) (n1 : L.length ≤ 1000000) (h1 : Sl w w.heap.size A (L.map (Value.int .i64))) (h2 : Sl w w.heap.size B (L.map (Value.int .i64))) : Calls Tryz.prog 92 #[.slice A L.length c, .slice B L.length d] w fun e' w' => e' = .returned (.bool true) ∧ Below w.heap.size w w' := by
  obtain ⟨n, hn⟩ : ∃ n, L.length = n := ⟨_, rfl⟩
  rw [hn] at n1 ⊢
  have HN := Lib.hid hn
  have H1 := Lib.hid h1
  have H2 := Lib.hid h2
  clear hn h1 h2
  go_enter Tryz.func92, Tryz.ntmps92
  go_wp2_with fail
  go_loopw [5] (fun s5 wr => ∃ k : Nat, k ≤ n ∧ s5 = .int .i64 (k : Int) ∧ Below w.heap.size w wr) (fun s5 _ => n - (intOf s5).toNat)
  case atStart => exact ⟨0, Nat.zero_le _, rfl, Below.refl _ _⟩
  case round =>
    obtain ⟨k, hk, rfl, hB⟩ := hrel
    by_cases hlt : k < n
    · have hlx : k < L.length := by have := HN.out; omega
      obtain ⟨b1, o1, rfl, l1, q1⟩ := (Sl.below H1.out hB).at_ (by rw [List.length_map]; omega)
      obtain ⟨b2, o2, rfl, l2, q2⟩ := (Sl.below H2.out hB).at_ (by rw [List.length_map]; omega)
      obtain ⟨x, hx⟩ : ∃ x, L[k]? = some x := ⟨_, List.getElem?_eq_getElem hlx⟩
      have x0 := q1 k (.int .i64 x) (by rw [List.getElem?_map, hx]; rfl)
      have y0 := q2 k (.int .i64 x) (by rw [List.getElem?_map, hx]; rfl)
      have k0 : (0 : Int) ≤ (k : Int) := by omega
      have k1 : (k : Int) < (n : Int) := by omega
      clear hx q1 q2 hlx
      go_upto_region 6 with fail
      refine wp_region_noPanic ?_
      refine wp_region_held_drew (S := (fun w_ => w_.cell? ⟨b1, o1 + k, none⟩ = some (.int .i64 x) ∧ w_.cell? ⟨b2, o2 + k, none⟩ = some (.int .i64 x))) (by kernel_rfl) ?_ (fun hHeld => ?_)
      · (first | exact ⟨x0, y0⟩ | assumption)
      refine tk 0 ?_; try simp only [Act.put, pz1, pz2, pz3]
      refine tk 1 ?_; try simp only [Act.put, pz1, pz2, pz3]
      refine tk 2 ?_; try simp only [Act.put, pz1, pz2, pz3]
      refine tk 3 ?_; try simp only [Act.put, pz1, pz2, pz3]
      refine tk 4 ?_; try simp only [Act.put, pz1, pz2, pz3]
      refine tk 5 ?_; try simp only [Act.put, pz1, pz2, pz3]
      refine tk 6 ?_; try simp only [Act.put, pz1, pz2, pz3]
      refine tk 7 ?_; try simp only [Act.put, pz1, pz2, pz3]
      refine tk 8 ?_; try simp only [Act.put, pz1, pz2, pz3]
      refine wpAnyH_done (by kernel_rfl) ?_ _
      refine NoPanic.normal ?_
      go_wp2_with fail
      go_roundw
      case rel => exact ⟨k + 1, by omega, by go_num, (by first | exact hB | exact drew_below hB)⟩
      case measure => simp [intOf]; omega
    · obtain rfl : k = n := by omega
      go_wp2_with fail
      go_ret
      exact ⟨rfl, hB⟩
theorem sameNote_yes (n : Nt) (A1 A2 A3 A4 : Option Addr) (c1 c2 c3 c4 : Nat) (w : World) (h1 : Sl w w.heap.size A1 (n.tg.map strV)) (h2 : Sl w w.heap.size A2 (n.sh.map (Value.int .i64))) (h3 : Sl w w.heap.size A3 (n.tg.map strV)) (h4 : Sl w w.heap.size A4 (n.sh.map (Value.int .i64))) (m1 : n.tg.length ≤ 100000) (m2 : n.sh.length ≤ 100000) : Calls Tryz.prog 64 #[.agg #[.int .i64 n.id, .int .i64 n.bk, .string n.nm, .slice A1 n.tg.length c1, .slice A2 n.sh.length c2], .agg #[.int .i64 n.id, .int .i64 n.bk, .string n.nm, .slice A3 n.tg.length c3, .slice A4 n.sh.length c4]] w fun e' w' => e' = .returned (.bool true) ∧ Below w.heap.size w w' := by
  have HB : Below w.heap.size w ((w.alloc (.cells #[.int .i64 n.id, .int .i64 n.bk, .string n.nm, .slice A1 n.tg.length c1, .slice A2 n.sh.length c2] 54)).alloc (.cells #[.int .i64 n.id, .int .i64 n.bk, .string n.nm, .slice A3 n.tg.length c3, .slice A4 n.sh.length c4] 54)) := (((Below.refl w.heap.size w).alloc (by first | (simp; done) | (simp; omega)) _).alloc (by first | (simp; done) | (simp; omega)) _)
  have B1 : Blk ((w.alloc (.cells #[.int .i64 n.id, .int .i64 n.bk, .string n.nm, .slice A1 n.tg.length c1, .slice A2 n.sh.length c2] 54)).alloc (.cells #[.int .i64 n.id, .int .i64 n.bk, .string n.nm, .slice A3 n.tg.length c3, .slice A4 n.sh.length c4] 54)) w.heap.size 54 #[.int .i64 n.id, .int .i64 n.bk, .string n.nm, .slice A1 n.tg.length c1, .slice A2 n.sh.length c2] := (Blk.new_ w 54 #[.int .i64 n.id, .int .i64 n.bk, .string n.nm, .slice A1 n.tg.length c1, .slice A2 n.sh.length c2]).alloc_ _
  have B2 : Blk ((w.alloc (.cells #[.int .i64 n.id, .int .i64 n.bk, .string n.nm, .slice A1 n.tg.length c1, .slice A2 n.sh.length c2] 54)).alloc (.cells #[.int .i64 n.id, .int .i64 n.bk, .string n.nm, .slice A3 n.tg.length c3, .slice A4 n.sh.length c4] 54)) (w.heap.size + 1) 54 #[.int .i64 n.id, .int .i64 n.bk, .string n.nm, .slice A3 n.tg.length c3, .slice A4 n.sh.length c4] := by
    have := Blk.new_ (w.alloc (.cells #[.int .i64 n.id, .int .i64 n.bk, .string n.nm, .slice A1 n.tg.length c1, .slice A2 n.sh.length c2] 54)) 54 #[.int .i64 n.id, .int .i64 n.bk, .string n.nm, .slice A3 n.tg.length c3, .slice A4 n.sh.length c4]
    first | (simp; done) | simpa using this
  have S1 := h1.next HB
  have S2 := h2.next HB
  have S3 := h3.next HB
  have S4 := h4.next HB
  clear h1 h2 h3 h4
  go_enter Tryz.func64, Tryz.ntmps64
  go_wp2_with (first | (go_at_call 21; ((with_reducible refine (sameTexts_yes n.tg _ _ _ _ _ (by omega) S1 S3).mono ?_); rintro e' w3 ⟨rfl, bx⟩; have B1 := B1.below bx B1.lt; have B2 := B2.below bx B2.lt; have HB := btr HB HB.size bx; have S2 := S2.next bx; have S4 := S4.next bx; have S1 := S1.next bx; have S3 := S3.next bx; (try clear k0 k1 k2 k3 k4 r0 r1 r2 r3 r4); have k0 := B1.cell_ 0; have r0 := B2.cell_ 0; have k1 := B1.cell_ 1; have r1 := B2.cell_ 1; have k2 := B1.cell_ 2; have r2 := B2.cell_ 2; have k3 := B1.cell_ 3; have r3 := B2.cell_ 3; have k4 := B1.cell_ 4; have r4 := B2.cell_ 4; simp at k0 k1 k2 k3 k4 r0 r1 r2 r3 r4; clear bx)) | (go_at_call 92; ((with_reducible refine (sameInts_yes n.sh _ _ _ _ _ (by omega) S2 S4).mono ?_); rintro e' w4 ⟨rfl, bx⟩; have HB := btr HB HB.size bx)))
  go_ret
  exact ⟨rfl, HB⟩
theorem sameShelf_yes (s : Sf) (v1 v2 : Value) (w : World) (h1 : ShR w w.heap.size v1 s) (h2 : ShR w w.heap.size v2 s) (m0 : s.bs.length ≤ 100000) (m1 : s.ts.length ≤ 100000) (m2 : ∀ n ∈ s.ts, n.tg.length ≤ 100000 ∧ n.sh.length ≤ 100000) : Calls Tryz.prog 27 #[v1, v2] w fun e' w' => e' = .returned (.bool true) ∧ Below w.heap.size w w' := by
  obtain ⟨Ab, cb, An, cn, rfl, hB, hN, hcb, hmb, hcn, hmn⟩ := h1.ex
  obtain ⟨Ab2, cb2, An2, cn2, rfl, hB2, hN2, hcb2, hmb2, hcn2, hmn2⟩ := h2.ex
  obtain ⟨es, hel, hse, hnt⟩ := hN.ex
  obtain ⟨es2, hel2, hse2, hnt2⟩ := hN2.ex
  have HB : Below w.heap.size w ((w.alloc (.cells #[.int .i64 s.nb, .int .i64 s.nn, .int .i64 s.ns, .slice Ab s.bs.length cb, .slice An s.ts.length cn] 25)).alloc (.cells #[.int .i64 s.nb, .int .i64 s.nn, .int .i64 s.ns, .slice Ab2 s.bs.length cb2, .slice An2 s.ts.length cn2] 25)) := (((Below.refl w.heap.size w).alloc (by first | (simp; done) | (simp; omega)) _).alloc (by first | (simp; done) | (simp; omega)) _)
  have B1 : Blk ((w.alloc (.cells #[.int .i64 s.nb, .int .i64 s.nn, .int .i64 s.ns, .slice Ab s.bs.length cb, .slice An s.ts.length cn] 25)).alloc (.cells #[.int .i64 s.nb, .int .i64 s.nn, .int .i64 s.ns, .slice Ab2 s.bs.length cb2, .slice An2 s.ts.length cn2] 25)) w.heap.size 25 #[.int .i64 s.nb, .int .i64 s.nn, .int .i64 s.ns, .slice Ab s.bs.length cb, .slice An s.ts.length cn] := (Blk.new_ w 25 #[.int .i64 s.nb, .int .i64 s.nn, .int .i64 s.ns, .slice Ab s.bs.length cb, .slice An s.ts.length cn]).alloc_ _
  have B2 : Blk ((w.alloc (.cells #[.int .i64 s.nb, .int .i64 s.nn, .int .i64 s.ns, .slice Ab s.bs.length cb, .slice An s.ts.length cn] 25)).alloc (.cells #[.int .i64 s.nb, .int .i64 s.nn, .int .i64 s.ns, .slice Ab2 s.bs.length cb2, .slice An2 s.ts.length cn2] 25)) (w.heap.size + 1) 25 #[.int .i64 s.nb, .int .i64 s.nn, .int .i64 s.ns, .slice Ab2 s.bs.length cb2, .slice An2 s.ts.length cn2] := by
    have := Blk.new_ (w.alloc (.cells #[.int .i64 s.nb, .int .i64 s.nn, .int .i64 s.ns, .slice Ab s.bs.length cb, .slice An s.ts.length cn] 25)) 25 #[.int .i64 s.nb, .int .i64 s.nn, .int .i64 s.ns, .slice Ab2 s.bs.length cb2, .slice An2 s.ts.length cn2]
    first | (simp; done) | simpa using this
  have R1 : BksIn ((w.alloc (.cells #[.int .i64 s.nb, .int .i64 s.nn, .int .i64 s.ns, .slice Ab s.bs.length cb, .slice An s.ts.length cn] 25)).alloc (.cells #[.int .i64 s.nb, .int .i64 s.nn, .int .i64 s.ns, .slice Ab2 s.bs.length cb2, .slice An2 s.ts.length cn2] 25)) (((w.alloc (.cells #[.int .i64 s.nb, .int .i64 s.nn, .int .i64 s.ns, .slice Ab s.bs.length cb, .slice An s.ts.length cn] 25)).alloc (.cells #[.int .i64 s.nb, .int .i64 s.nn, .int .i64 s.ns, .slice Ab2 s.bs.length cb2, .slice An2 s.ts.length cn2] 25))).heap.size Ab s.bs := SlE.next hB HB
  have R2 : BksIn ((w.alloc (.cells #[.int .i64 s.nb, .int .i64 s.nn, .int .i64 s.ns, .slice Ab s.bs.length cb, .slice An s.ts.length cn] 25)).alloc (.cells #[.int .i64 s.nb, .int .i64 s.nn, .int .i64 s.ns, .slice Ab2 s.bs.length cb2, .slice An2 s.ts.length cn2] 25)) (((w.alloc (.cells #[.int .i64 s.nb, .int .i64 s.nn, .int .i64 s.ns, .slice Ab s.bs.length cb, .slice An s.ts.length cn] 25)).alloc (.cells #[.int .i64 s.nb, .int .i64 s.nn, .int .i64 s.ns, .slice Ab2 s.bs.length cb2, .slice An2 s.ts.length cn2] 25))).heap.size Ab2 s.bs := SlE.next hB2 HB
  have HM := Lib.hid m2
  have HEL := Lib.hid hel
  have HEL2 := Lib.hid hel2
  have HNT := Lib.hid hnt
  have HNT2 := Lib.hid hnt2
  clear h1 h2 hN hN2 hB hB2 hcb hmb hcn hmn hcb2 hmb2 hcn2 hmn2 m2 hel hel2 hnt hnt2
  go_enter Tryz.func27, Tryz.ntmps27
  go_wp2_with (go_at_call 63; ((with_reducible refine (sameBooks_yes s.bs _ _ _ _ _ (by omega) R1 R2).mono ?_); rintro e' w3 ⟨rfl, bx⟩; have B1 := B1.below bx B1.lt; have B2 := B2.below bx B2.lt; have HB := btr HB HB.size bx; (try clear k0 k1 k2 k3 k4 r0 r1 r2 r3 r4); have k0 := B1.cell_ 0; have r0 := B2.cell_ 0; have k1 := B1.cell_ 1; have r1 := B2.cell_ 1; have k2 := B1.cell_ 2; have r2 := B2.cell_ 2; have k3 := B1.cell_ 3; have r3 := B2.cell_ 3; have k4 := B1.cell_ 4; have r4 := B2.cell_ 4; simp at k0 k1 k2 k3 k4 r0 r1 r2 r3 r4; clear bx))
  go_loopw [5] (fun s5 wr => ∃ k : Nat, k ≤ s.ts.length ∧ s5 = .int .i64 (k : Int) ∧ Below w3.heap.size w3 wr) (fun s5 _ => s.ts.length - (intOf s5).toNat)
  case atStart => exact ⟨0, Nat.zero_le _, rfl, Below.refl _ _⟩
  case round =>
    obtain ⟨k, hk, rfl, hbr⟩ := hrel
    have HBr := btr HB HB.size hbr
    have C1 := B1.below hbr B1.lt
    have C2 := B2.below hbr B2.lt
    clear k0 k1 k2 k3 k4 r0 r1 r2 r3 r4 B1 B2 HB R1 R2
    have k4 := C1.cell_ 4
    have r4 := C2.cell_ 4
    simp at k4 r4
    by_cases hlt : k < s.ts.length
    · obtain ⟨n, hn⟩ : ∃ n, s.ts[k]? = some n := ⟨_, List.getElem?_eq_getElem hlt⟩
      obtain ⟨e1, he1⟩ : ∃ e, es[k]? = some e := ⟨_, List.getElem?_eq_getElem (by have := HEL.out; omega)⟩
      obtain ⟨e2, he2⟩ : ∃ e, es2[k]? = some e := ⟨_, List.getElem?_eq_getElem (by have := HEL2.out; omega)⟩
      obtain ⟨A1, c1, A2, c2, rfl, p1, p2, -⟩ := (HNT.out k n e1 hn he1).ex
      obtain ⟨A3, c3, A4, c4, rfl, p3, p4, -⟩ := (HNT2.out k n e2 hn he2).ex
      obtain ⟨b1, o1, rfl, l1, q1⟩ := hse.at_ (by have := HEL.out; omega)
      obtain ⟨b2, o2, rfl, l2, q2⟩ := hse2.at_ (by have := HEL2.out; omega)
      have x0 : wr.cell? ⟨b1, o1 + k * 5 + 0, none⟩ = some (.int .i64 n.id) := (HBr.cell (p := ⟨b1, _, none⟩) l1).trans (q1 k _ he1 0 _ rfl)
      have x1 : wr.cell? ⟨b1, o1 + k * 5 + 1, none⟩ = some (.int .i64 n.bk) := (HBr.cell (p := ⟨b1, _, none⟩) l1).trans (q1 k _ he1 1 _ rfl)
      have x2 : wr.cell? ⟨b1, o1 + k * 5 + 2, none⟩ = some (.string n.nm) := (HBr.cell (p := ⟨b1, _, none⟩) l1).trans (q1 k _ he1 2 _ rfl)
      have x3 : wr.cell? ⟨b1, o1 + k * 5 + 3, none⟩ = some (.slice A1 n.tg.length c1) := (HBr.cell (p := ⟨b1, _, none⟩) l1).trans (q1 k _ he1 3 _ rfl)
      have x4 : wr.cell? ⟨b1, o1 + k * 5 + 4, none⟩ = some (.slice A2 n.sh.length c2) := (HBr.cell (p := ⟨b1, _, none⟩) l1).trans (q1 k _ he1 4 _ rfl)
      have y0 : wr.cell? ⟨b2, o2 + k * 5 + 0, none⟩ = some (.int .i64 n.id) := (HBr.cell (p := ⟨b2, _, none⟩) l2).trans (q2 k _ he2 0 _ rfl)
      have y1 : wr.cell? ⟨b2, o2 + k * 5 + 1, none⟩ = some (.int .i64 n.bk) := (HBr.cell (p := ⟨b2, _, none⟩) l2).trans (q2 k _ he2 1 _ rfl)
      have y2 : wr.cell? ⟨b2, o2 + k * 5 + 2, none⟩ = some (.string n.nm) := (HBr.cell (p := ⟨b2, _, none⟩) l2).trans (q2 k _ he2 2 _ rfl)
      have y3 : wr.cell? ⟨b2, o2 + k * 5 + 3, none⟩ = some (.slice A3 n.tg.length c3) := (HBr.cell (p := ⟨b2, _, none⟩) l2).trans (q2 k _ he2 3 _ rfl)
      have y4 : wr.cell? ⟨b2, o2 + k * 5 + 4, none⟩ = some (.slice A4 n.sh.length c4) := (HBr.cell (p := ⟨b2, _, none⟩) l2).trans (q2 k _ he2 4 _ rfl)
      simp only [Nat.add_zero] at x0 y0
      have hm := HM.out n (List.mem_of_getElem? hn)
      have hm1 := hm.1
      have hm2 := hm.2
      have k0 : (0 : Int) ≤ (k : Int) := by omega
      have k1 : (k : Int) < (s.ts.length : Int) := by omega
      have D := below_dr wr
      have P1 := (((p1.below HBr).mono_ HBr.size).next D)
      have P2 := (((p2.below HBr).mono_ HBr.size).next D)
      have P3 := (((p3.below HBr).mono_ HBr.size).next D)
      have P4 := (((p4.below HBr).mono_ HBr.size).next D)
      have HBd := btr HBr HBr.size D
      have hbd := btr hbr hbr.size D
      clear hn he1 he2 q1 q2 hm p1 p2 p3 p4 D
      go_upto_region 6 with fail
      go_still_tail 10, (by kernel_rfl)
      change wpList _ _ _ _ _ wr.drew
      obtain ⟨wd, hwd⟩ : ∃ V : World, V = wr.drew := ⟨_, rfl⟩
      rw [← hwd] at P1 P2 P3 P4 HBd hbd ⊢
      clear hwd
      go_wp2_with (go_at_call 64; ((with_reducible refine (sameNote_yes n _ _ _ _ _ _ _ _ _ P1 P2 P3 P4 hm1 hm2).mono ?_); rintro e' w5 ⟨rfl, bx⟩; have hbe := btr hbd hbd.size bx; clear bx))
      go_roundw
      case rel => exact ⟨k + 1, by omega, by go_num, hbe⟩
      case measure => simp [intOf]; omega
    · obtain rfl : k = s.ts.length := by omega
      go_wp2_with fail
      go_ret
      exact ⟨rfl, HBr⟩
end Go.Proofs.YteokeghenjobaaaGreatDoor
namespace Go.Proofs.YteokeghenjobaaaGreatDoor
open Go.ChangeShapes Go.WideShapes Go.ChangeAt Go.RowKit
attribute [local go_sem ↓] Go.wp_at_zero Go.wp_at_succ
attribute [local go_sem] Oper.semAt_some
theorem own_lit (w : World) (cs : Array Value) (t : TypeId) (C n base : Nat) (hb : base ≤ w.heap.size) (hn : cs.size = n * C) (hm : n ≤ maxLen) : (w.alloc (.cells cs t)).ownsRow base t C (.slice (some ⟨w.heap.size, 0, none⟩) n n) n cs.toList := by
  refine ⟨by rw [Array.length_toList]; exact hn, Or.inr ⟨w.heap.size, n, cs, rfl, hb, heap_alloc_new w _, Nat.le_refl _, hm, hn, ?_⟩⟩
  rw [← hn, ← Array.length_toList, List.take_length]
theorem lit_slE (w : World) (cs : Array Value) (t : TypeId) (C n : Nat) (es : List (List Value)) (h : cs.toList = es.flatten) (hC : ∀ x ∈ es, x.length = C) (hl : es.length = n) (hm : n ≤ maxLen) (h0 : 0 < C) : SlE C (w.alloc (.cells cs t)) (w.alloc (.cells cs t)).heap.size (some ⟨w.heap.size, 0, none⟩) es := by
  have hsz : cs.size = n * C := by rw [← Array.length_toList, h, flat_lenE es hC, hl]
  have ho := own_lit w cs t C n 0 (Nat.zero_le _) hsz hm
  rw [h] at ho
  exact sle_of_own ho hC h0
theorem lit_sl (w : World) (cs : Array Value) (t : TypeId) (n : Nat) (vs : List Value) (h : cs.toList = vs) (hl : vs.length = n) (hm : n ≤ maxLen) : Sl (w.alloc (.cells cs t)) (w.alloc (.cells cs t)).heap.size (some ⟨w.heap.size, 0, none⟩) vs := by
  have hsz : cs.size = n * 1 := by rw [← Array.length_toList, h, hl, Nat.mul_one]
  have ho := own_lit w cs t 1 n 0 (Nat.zero_le _) hsz hm
  rw [h] at ho
  exact Sl.of_own ho
def nX : ByteArray := ⟨#[120]⟩
def nY : ByteArray := ⟨#[121]⟩
def nNot : ByteArray := ⟨#[110, 111, 116]⟩
def nToBe : ByteArray := ⟨#[116, 111, 32, 98, 101]⟩
def nB : ByteArray := ⟨#[98]⟩
def t1N : Nt := ⟨1, 1, nToBe, [nX], []⟩
def t2N : Nt := ⟨2, 1, nNot, [nX, nY], []⟩
def sT : Sf := ⟨2, 3, 1, [⟨1, nB⟩], [t1N, t2N]⟩
theorem mayT : mayS sT = true := by decide +kernel
theorem two_any (w : World) : Calls Tryz.prog 34 #[] w fun e' w' => ∃ v', e' = .returned v' ∧ ShR w' w'.heap.size v' sT ∧ Below w.heap.size w w' := by
  have B2 := Blk.new_ w 25 #[.int .i64 2, .int .i64 3, .int .i64 1, .slice (some ⟨w.heap.size + 1, 0, none⟩) 1 1, .slice (some ⟨w.heap.size + 1 + 1 + 1 + 1, 0, none⟩) 2 2]
  have oB := own_lit (w.alloc (.cells #[.int .i64 2, .int .i64 3, .int .i64 1, .slice (some ⟨w.heap.size + 1, 0, none⟩) 1 1, .slice (some ⟨w.heap.size + 1 + 1 + 1 + 1, 0, none⟩) 2 2] 25)) #[.int .i64 1, .string ⟨#[98]⟩] 60 2 1 (w.heap.size + 1) (by simp) rfl (by decide)
  have o1 := own_lit ((w.alloc (.cells #[.int .i64 2, .int .i64 3, .int .i64 1, .slice (some ⟨w.heap.size + 1, 0, none⟩) 1 1, .slice (some ⟨w.heap.size + 1 + 1 + 1 + 1, 0, none⟩) 2 2] 25)).alloc (.cells #[.int .i64 1, .string ⟨#[98]⟩] 60)) #[.string ⟨#[120]⟩] 9 1 1 (w.heap.size + 1) (by simp) rfl (by decide)
  have o2 := own_lit (((w.alloc (.cells #[.int .i64 2, .int .i64 3, .int .i64 1, .slice (some ⟨w.heap.size + 1, 0, none⟩) 1 1, .slice (some ⟨w.heap.size + 1 + 1 + 1 + 1, 0, none⟩) 2 2] 25)).alloc (.cells #[.int .i64 1, .string ⟨#[98]⟩] 60)).alloc (.cells #[.string ⟨#[120]⟩] 9)) #[.string ⟨#[120]⟩, .string ⟨#[121]⟩] 9 1 2 (w.heap.size + 1) (by first | (simp; done) | (simp; omega)) rfl (by decide)
  have oN := own_lit ((((w.alloc (.cells #[.int .i64 2, .int .i64 3, .int .i64 1, .slice (some ⟨w.heap.size + 1, 0, none⟩) 1 1, .slice (some ⟨w.heap.size + 1 + 1 + 1 + 1, 0, none⟩) 2 2] 25)).alloc (.cells #[.int .i64 1, .string ⟨#[98]⟩] 60)).alloc (.cells #[.string ⟨#[120]⟩] 9)).alloc (.cells #[.string ⟨#[120]⟩, .string ⟨#[121]⟩] 9)) #[.int .i64 1, .int .i64 1, .string ⟨#[116, 111, 32, 98, 101]⟩, .slice (some ⟨w.heap.size + 1 + 1, 0, none⟩) 1 1, .slice none 0 0, .int .i64 2, .int .i64 1, .string ⟨#[110, 111, 116]⟩, .slice (some ⟨w.heap.size + 1 + 1 + 1, 0, none⟩) 2 2, .slice none 0 0] 54 5 2 (w.heap.size + 1) (by first | (simp; done) | (simp; omega)) rfl (by decide)
  simp only [World.size_alloc] at oB o1 o2 oN
  have a1 : Below (((w.alloc (.cells #[.int .i64 2, .int .i64 3, .int .i64 1, .slice (some ⟨w.heap.size + 1, 0, none⟩) 1 1, .slice (some ⟨w.heap.size + 1 + 1 + 1 + 1, 0, none⟩) 2 2] 25)).alloc (.cells #[.int .i64 1, .string ⟨#[98]⟩] 60))).heap.size ((w.alloc (.cells #[.int .i64 2, .int .i64 3, .int .i64 1, .slice (some ⟨w.heap.size + 1, 0, none⟩) 1 1, .slice (some ⟨w.heap.size + 1 + 1 + 1 + 1, 0, none⟩) 2 2] 25)).alloc (.cells #[.int .i64 1, .string ⟨#[98]⟩] 60)) (((w.alloc (.cells #[.int .i64 2, .int .i64 3, .int .i64 1, .slice (some ⟨w.heap.size + 1, 0, none⟩) 1 1, .slice (some ⟨w.heap.size + 1 + 1 + 1 + 1, 0, none⟩) 2 2] 25)).alloc (.cells #[.int .i64 1, .string ⟨#[98]⟩] 60)).alloc (.cells #[.string ⟨#[120]⟩] 9)) := (Below.refl _ _).alloc (Nat.le_refl _) _
  have a2 : Below ((((w.alloc (.cells #[.int .i64 2, .int .i64 3, .int .i64 1, .slice (some ⟨w.heap.size + 1, 0, none⟩) 1 1, .slice (some ⟨w.heap.size + 1 + 1 + 1 + 1, 0, none⟩) 2 2] 25)).alloc (.cells #[.int .i64 1, .string ⟨#[98]⟩] 60)).alloc (.cells #[.string ⟨#[120]⟩] 9))).heap.size (((w.alloc (.cells #[.int .i64 2, .int .i64 3, .int .i64 1, .slice (some ⟨w.heap.size + 1, 0, none⟩) 1 1, .slice (some ⟨w.heap.size + 1 + 1 + 1 + 1, 0, none⟩) 2 2] 25)).alloc (.cells #[.int .i64 1, .string ⟨#[98]⟩] 60)).alloc (.cells #[.string ⟨#[120]⟩] 9)) ((((w.alloc (.cells #[.int .i64 2, .int .i64 3, .int .i64 1, .slice (some ⟨w.heap.size + 1, 0, none⟩) 1 1, .slice (some ⟨w.heap.size + 1 + 1 + 1 + 1, 0, none⟩) 2 2] 25)).alloc (.cells #[.int .i64 1, .string ⟨#[98]⟩] 60)).alloc (.cells #[.string ⟨#[120]⟩] 9)).alloc (.cells #[.string ⟨#[120]⟩, .string ⟨#[121]⟩] 9)) := (Below.refl _ _).alloc (Nat.le_refl _) _
  have a3 : Below (((((w.alloc (.cells #[.int .i64 2, .int .i64 3, .int .i64 1, .slice (some ⟨w.heap.size + 1, 0, none⟩) 1 1, .slice (some ⟨w.heap.size + 1 + 1 + 1 + 1, 0, none⟩) 2 2] 25)).alloc (.cells #[.int .i64 1, .string ⟨#[98]⟩] 60)).alloc (.cells #[.string ⟨#[120]⟩] 9)).alloc (.cells #[.string ⟨#[120]⟩, .string ⟨#[121]⟩] 9))).heap.size ((((w.alloc (.cells #[.int .i64 2, .int .i64 3, .int .i64 1, .slice (some ⟨w.heap.size + 1, 0, none⟩) 1 1, .slice (some ⟨w.heap.size + 1 + 1 + 1 + 1, 0, none⟩) 2 2] 25)).alloc (.cells #[.int .i64 1, .string ⟨#[98]⟩] 60)).alloc (.cells #[.string ⟨#[120]⟩] 9)).alloc (.cells #[.string ⟨#[120]⟩, .string ⟨#[121]⟩] 9)) (((((w.alloc (.cells #[.int .i64 2, .int .i64 3, .int .i64 1, .slice (some ⟨w.heap.size + 1, 0, none⟩) 1 1, .slice (some ⟨w.heap.size + 1 + 1 + 1 + 1, 0, none⟩) 2 2] 25)).alloc (.cells #[.int .i64 1, .string ⟨#[98]⟩] 60)).alloc (.cells #[.string ⟨#[120]⟩] 9)).alloc (.cells #[.string ⟨#[120]⟩, .string ⟨#[121]⟩] 9)).alloc (.cells #[.int .i64 1, .int .i64 1, .string ⟨#[116, 111, 32, 98, 101]⟩, .slice (some ⟨w.heap.size + 1 + 1, 0, none⟩) 1 1, .slice none 0 0, .int .i64 2, .int .i64 1, .string ⟨#[110, 111, 116]⟩, .slice (some ⟨w.heap.size + 1 + 1 + 1, 0, none⟩) 2 2, .slice none 0 0] 54)) := (Below.refl _ _).alloc (Nat.le_refl _) _
  have HBE : Below w.heap.size w (((((w.alloc (.cells #[.int .i64 2, .int .i64 3, .int .i64 1, .slice (some ⟨w.heap.size + 1, 0, none⟩) 1 1, .slice (some ⟨w.heap.size + 1 + 1 + 1 + 1, 0, none⟩) 2 2] 25)).alloc (.cells #[.int .i64 1, .string ⟨#[98]⟩] 60)).alloc (.cells #[.string ⟨#[120]⟩] 9)).alloc (.cells #[.string ⟨#[120]⟩, .string ⟨#[121]⟩] 9)).alloc (.cells #[.int .i64 1, .int .i64 1, .string ⟨#[116, 111, 32, 98, 101]⟩, .slice (some ⟨w.heap.size + 1 + 1, 0, none⟩) 1 1, .slice none 0 0, .int .i64 2, .int .i64 1, .string ⟨#[110, 111, 116]⟩, .slice (some ⟨w.heap.size + 1 + 1 + 1, 0, none⟩) 2 2, .slice none 0 0] 54)) := ((((((Below.refl _ w).alloc (Nat.le_refl _) _).alloc (by simp) _).alloc (by first | (simp; done) | (simp; omega)) _).alloc (by first | (simp; done) | (simp; omega)) _).alloc (by first | (simp; done) | (simp; omega)) _)
  have oBE := own_belowW (own_belowW (own_belowW oB a1) a2) a3
  have o1E := own_belowW (own_belowW o1 a2) a3
  have o2E := own_belowW o2 a3
  have B2E := (((B2.alloc_ (.cells #[.int .i64 1, .string ⟨#[98]⟩] 60)).alloc_ (.cells #[.string ⟨#[120]⟩] 9)).alloc_ (.cells #[.string ⟨#[120]⟩, .string ⟨#[121]⟩] 9)).alloc_ (.cells #[.int .i64 1, .int .i64 1, .string ⟨#[116, 111, 32, 98, 101]⟩, .slice (some ⟨w.heap.size + 1 + 1, 0, none⟩) 1 1, .slice none 0 0, .int .i64 2, .int .i64 1, .string ⟨#[110, 111, 116]⟩, .slice (some ⟨w.heap.size + 1 + 1 + 1, 0, none⟩) 2 2, .slice none 0 0] 54)
  have f0 := B2E.free 0
  have f1 := B2E.free 1
  have f2 := B2E.free 2
  have f3 := B2E.free 3
  have f4 := B2E.free 4
  obtain ⟨c0, c1, c2, c3, c4⟩ := cell5 B2E
  have hsE : ((((((w.alloc (.cells #[.int .i64 2, .int .i64 3, .int .i64 1, .slice (some ⟨w.heap.size + 1, 0, none⟩) 1 1, .slice (some ⟨w.heap.size + 1 + 1 + 1 + 1, 0, none⟩) 2 2] 25)).alloc (.cells #[.int .i64 1, .string ⟨#[98]⟩] 60)).alloc (.cells #[.string ⟨#[120]⟩] 9)).alloc (.cells #[.string ⟨#[120]⟩, .string ⟨#[121]⟩] 9)).alloc (.cells #[.int .i64 1, .int .i64 1, .string ⟨#[116, 111, 32, 98, 101]⟩, .slice (some ⟨w.heap.size + 1 + 1, 0, none⟩) 1 1, .slice none 0 0, .int .i64 2, .int .i64 1, .string ⟨#[110, 111, 116]⟩, .slice (some ⟨w.heap.size + 1 + 1 + 1, 0, none⟩) 2 2, .slice none 0 0] 54))).heap.size = w.heap.size + 5 := by simp
  have BKE : BksW (((((w.alloc (.cells #[.int .i64 2, .int .i64 3, .int .i64 1, .slice (some ⟨w.heap.size + 1, 0, none⟩) 1 1, .slice (some ⟨w.heap.size + 1 + 1 + 1 + 1, 0, none⟩) 2 2] 25)).alloc (.cells #[.int .i64 1, .string ⟨#[98]⟩] 60)).alloc (.cells #[.string ⟨#[120]⟩] 9)).alloc (.cells #[.string ⟨#[120]⟩, .string ⟨#[121]⟩] 9)).alloc (.cells #[.int .i64 1, .int .i64 1, .string ⟨#[116, 111, 32, 98, 101]⟩, .slice (some ⟨w.heap.size + 1 + 1, 0, none⟩) 1 1, .slice none 0 0, .int .i64 2, .int .i64 1, .string ⟨#[110, 111, 116]⟩, .slice (some ⟨w.heap.size + 1 + 1 + 1, 0, none⟩) 2 2, .slice none 0 0] 54)) (w.heap.size + 1) (.slice (some ⟨w.heap.size + 1, 0, none⟩) 1 1) sT.bs := oBE
  have NTE : NtsW (((((w.alloc (.cells #[.int .i64 2, .int .i64 3, .int .i64 1, .slice (some ⟨w.heap.size + 1, 0, none⟩) 1 1, .slice (some ⟨w.heap.size + 1 + 1 + 1 + 1, 0, none⟩) 2 2] 25)).alloc (.cells #[.int .i64 1, .string ⟨#[98]⟩] 60)).alloc (.cells #[.string ⟨#[120]⟩] 9)).alloc (.cells #[.string ⟨#[120]⟩, .string ⟨#[121]⟩] 9)).alloc (.cells #[.int .i64 1, .int .i64 1, .string ⟨#[116, 111, 32, 98, 101]⟩, .slice (some ⟨w.heap.size + 1 + 1, 0, none⟩) 1 1, .slice none 0 0, .int .i64 2, .int .i64 1, .string ⟨#[110, 111, 116]⟩, .slice (some ⟨w.heap.size + 1 + 1 + 1, 0, none⟩) 2 2, .slice none 0 0] 54)) (w.heap.size + 1) (.slice (some ⟨w.heap.size + 1 + 1 + 1 + 1, 0, none⟩) 2 2) sT.ts := by
    refine ⟨[ntC t1N (.slice (some ⟨w.heap.size + 1 + 1, 0, none⟩) 1 1) (.slice none 0 0), ntC t2N (.slice (some ⟨w.heap.size + 1 + 1 + 1, 0, none⟩) 2 2) (.slice none 0 0)], rfl, oN, ?_⟩
    intro k n e hn he
    match k, hn, he with
    | 0, hn, he =>
      cases hn
      cases he
      exact ⟨_, _, rfl, o1E, World.ownsRow_nil _ _ _ _⟩
    | 1, hn, he =>
      cases hn
      cases he
      exact ⟨_, _, rfl, o2E, World.ownsRow_nil _ _ _ _⟩
    | k + 2, hn, he => simp [sT] at hn
  clear oB o1 o2 oN a1 a2 a3 oBE o1E o2E B2
  go_enter Tryz.func34, Tryz.ntmps34
  go_upto_region 1 with fail
  go_wp2_with fail
  have hSW := (ShW.make (s := sT) BKE NTE).toR
  change bodyPost _ _ _ _ _ (((((w.alloc (.cells #[.int .i64 2, .int .i64 3, .int .i64 1, .slice (some ⟨w.heap.size + 1, 0, none⟩) 1 1, .slice (some ⟨w.heap.size + 1 + 1 + 1 + 1, 0, none⟩) 2 2] 25)).alloc (.cells #[.int .i64 1, .string ⟨#[98]⟩] 60)).alloc (.cells #[.string ⟨#[120]⟩] 9)).alloc (.cells #[.string ⟨#[120]⟩, .string ⟨#[121]⟩] 9)).alloc (.cells #[.int .i64 1, .int .i64 1, .string ⟨#[116, 111, 32, 98, 101]⟩, .slice (some ⟨w.heap.size + 1 + 1, 0, none⟩) 1 1, .slice none 0 0, .int .i64 2, .int .i64 1, .string ⟨#[110, 111, 116]⟩, .slice (some ⟨w.heap.size + 1 + 1 + 1, 0, none⟩) 2 2, .slice none 0 0] 54))
  generalize (((((w.alloc (.cells #[.int .i64 2, .int .i64 3, .int .i64 1, .slice (some ⟨w.heap.size + 1, 0, none⟩) 1 1, .slice (some ⟨w.heap.size + 1 + 1 + 1 + 1, 0, none⟩) 2 2] 25)).alloc (.cells #[.int .i64 1, .string ⟨#[98]⟩] 60)).alloc (.cells #[.string ⟨#[120]⟩] 9)).alloc (.cells #[.string ⟨#[120]⟩, .string ⟨#[121]⟩] 9)).alloc (.cells #[.int .i64 1, .int .i64 1, .string ⟨#[116, 111, 32, 98, 101]⟩, .slice (some ⟨w.heap.size + 1 + 1, 0, none⟩) 1 1, .slice none 0 0, .int .i64 2, .int .i64 1, .string ⟨#[110, 111, 116]⟩, .slice (some ⟨w.heap.size + 1 + 1 + 1, 0, none⟩) 2 2, .slice none 0 0] 54)) = WF at B2E HBE hSW ⊢
  apply bodyPost_ret (v := .agg #[.int .i64 2, .int .i64 3, .int .i64 1, .slice (some ⟨w.heap.size + 1, 0, none⟩) 1 1, .slice (some ⟨w.heap.size + 1 + 1 + 1 + 1, 0, none⟩) 2 2])
  · exact results_cell_row Tryz.results34 _ WF w.heap.size 25 _ (0, 0) _ rfl B2E Tryz.underlying25 rfl (by kernel_rfl)
  · rfl
  · exact ⟨_, rfl, hSW, HBE⟩
theorem aw1 : wordsL [116, 111, 32, 98, 101] = [[98, 101], [116, 111]] := by
  symm
  refine words_of (by decide) (fun x => ?_)
  rw [show splitL [116, 111, 32, 98, 101] = [[116, 111], [98, 101]] from rfl]
  simp only [List.mem_cons, List.not_mem_nil, or_false]
  constructor
  · rintro (rfl | rfl) <;> simp
  · rintro ⟨rfl | rfl, _⟩ <;> simp
theorem aw0 : wordsL [110, 111, 116] = [[110, 111, 116]] := by
  symm
  refine words_of (by decide) (fun x => ?_)
  rw [show splitL [110, 111, 116] = [[110, 111, 116]] from rfl]
  simp only [List.mem_cons, List.not_mem_nil, or_false]
  constructor
  · rintro rfl
    simp
  · rintro ⟨rfl, _⟩
    simp
theorem aw2 : wordsL [116, 111, 32, 98, 101, 32, 111, 114, 32, 110, 111, 116, 32, 116, 111, 32, 98, 101] = [[98, 101], [110, 111, 116], [111, 114], [116, 111]] := by
  symm
  refine words_of (by decide) (fun x => ?_)
  rw [show splitL [116, 111, 32, 98, 101, 32, 111, 114, 32, 110, 111, 116, 32, 116, 111, 32, 98, 101] = [[116, 111], [98, 101], [111, 114], [110, 111, 116], [116, 111], [98, 101]] from rfl]
  simp only [List.mem_cons, List.not_mem_nil, or_false]
  constructor
  · rintro (rfl | rfl | rfl | rfl) <;> simp
  · rintro ⟨rfl | rfl | rfl | rfl | rfl | rfl, _⟩ <;> simp
theorem ar1 : readL [97, 32, 32, 98] = none := by rfl
theorem ar2 : readL [35, 120, 32, 33, 98, 101] = some [⟨false, 35, [120]⟩, ⟨true, 0, [98, 101]⟩] := by rfl
theorem ah0 : soB ⟨true, 0, [98, 101]⟩ t1N nB = false := by
  unfold soB matB
  rw [if_neg (by decide), if_neg (by decide), show t1N.nm.toList = [116, 111, 32, 98, 101] from by decide +kernel, aw1]
  decide +kernel
theorem ah01 : soB ⟨true, 0, [98, 101]⟩ t2N nB = true := by
  unfold soB matB
  rw [if_neg (by decide), if_neg (by decide), show t2N.nm.toList = [110, 111, 116] from by decide +kernel, aw0]
  decide +kernel
theorem ah02 : soB ⟨false, 35, [120]⟩ t2N nB = true := by
  unfold soB matB
  rw [if_pos rfl]
  decide +kernel
theorem ah1 : hitB sT [⟨false, 35, [120]⟩, ⟨true, 0, [98, 101]⟩] t1N = false := by
  unfold hitB
  rw [show bkNm sT t1N.bk = nB from rfl]
  simp [ah0]
theorem ah2 : hitB sT [⟨false, 35, [120]⟩, ⟨true, 0, [98, 101]⟩] t2N = true := by
  unfold hitB
  rw [show bkNm sT t2N.bk = nB from rfl]
  simp [ah01, ah02]
theorem ah9 : hitsL sT [⟨false, 35, [120]⟩, ⟨true, 0, [98, 101]⟩] = [⟨2, nNot⟩] := by
  unfold hitsL
  rw [show sT.ts = [t1N, t2N] from rfl, List.filter_cons, ah1, List.filter_cons, ah2]
  rfl
theorem ah3 : mayQ [97, 32, 35, 98, 32, 47, 99, 32, 33, 100] = true := by rfl
theorem ah41 : kinB t1N 1 t1N = false := by decide +kernel
theorem ah42 : kinB t1N 1 t2N = true := by decide +kernel
theorem ah43 : comN t1N.tg t2N.tg = 1 := by decide +kernel
theorem ah4 : kinsL sT t1N 1 = [⟨2, nNot, 1⟩] := by
  unfold kinsL
  rw [show sT.ts = [t1N, t2N] from rfl, List.filter_cons, ah41, List.filter_cons, ah42]
  show [kinIt t1N t2N] = _
  unfold kinIt
  rw [ah43]
  rfl
theorem ah6 : noteAt sT 1 = ((0 : Nat) : Int) := by rfl
theorem ah8 : tagsA sT = [nX, nX, nY] := by rfl
theorem sameTextsN (L : List ByteArray) (A B : Option Addr) (n c d : Nat) (w : World) (hn : L.length = n) (n1 : n ≤ 1000000) (h1 : Sl w w.heap.size A (L.map strV)) (h2 : Sl w w.heap.size B (L.map strV)) : Calls Tryz.prog 21 #[.slice A n c, .slice B n d] w fun e' w' => e' = .returned (.bool true) ∧ Below w.heap.size w w' := by
  subst hn
  exact sameTexts_yes L A B c d w n1 h1 h2
theorem aw_find1 (v : Value) (w : World) (hS : ShR w w.heap.size v sT) (hT : Tabs w) : Calls Tryz.prog 12 #[v, .string ⟨#[35, 120, 32, 33, 98, 101]⟩] w fun e' w' => ∃ (A : Option Addr) (c : Nat), e' = .returned (.tuple #[.slice A 1 c, .int .i64 0]) ∧ SlE 2 w' w'.heap.size A (([⟨2, nNot⟩] : List It).map itC) ∧ Below w.heap.size w w' := by
  refine (find_any sT v [35, 120, 32, 33, 98, 101] _ w hS hT mayT ar2 (by decide)).mono ?_
  rintro e' w' ⟨A, c, its, rfl, h1, h2, h3, h4⟩
  rw [ah9] at h1
  obtain rfl := List.perm_singleton.1 h1
  exact ⟨A, c, rfl, sle_of_own h3 (fun x hx => by obtain ⟨y, _, rfl⟩ := List.mem_map.1 hx; rfl) (by decide), h4⟩
theorem aw_find2 (v : Value) (w : World) (hS : ShR w w.heap.size v sT) (hT : Tabs w) : Calls Tryz.prog 12 #[v, .string ⟨#[97, 32, 32, 98]⟩] w fun e' w' => e' = .returned (.tuple #[.slice none 0 0, .int .i64 5]) ∧ Below w.heap.size w w' :=
  find_form sT v [97, 32, 32, 98] w hS hT mayT ar1 (by decide)
theorem aw_kin (v : Value) (w : World) (hS : ShR w w.heap.size v sT) (hT : Tabs w) : Calls Tryz.prog 14 #[v, .int .i64 1] w fun e' w' => ∃ (A : Option Addr) (c : Nat), e' = .returned (.tuple #[.slice A 1 c, .int .i64 0]) ∧ SlE 2 w' w'.heap.size A (([⟨2, nNot⟩] : List It).map itC) ∧ Below w.heap.size w w' := by
  refine (kin_any sT v 1 w hS hT mayT 0 t1N ah6 rfl).mono ?_
  rintro e' w' ⟨A, c, its, rfl, h1, h2, h3, h4⟩
  rw [ah4] at h1
  obtain rfl := List.perm_singleton.1 h1
  exact ⟨A, c, rfl, sle_of_own h3 (fun x hx => by obtain ⟨y, _, rfl⟩ := List.mem_map.1 hx; rfl) (by decide), h4⟩
theorem aw_words (w : World) : Calls Tryz.prog 17 #[.string ⟨#[116, 111, 32, 98, 101, 32, 111, 114, 32, 110, 111, 116, 32, 116, 111, 32, 98, 101]⟩] w fun e' w' => ∃ (A : Option Addr) (c : Nat), e' = .returned (.slice A 4 c) ∧ Sl w' w'.heap.size A ([(⟨#[98, 101]⟩ : ByteArray), (⟨#[110, 111, 116]⟩ : ByteArray), (⟨#[111, 114]⟩ : ByteArray), (⟨#[116, 111]⟩ : ByteArray)].map strV) ∧ Below w.heap.size w w' := by
  refine (words_any [116, 111, 32, 98, 101, 32, 111, 114, 32, 110, 111, 116, 32, 116, 111, 32, 98, 101] (by decide) w).mono ?_
  rintro e' w' ⟨v, rfl, h3, h4⟩
  rw [aw2] at h3
  obtain ⟨A, c, rfl, -, -⟩ := own_shape h3
  exact ⟨A, c, rfl, Sl.of_own h3, h4⟩
theorem aw_tags (v : Value) (w : World) (hS : ShR w w.heap.size v sT) (hT : Tabs w) : Calls Tryz.prog 16 #[v] w fun e' w' => ∃ (A : Option Addr) (c : Nat), e' = .returned (.slice A 2 c) ∧ SlE 2 w' w'.heap.size A (([⟨2, nX⟩, ⟨1, nY⟩] : List It).map itC) ∧ Below w.heap.size w w' := by
  refine (tags_any sT v w hS hT mayT).mono ?_
  rintro e' w' ⟨A, c, ks, rfl, h1, h2, h3, h4⟩
  have hk : ks = [[120], [121]] := by
    refine rise_uniq h1 (by decide) (fun x => ?_)
    rw [h2, ah8]
    simp only [List.mem_cons, List.not_mem_nil, or_false]
    constructor
    · rintro (h | h | h)
      · exact Or.inl (by have := congrArg (fun z : ByteArray => z.data.toList) h; simpa [bOf, nX] using this)
      · exact Or.inl (by have := congrArg (fun z : ByteArray => z.data.toList) h; simpa [bOf, nX] using this)
      · exact Or.inr (by have := congrArg (fun z : ByteArray => z.data.toList) h; simpa [bOf, nY] using this)
    · rintro (rfl | rfl)
      · exact Or.inl rfl
      · exact Or.inr (Or.inr rfl)
  subst hk
  exact ⟨A, c, rfl, sle_of_own h3 (fun x hx => by obtain ⟨y, _, rfl⟩ := List.mem_map.1 hx; rfl) (by decide), h4⟩
theorem aw_may (w : World) : Calls Tryz.prog 23 #[.string ⟨#[97, 32, 35, 98, 32, 47, 99, 32, 33, 100]⟩] w fun e' w' => e' = .returned (.bool true) ∧ Below w.heap.size w w' := mayq_any [97, 32, 35, 98, 32, 47, 99, 32, 33, 100] w (by decide) true ah3
theorem awakeK_any (w : World) (hT : Tabs w) : Calls Tryz.prog 10 #[] w fun e' w' => e' = .returned (.bool true) ∧ Below w.heap.size w w' := by
  have HB := Below.refl w.heap.size w
  have HT := hT
  go_enter Tryz.func10, Tryz.ntmps10
  go_wp2_with (first
    | (go_at_call 12; ((with_reducible refine (aw_find1 _ _ hS HT).mono ?_); rintro e' w2 ⟨A2, c2, rfl, hs, bx⟩; have HB := btr HB HB.size bx; have HT := HT.next bx; (try replace hk := SlE.next hk bx); (try replace hg := SlE.next hg bx); (try replace hw := (Sl.below hw bx).mono_ (Below.size bx)); (try replace hl := SlE.next hl bx); (try replace hlw := (Sl.below hlw bx).mono_ (Below.size bx)); clear bx hS))
    | (go_at_call 12; ((with_reducible refine (aw_find2 _ _ hS HT).mono ?_); rintro e' w3 ⟨rfl, bx⟩; have HB := btr HB HB.size bx; have HT := HT.next bx; (try replace hs := SlE.next hs bx); (try replace hk := SlE.next hk bx); (try replace hg := SlE.next hg bx); (try replace hw := (Sl.below hw bx).mono_ (Below.size bx)); (try replace hl := SlE.next hl bx); (try replace hlw := (Sl.below hlw bx).mono_ (Below.size bx)); clear bx hS))
    | (go_at_call 14; ((with_reducible refine (aw_kin _ _ hS HT).mono ?_); rintro e' w4 ⟨A4, c4, rfl, hk, bx⟩; have HB := btr HB HB.size bx; have HT := HT.next bx; (try replace hs := SlE.next hs bx); (try replace hg := SlE.next hg bx); (try replace hw := (Sl.below hw bx).mono_ (Below.size bx)); (try replace hl := SlE.next hl bx); (try replace hlw := (Sl.below hlw bx).mono_ (Below.size bx)); clear bx hS))
    | (go_at_call 17; ((with_reducible refine (aw_words _).mono ?_); rintro e' w5 ⟨A5, c5, rfl, hw, bx⟩; have HB := btr HB HB.size bx; have HT := HT.next bx; (try replace hs := SlE.next hs bx); (try replace hk := SlE.next hk bx); (try replace hg := SlE.next hg bx); (try replace hl := SlE.next hl bx); (try replace hlw := (Sl.below hlw bx).mono_ (Below.size bx)); have hlw := lit_sl w5 #[.string ⟨#[98, 101]⟩, .string ⟨#[110, 111, 116]⟩, .string ⟨#[111, 114]⟩, .string ⟨#[116, 111]⟩] 9 4 ([(⟨#[98, 101]⟩ : ByteArray), (⟨#[110, 111, 116]⟩ : ByteArray), (⟨#[111, 114]⟩ : ByteArray), (⟨#[116, 111]⟩ : ByteArray)].map strV) rfl rfl (by decide); have al := (Below.refl _ w5).alloc (Nat.le_refl _) (.cells #[.string ⟨#[98, 101]⟩, .string ⟨#[110, 111, 116]⟩, .string ⟨#[111, 114]⟩, .string ⟨#[116, 111]⟩] 9); have HB := btr HB HB.size al; have HT := HT.next al; (try replace hs := SlE.next hs al); (try replace hk := SlE.next hk al); (try replace hg := SlE.next hg al); (try replace hw := (Sl.below hw al).mono_ (Below.size al)); (try replace hl := SlE.next hl al); clear al; clear bx))
    | (go_at_call 21; ((with_reducible refine (sameTextsN ([(⟨#[98, 101]⟩ : ByteArray), (⟨#[110, 111, 116]⟩ : ByteArray), (⟨#[111, 114]⟩ : ByteArray), (⟨#[116, 111]⟩ : ByteArray)]) _ _ 4 _ _ _ rfl (by decide) hw hlw).mono ?_); rintro e' w6 ⟨rfl, bx⟩; have HB := btr HB HB.size bx; have HT := HT.next bx; (try replace hs := SlE.next hs bx); (try replace hk := SlE.next hk bx); (try replace hg := SlE.next hg bx); (try replace hw := (Sl.below hw bx).mono_ (Below.size bx)); (try replace hl := SlE.next hl bx); (try replace hlw := (Sl.below hlw bx).mono_ (Below.size bx)); have hl := lit_slE w6 #[.int .i64 2, .string ⟨#[110, 111, 116]⟩] 50 2 1 (([⟨2, nNot⟩] : List It).map itC) rfl (fun x hx => by obtain ⟨y, _, rfl⟩ := List.mem_map.1 hx; rfl) rfl (by decide) (by decide); have al := (Below.refl _ w6).alloc (Nat.le_refl _) (.cells #[.int .i64 2, .string ⟨#[110, 111, 116]⟩] 50); have HB := btr HB HB.size al; have HT := HT.next al; (try replace hs := SlE.next hs al); (try replace hk := SlE.next hk al); (try replace hg := SlE.next hg al); (try replace hw := (Sl.below hw al).mono_ (Below.size al)); (try replace hlw := (Sl.below hlw al).mono_ (Below.size al)); clear al; clear bx hw hlw))
    | (go_at_call 18; ((with_reducible refine (sameItems_yes ([⟨2, nNot⟩] : List It) _ _ 1 _ _ _ rfl (by decide) hs hl).mono ?_); rintro e' w7 ⟨rfl, bx⟩; have HB := btr HB HB.size bx; have HT := HT.next bx; (try replace hs := SlE.next hs bx); (try replace hk := SlE.next hk bx); (try replace hg := SlE.next hg bx); (try replace hw := (Sl.below hw bx).mono_ (Below.size bx)); (try replace hl := SlE.next hl bx); (try replace hlw := (Sl.below hlw bx).mono_ (Below.size bx)); clear bx hs hl))
    | (go_at_call 16; ((with_reducible refine (aw_tags _ _ hS HT).mono ?_); rintro e' w8 ⟨A8, c8, rfl, hg, bx⟩; have HB := btr HB HB.size bx; have HT := HT.next bx; (try replace hs := SlE.next hs bx); (try replace hk := SlE.next hk bx); (try replace hw := (Sl.below hw bx).mono_ (Below.size bx)); (try replace hl := SlE.next hl bx); (try replace hlw := (Sl.below hlw bx).mono_ (Below.size bx)); have hl := lit_slE w8 #[.int .i64 2, .string ⟨#[120]⟩, .int .i64 1, .string ⟨#[121]⟩] 50 2 2 (([⟨2, nX⟩, ⟨1, nY⟩] : List It).map itC) rfl (fun x hx => by obtain ⟨y, _, rfl⟩ := List.mem_map.1 hx; rfl) rfl (by decide) (by decide); have al := (Below.refl _ w8).alloc (Nat.le_refl _) (.cells #[.int .i64 2, .string ⟨#[120]⟩, .int .i64 1, .string ⟨#[121]⟩] 50); have HB := btr HB HB.size al; have HT := HT.next al; (try replace hs := SlE.next hs al); (try replace hk := SlE.next hk al); (try replace hg := SlE.next hg al); (try replace hw := (Sl.below hw al).mono_ (Below.size al)); (try replace hlw := (Sl.below hlw al).mono_ (Below.size al)); clear al; clear bx hS))
    | (go_at_call 18; ((with_reducible refine (sameItems_yes ([⟨2, nX⟩, ⟨1, nY⟩] : List It) _ _ 2 _ _ _ rfl (by decide) hg hl).mono ?_); rintro e' w9 ⟨rfl, bx⟩; have HB := btr HB HB.size bx; have HT := HT.next bx; (try replace hs := SlE.next hs bx); (try replace hk := SlE.next hk bx); (try replace hg := SlE.next hg bx); (try replace hw := (Sl.below hw bx).mono_ (Below.size bx)); (try replace hl := SlE.next hl bx); (try replace hlw := (Sl.below hlw bx).mono_ (Below.size bx)); clear hl; have hl := lit_slE w9 #[.int .i64 2, .string ⟨#[110, 111, 116]⟩] 50 2 1 (([⟨2, nNot⟩] : List It).map itC) rfl (fun x hx => by obtain ⟨y, _, rfl⟩ := List.mem_map.1 hx; rfl) rfl (by decide) (by decide); have al := (Below.refl _ w9).alloc (Nat.le_refl _) (.cells #[.int .i64 2, .string ⟨#[110, 111, 116]⟩] 50); have HB := btr HB HB.size al; have HT := HT.next al; (try replace hs := SlE.next hs al); (try replace hk := SlE.next hk al); (try replace hg := SlE.next hg al); (try replace hw := (Sl.below hw al).mono_ (Below.size al)); (try replace hlw := (Sl.below hlw al).mono_ (Below.size al)); clear al; clear bx hg))
    | (go_at_call 18; ((with_reducible refine (sameItems_yes ([⟨2, nNot⟩] : List It) _ _ 1 _ _ _ rfl (by decide) hk hl).mono ?_); rintro e' w10 ⟨rfl, bx⟩; have HB := btr HB HB.size bx; have HT := HT.next bx; (try replace hs := SlE.next hs bx); (try replace hk := SlE.next hk bx); (try replace hg := SlE.next hg bx); (try replace hw := (Sl.below hw bx).mono_ (Below.size bx)); (try replace hl := SlE.next hl bx); (try replace hlw := (Sl.below hlw bx).mono_ (Below.size bx)); clear bx hk hl))
    | (go_at_call 23; ((with_reducible refine (aw_may _).mono ?_); rintro e' w11 ⟨rfl, bx⟩; have HB := btr HB HB.size bx; have HT := HT.next bx; (try replace hs := SlE.next hs bx); (try replace hk := SlE.next hk bx); (try replace hg := SlE.next hg bx); (try replace hw := (Sl.below hw bx).mono_ (Below.size bx)); (try replace hl := SlE.next hl bx); (try replace hlw := (Sl.below hlw bx).mono_ (Below.size bx)); clear bx))
    | (go_at_call 34; ((with_reducible refine (two_any _).mono ?_); rintro e' w1 ⟨v1, rfl, hS, bx⟩; have HB := btr HB HB.size bx; have HT := HT.next bx; (try replace hs := SlE.next hs bx); (try replace hk := SlE.next hk bx); (try replace hg := SlE.next hg bx); (try replace hw := (Sl.below hw bx).mono_ (Below.size bx)); (try replace hl := SlE.next hl bx); (try replace hlw := (Sl.below hlw bx).mono_ (Below.size bx)); clear bx)))
  go_ret
  exact ⟨rfl, HB⟩
end Go.Proofs.YteokeghenjobaaaGreatDoor
namespace Go.Proofs.YteokeghenjobaaaGreatDoor
open Go.ChangeShapes Go.WideShapes Go.ChangeAt Go.RowKit
attribute [local go_sem ↓] Go.wp_at_zero Go.wp_at_succ
attribute [local go_sem] Oper.semAt_some
theorem bOf_d2 (S : ByteArray) : bOf S.data.toList = S := data_inj (bOf_l _)
def leF (a b : It) : Bool := !decide (cmpF b a < 0)
def findL (s : Sf) (ts : List Trm) : List It := (hitsL s ts).mergeSort leF
theorem leF_iff (a b : It) : leF a b = true ↔ ¬ cmpF b a < 0 := by
  unfold leF
  simp
theorem findL_facts (s : Sf) (ts : List Trm) : (findL s ts).Perm (hitsL s ts) ∧ OrdF (findL s ts) := by
  have h0 := swoF
  have hirr : ∀ x : It, ¬ cmpF x x < 0 := fun x => of_decide_eq_false (h0.1 x)
  have tr : ∀ a b c : It, leF a b = true → leF b c = true → leF a c = true := fun a b c h1 h2 => by
    rw [leF_iff] at *
    have := h0.3 c b a (decide_eq_false h2) (decide_eq_false h1)
    exact of_decide_eq_false this
  have tot : ∀ a b : It, (leF a b || leF b a) = true := fun a b => by
    rw [Bool.or_eq_true, leF_iff, leF_iff]
    by_cases h : cmpF b a < 0
    · refine Or.inr (fun h2 => ?_)
      have := h0.2 b a b (decide_eq_true h) (decide_eq_true h2)
      exact hirr b (of_decide_eq_true this)
    · exact Or.inl h
  refine ⟨List.mergeSort_perm _ _, ?_⟩
  exact (List.pairwise_mergeSort tr tot (hitsL s ts)).imp (fun {a b} h => (leF_iff a b).1 h)
theorem findL_len (s : Sf) (ts : List Trm) : (findL s ts).length = (s.ts.filter (hitB s ts)).length := by
  rw [(findL_facts s ts).1.length_eq]
  unfold hitsL
  rw [List.length_map]
theorem findL_le {s : Sf} (hF : MayF s) (ts : List Trm) : (findL s ts).length ≤ 12 := by
  rw [findL_len]
  exact Nat.le_trans (List.length_filter_le _ _) hF.tl
theorem mayq_go (S : ByteArray) (w : World) (hl : S.size ≤ 100000) (T : Bool) (hT : mayQ S.data.toList = T) : Calls Tryz.prog 23 #[.string S] w fun e' w' => e' = .returned (.bool T) ∧ Below w.heap.size w w' := by
  have h := mayq_any S.data.toList w (by rw [← size_L]; exact hl) T hT
  rw [bOf_d2] at h
  exact h
end Go.Proofs.YteokeghenjobaaaGreatDoor
namespace Go.Proofs.YteokeghenjobaaaGreatDoor
open Go.ChangeShapes Go.WideShapes Go.ChangeAt Go.RowKit
attribute [local go_sem ↓] Go.wp_at_zero Go.wp_at_succ
attribute [local go_sem] Oper.semAt_some
theorem hasB_any (l : List ByteArray) (x : ByteArray) : hasB l x = l.any fun y => sameS y x := by
  cases h : hasB l x
  · symm
    rw [List.any_eq_false]
    intro y hy hs
    unfold sameS at hs
    rw [beq_iff_eq] at hs
    have e := toList_inj_ hs
    rw [← e, (hasB_iff l y).2 hy] at h
    cases h
  · symm
    rw [List.any_eq_true]
    exact ⟨x, (hasB_iff l x).1 h, by simp [sameS]⟩
theorem rhas_go (l : List ByteArray) (A : Option Addr) (n cp : Nat) (x0 : ByteArray) (w : World) (hn : l.length = n) (hS : Sl w w.heap.size A (l.map strV)) (hl : n ≤ 1000000) (T : Bool) (hT : hasB l x0 = T) :
    Calls Tryz.prog 60 #[.slice A n cp, .string x0] w fun e' w' => e' = .returned (.bool T) ∧ w' = w := by
  have HT := Lib.hid hT
  have HN := Lib.hid hn
  have hz : (0 : Int) ≤ (n : Int) := by omega
  have H0 : Hid ((l.take 0).any (fun y => sameS y x0) = false) := Lib.hid rfl
  clear hT hn
  go_enter Tryz.func60, Tryz.ntmps60
  go_wp2_with fail
  go_loop [5] (fun i => ∃ k : Nat, k ≤ n ∧ i = .int .i64 k ∧ Hid ((l.take k).any (fun y => sameS y x0) = false)) (fun i => n - (intOf i).toNat)
  case atStart => exact ⟨0, by omega, rfl, H0⟩
  case round =>
    obtain ⟨k, hk, rfl, HK⟩ := hrel
    clear H0
    by_cases hlt : k < n
    · have hlx : k < l.length := by have := HN.out; omega
      obtain ⟨b1, o1, rfl, l1, q1⟩ := hS.at_ (by rw [List.length_map]; omega)
      obtain ⟨x, hx⟩ : ∃ x, l[k]? = some x := ⟨_, List.getElem?_eq_getElem hlx⟩
      have cx : w.cell? ⟨b1, o1 + k, none⟩ = some (.string x) := q1 k _ (by rw [List.getElem?_map, hx]; rfl)
      have i0 : (0 : Int) ≤ (k : Int) := by omega
      have i1 : (k : Int) < (n : Int) := by omega
      have HX := Lib.hid hx
      clear q1 hx hlx
      rcases (by cases hq : (x.toList == x0.toList) <;> simp : (x.toList == x0.toList) = true ∨ (x.toList == x0.toList) = false) with hp | hp
      · have HTT : Hid (T = true) := Lib.hid (by rw [← HT.out, hasB_any]; exact List.any_eq_true.2 ⟨x, List.mem_of_getElem? HX.out, hp⟩)
        go_wp2_with fail
        go_ret
        exact ⟨by rw [HTT.out]; rfl, by first | rfl | trivial⟩
      · have HP : Hid (sameS x x0 = false) := Lib.hid hp
        go_wp2_with fail
        go_round
        case rel => exact ⟨k + 1, by omega, by go_num, Lib.hid (any_next HK.out HX.out HP.out)⟩
        case measure => simp [intOf]; omega
    · have hjn : k = n := by omega
      subst hjn
      clear hlt
      go_wp2_with fail
      go_ret
      refine ⟨?_, by first | rfl | trivial⟩
      have := HK.out
      rw [List.take_of_length_le (by rw [HN.out]; exact Nat.le_refl _)] at this
      rw [← HT.out]
      rw [hasB_any, this]
      rfl
theorem rbegins_go (l : List ByteArray) (A : Option Addr) (n cp : Nat) (x0 : ByteArray) (w : World) (hn : l.length = n) (hS : Sl w w.heap.size A (l.map strV)) (hl : n ≤ 1000000) (T : Bool) (hT : (l.any fun y => Lib.hasPrefix y.data.toList x0.data.toList) = T) :
    Calls Tryz.prog 83 #[.slice A n cp, .string x0] w fun e' w' => e' = .returned (.bool T) ∧ w' = w := by
  have HT := Lib.hid hT
  have HN := Lib.hid hn
  have hz : (0 : Int) ≤ (n : Int) := by omega
  have H0 : Hid ((l.take 0).any (fun y => Lib.hasPrefix y.data.toList x0.data.toList) = false) := Lib.hid rfl
  clear hT hn
  go_enter Tryz.func83, Tryz.ntmps83
  go_wp2_with fail
  go_loop [5] (fun i => ∃ k : Nat, k ≤ n ∧ i = .int .i64 k ∧ Hid ((l.take k).any (fun y => Lib.hasPrefix y.data.toList x0.data.toList) = false)) (fun i => n - (intOf i).toNat)
  case atStart => exact ⟨0, by omega, rfl, H0⟩
  case round =>
    obtain ⟨k, hk, rfl, HK⟩ := hrel
    clear H0
    by_cases hlt : k < n
    · have hlx : k < l.length := by have := HN.out; omega
      obtain ⟨b1, o1, rfl, l1, q1⟩ := hS.at_ (by rw [List.length_map]; omega)
      obtain ⟨x, hx⟩ : ∃ x, l[k]? = some x := ⟨_, List.getElem?_eq_getElem hlx⟩
      have cx : w.cell? ⟨b1, o1 + k, none⟩ = some (.string x) := q1 k _ (by rw [List.getElem?_map, hx]; rfl)
      have i0 : (0 : Int) ≤ (k : Int) := by omega
      have i1 : (k : Int) < (n : Int) := by omega
      have HX := Lib.hid hx
      have hp2 : Lib.hasPrefix x.data.toList x0.data.toList = (decide (x0.size ≤ x.size) && ((x.extract 0 x0.size).toList == x0.toList)) := (Lib.hasPrefix_raw x x0).symm
      have HH := Lib.hid hp2
      clear q1 hx hlx hp2
      by_cases hsz : x0.size ≤ x.size
      · have h1 : (x0.size : Int) ≤ (x.size : Int) := by omega
        rcases (by cases hq : ((x.extract 0 x0.size).toList == x0.toList) <;> simp : ((x.extract 0 x0.size).toList == x0.toList) = true ∨ ((x.extract 0 x0.size).toList == x0.toList) = false) with hp | hp
        · have HTT : Hid (T = true) := Lib.hid (by rw [← HT.out]; exact List.any_eq_true.2 ⟨x, List.mem_of_getElem? HX.out, by rw [HH.out, hp, decide_eq_true hsz]; rfl⟩)
          go_wp2_with fail
          go_ret
          exact ⟨by rw [HTT.out]; rfl, by first | rfl | trivial⟩
        · have HP : Hid (Lib.hasPrefix x.data.toList x0.data.toList = false) := Lib.hid (by rw [HH.out, hp, Bool.and_false])
          go_wp2_with fail
          go_round
          case rel => exact ⟨k + 1, by omega, by go_num, Lib.hid (any_next HK.out HX.out HP.out)⟩
          case measure => simp [intOf]; omega
      · have h1 : ¬ (x0.size : Int) ≤ (x.size : Int) := by omega
        have HP : Hid (Lib.hasPrefix x.data.toList x0.data.toList = false) := Lib.hid (by rw [HH.out, decide_eq_false hsz, Bool.false_and])
        go_wp2_with fail
        go_round
        case rel => exact ⟨k + 1, by omega, by go_num, Lib.hid (any_next HK.out HX.out HP.out)⟩
        case measure => simp [intOf]; omega
    · have hjn : k = n := by omega
      subst hjn
      clear hlt
      go_wp2_with fail
      go_ret
      refine ⟨?_, by first | rfl | trivial⟩
      have := HK.out
      rw [List.take_of_length_le (by rw [HN.out]; exact Nat.le_refl _)] at this
      rw [← HT.out]
      rw [this]
      rfl
structure TmR where
  nt : Bool
  sg : UInt8
  tx : List UInt8
  ok : Bool
def termB (nt : Bool) : List UInt8 → TmR
  | [] => ⟨nt, 0, [], false⟩
  | x :: r => if x = 35 ∨ x = 47 then ⟨nt, x, r, !r.isEmpty⟩ else if x = 33 then ⟨false, 0, [], false⟩ else ⟨nt, 0, x :: r, true⟩
def termR : List UInt8 → TmR
  | [] => ⟨false, 0, [], false⟩
  | x :: r => if x = 33 then termB true r else termB false (x :: r)
theorem termR_trm (p : List UInt8) : trmL p = if (termR p).ok then some ⟨(termR p).nt, (termR p).sg, (termR p).tx⟩ else none := by
  have hm : ∀ (b : Bool) (l : List UInt8), (l.head? = some 33 → False) → markP b l = if (termB b l).ok then some ⟨(termB b l).nt, (termB b l).sg, (termB b l).tx⟩ else none := by
    intro b l hl
    cases l with
    | nil => rfl
    | cons x r =>
      have hx : x ≠ 33 := fun e => hl (by rw [e]; rfl)
      unfold markP termB
      by_cases h1 : x = 35 ∨ x = 47
      · simp only [if_pos h1]
        unfold textP
        cases r <;> rfl
      · simp only [if_neg h1, if_neg hx]
        rfl
  cases p with
  | nil => rfl
  | cons x r =>
    unfold termR
    by_cases hx : x = 33
    · subst hx
      rw [trmL_cons, if_pos rfl]
      simp only [if_pos rfl]
      by_cases h2 : r.head? = some 33
      · rw [if_pos h2]
        cases r with
        | nil => cases h2
        | cons y q =>
          have hy : y = 33 := Option.some.inj h2
          subst hy
          rfl
      · rw [if_neg h2]
        exact hm true r h2
    · rw [trmL_cons, if_neg hx]
      simp only [if_neg hx]
      exact hm false (x :: r) (fun e => hx (Option.some.inj e))
end Go.Proofs.YteokeghenjobaaaGreatDoor
namespace Go.Proofs.YteokeghenjobaaaGreatDoor
open Go.ChangeShapes Go.WideShapes Go.ChangeAt Go.RowKit
attribute [local go_sem ↓] Go.wp_at_zero Go.wp_at_succ
attribute [local go_sem] Oper.semAt_some
theorem emp_b (l : List UInt8) : (bOf l).toList.isEmpty = l.isEmpty := by
  rw [ByteArray.toList_eq]
  cases l <;> rfl
theorem results_tmp4 {P : Program} {fn : Func} {p q r u : Tmp} (h : fn.results = #[.tmp p, .tmp q, .tmp r, .tmp u]) (tmps : Array Value) (w : World) : (results fn tmps).run P w = .ok (.tuple #[tmps.getD p undef, tmps.getD q undef, tmps.getD r undef, tmps.getD u undef]) w := by
  unfold results
  rw [h]
  simp [go_sem]
theorem rterm_nil  (w : World) : Calls Tryz.prog 62 #[.string (bOf ([]))] w fun e' w' => e' = .returned (.tuple #[.bool false, .int .u8 0, .string ⟨#[]⟩, .bool false]) ∧ w' = w := by
  rw [show bOf [] = ⟨#[]⟩ from rfl]
  go_enter Tryz.func62, Tryz.ntmps62
  go_wp2_with fail
  refine bodyPost_ret (results_tmp4 rfl _ _) rfl ?_
  exact ⟨by first | rfl | (simp; done), rfl⟩
theorem rterm_m35 (q : List UInt8) (B : Bool) (hB : q.isEmpty = B) (w : World) : Calls Tryz.prog 62 #[.string (bOf (35 :: q))] w fun e' w' => e' = .returned (.tuple #[.bool false, .int .u8 35, .string (bOf q), .bool (!B)]) ∧ w' = w := by
  obtain ⟨S, hS⟩ : ∃ S, bOf (35 :: q) = S := ⟨_, rfl⟩
  obtain ⟨eS, bS⟩ := bOf_tail hS
  have pS : (0 : Int) < (S.size : Int) := by omega
  have neS : S.toList.isEmpty = false := by rw [← hS]; exact bOf_ne _ _
  have xS := bOf_head hS
  have i35S : ∀ h : 0 < S.size, ((S[0]'h).toNat : Int) = 35 := fun h => by rw [xS h]; rfl
  have eq := emp_b q
  rw [hB] at eq
  rw [hS]
  clear xS hS hB neS
  go_enter Tryz.func62, Tryz.ntmps62
  go_wp2_with fail
  refine bodyPost_ret (results_tmp4 rfl _ _) rfl ?_
  exact ⟨by first | rfl | (simp; done), rfl⟩
theorem rterm_tm35 (q : List UInt8) (B : Bool) (hB : q.isEmpty = B) (w : World) : Calls Tryz.prog 62 #[.string (bOf (33 :: 35 :: q))] w fun e' w' => e' = .returned (.tuple #[.bool true, .int .u8 35, .string (bOf q), .bool (!B)]) ∧ w' = w := by
  obtain ⟨S, hS⟩ : ∃ S, bOf (33 :: 35 :: q) = S := ⟨_, rfl⟩
  obtain ⟨eS, bS⟩ := bOf_tail hS
  have pS : (0 : Int) < (S.size : Int) := by omega
  have neS : S.toList.isEmpty = false := by rw [← hS]; exact bOf_ne _ _
  have xS := bOf_head hS
  have i33S : ∀ h : 0 < S.size, ((S[0]'h).toNat : Int) = 33 := fun h => by rw [xS h]; rfl
  obtain ⟨Z, hZ⟩ : ∃ S, bOf (35 :: q) = S := ⟨_, rfl⟩
  obtain ⟨eZ, bZ⟩ := bOf_tail hZ
  have pZ : (0 : Int) < (Z.size : Int) := by omega
  have neZ : Z.toList.isEmpty = false := by rw [← hZ]; exact bOf_ne _ _
  have xZ := bOf_head hZ
  have i35Z : ∀ h : 0 < Z.size, ((Z[0]'h).toNat : Int) = 35 := fun h => by rw [xZ h]; rfl
  have eq := emp_b q
  rw [hB] at eq
  rw [hZ] at eS
  rw [hS]
  clear xS hS hB neS xZ hZ neZ
  go_enter Tryz.func62, Tryz.ntmps62
  go_wp2_with fail
  refine bodyPost_ret (results_tmp4 rfl _ _) rfl ?_
  exact ⟨by first | rfl | (simp; done), rfl⟩
theorem rterm_m47 (q : List UInt8) (B : Bool) (hB : q.isEmpty = B) (w : World) : Calls Tryz.prog 62 #[.string (bOf (47 :: q))] w fun e' w' => e' = .returned (.tuple #[.bool false, .int .u8 47, .string (bOf q), .bool (!B)]) ∧ w' = w := by
  obtain ⟨S, hS⟩ : ∃ S, bOf (47 :: q) = S := ⟨_, rfl⟩
  obtain ⟨eS, bS⟩ := bOf_tail hS
  have pS : (0 : Int) < (S.size : Int) := by omega
  have neS : S.toList.isEmpty = false := by rw [← hS]; exact bOf_ne _ _
  have xS := bOf_head hS
  have i47S : ∀ h : 0 < S.size, ((S[0]'h).toNat : Int) = 47 := fun h => by rw [xS h]; rfl
  have eq := emp_b q
  rw [hB] at eq
  rw [hS]
  clear xS hS hB neS
  go_enter Tryz.func62, Tryz.ntmps62
  go_wp2_with fail
  refine bodyPost_ret (results_tmp4 rfl _ _) rfl ?_
  exact ⟨by first | rfl | (simp; done), rfl⟩
theorem rterm_tm47 (q : List UInt8) (B : Bool) (hB : q.isEmpty = B) (w : World) : Calls Tryz.prog 62 #[.string (bOf (33 :: 47 :: q))] w fun e' w' => e' = .returned (.tuple #[.bool true, .int .u8 47, .string (bOf q), .bool (!B)]) ∧ w' = w := by
  obtain ⟨S, hS⟩ : ∃ S, bOf (33 :: 47 :: q) = S := ⟨_, rfl⟩
  obtain ⟨eS, bS⟩ := bOf_tail hS
  have pS : (0 : Int) < (S.size : Int) := by omega
  have neS : S.toList.isEmpty = false := by rw [← hS]; exact bOf_ne _ _
  have xS := bOf_head hS
  have i33S : ∀ h : 0 < S.size, ((S[0]'h).toNat : Int) = 33 := fun h => by rw [xS h]; rfl
  obtain ⟨Z, hZ⟩ : ∃ S, bOf (47 :: q) = S := ⟨_, rfl⟩
  obtain ⟨eZ, bZ⟩ := bOf_tail hZ
  have pZ : (0 : Int) < (Z.size : Int) := by omega
  have neZ : Z.toList.isEmpty = false := by rw [← hZ]; exact bOf_ne _ _
  have xZ := bOf_head hZ
  have i47Z : ∀ h : 0 < Z.size, ((Z[0]'h).toNat : Int) = 47 := fun h => by rw [xZ h]; rfl
  have eq := emp_b q
  rw [hB] at eq
  rw [hZ] at eS
  rw [hS]
  clear xS hS hB neS xZ hZ neZ
  go_enter Tryz.func62, Tryz.ntmps62
  go_wp2_with fail
  refine bodyPost_ret (results_tmp4 rfl _ _) rfl ?_
  exact ⟨by first | rfl | (simp; done), rfl⟩
theorem rterm_t  (w : World) : Calls Tryz.prog 62 #[.string (bOf ([33]))] w fun e' w' => e' = .returned (.tuple #[.bool true, .int .u8 0, .string ⟨#[]⟩, .bool false]) ∧ w' = w := by
  obtain ⟨S, hS⟩ : ∃ S, bOf ([33]) = S := ⟨_, rfl⟩
  obtain ⟨eS, bS⟩ := bOf_tail hS
  have pS : (0 : Int) < (S.size : Int) := by omega
  have neS : S.toList.isEmpty = false := by rw [← hS]; exact bOf_ne _ _
  have xS := bOf_head hS
  have i33S : ∀ h : 0 < S.size, ((S[0]'h).toNat : Int) = 33 := fun h => by rw [xS h]; rfl
  rw [show bOf [] = ⟨#[]⟩ from rfl] at eS
  rw [hS]
  clear xS hS neS
  go_enter Tryz.func62, Tryz.ntmps62
  go_wp2_with fail
  refine bodyPost_ret (results_tmp4 rfl _ _) rfl ?_
  exact ⟨by first | rfl | (simp; done), rfl⟩
theorem rterm_tt (q : List UInt8) (w : World) : Calls Tryz.prog 62 #[.string (bOf (33 :: 33 :: q))] w fun e' w' => e' = .returned (.tuple #[.bool false, .int .u8 0, .string ⟨#[]⟩, .bool false]) ∧ w' = w := by
  obtain ⟨S, hS⟩ : ∃ S, bOf (33 :: 33 :: q) = S := ⟨_, rfl⟩
  obtain ⟨eS, bS⟩ := bOf_tail hS
  have pS : (0 : Int) < (S.size : Int) := by omega
  have neS : S.toList.isEmpty = false := by rw [← hS]; exact bOf_ne _ _
  have xS := bOf_head hS
  have i33S : ∀ h : 0 < S.size, ((S[0]'h).toNat : Int) = 33 := fun h => by rw [xS h]; rfl
  obtain ⟨Z, hZ⟩ : ∃ S, bOf (33 :: q) = S := ⟨_, rfl⟩
  obtain ⟨eZ, bZ⟩ := bOf_tail hZ
  have pZ : (0 : Int) < (Z.size : Int) := by omega
  have neZ : Z.toList.isEmpty = false := by rw [← hZ]; exact bOf_ne _ _
  have xZ := bOf_head hZ
  have i33Z : ∀ h : 0 < Z.size, ((Z[0]'h).toNat : Int) = 33 := fun h => by rw [xZ h]; rfl
  rw [hZ] at eS
  rw [hS]
  clear xS hS neS xZ hZ neZ
  go_enter Tryz.func62, Tryz.ntmps62
  go_wp2_with fail
  refine bodyPost_ret (results_tmp4 rfl _ _) rfl ?_
  exact ⟨by first | rfl | (simp; done), rfl⟩
theorem rterm_p (x : UInt8) (q : List UInt8) (n35S : x ≠ 35) (n47S : x ≠ 47) (n33S : x ≠ 33) (w : World) : Calls Tryz.prog 62 #[.string (bOf (x :: q))] w fun e' w' => e' = .returned (.tuple #[.bool false, .int .u8 0, .string (bOf (x :: q)), .bool true]) ∧ w' = w := by
  obtain ⟨S, hS⟩ : ∃ S, bOf (x :: q) = S := ⟨_, rfl⟩
  obtain ⟨eS, bS⟩ := bOf_tail hS
  have pS : (0 : Int) < (S.size : Int) := by omega
  have neS : S.toList.isEmpty = false := by rw [← hS]; exact bOf_ne _ _
  have xS := bOf_head hS
  have i35S : ∀ h : 0 < S.size, (((S[0]'h).toNat : Int) == 35) = false := fun h => by rw [xS h]; exact beq_eq_false_iff_ne.2 (fun e => n35S (UInt8.toNat_inj.1 (by rw [show (35 : UInt8).toNat = 35 from rfl]; omega)))
  have i47S : ∀ h : 0 < S.size, (((S[0]'h).toNat : Int) == 47) = false := fun h => by rw [xS h]; exact beq_eq_false_iff_ne.2 (fun e => n47S (UInt8.toNat_inj.1 (by rw [show (47 : UInt8).toNat = 47 from rfl]; omega)))
  have i33S : ∀ h : 0 < S.size, (((S[0]'h).toNat : Int) == 33) = false := fun h => by rw [xS h]; exact beq_eq_false_iff_ne.2 (fun e => n33S (UInt8.toNat_inj.1 (by rw [show (33 : UInt8).toNat = 33 from rfl]; omega)))
  rw [hS]
  clear xS hS n35S n47S n33S eS
  go_enter Tryz.func62, Tryz.ntmps62
  go_wp2_with fail
  refine bodyPost_ret (results_tmp4 rfl _ _) rfl ?_
  exact ⟨by first | rfl | (simp; done), rfl⟩
theorem rterm_tp (x : UInt8) (q : List UInt8) (n35Z : x ≠ 35) (n47Z : x ≠ 47) (n33Z : x ≠ 33) (w : World) : Calls Tryz.prog 62 #[.string (bOf (33 :: x :: q))] w fun e' w' => e' = .returned (.tuple #[.bool true, .int .u8 0, .string (bOf (x :: q)), .bool true]) ∧ w' = w := by
  obtain ⟨S, hS⟩ : ∃ S, bOf (33 :: x :: q) = S := ⟨_, rfl⟩
  obtain ⟨eS, bS⟩ := bOf_tail hS
  have pS : (0 : Int) < (S.size : Int) := by omega
  have neS : S.toList.isEmpty = false := by rw [← hS]; exact bOf_ne _ _
  have xS := bOf_head hS
  have i33S : ∀ h : 0 < S.size, ((S[0]'h).toNat : Int) = 33 := fun h => by rw [xS h]; rfl
  obtain ⟨Z, hZ⟩ : ∃ S, bOf (x :: q) = S := ⟨_, rfl⟩
  obtain ⟨eZ, bZ⟩ := bOf_tail hZ
  have pZ : (0 : Int) < (Z.size : Int) := by omega
  have neZ : Z.toList.isEmpty = false := by rw [← hZ]; exact bOf_ne _ _
  have xZ := bOf_head hZ
  have i35Z : ∀ h : 0 < Z.size, (((Z[0]'h).toNat : Int) == 35) = false := fun h => by rw [xZ h]; exact beq_eq_false_iff_ne.2 (fun e => n35Z (UInt8.toNat_inj.1 (by rw [show (35 : UInt8).toNat = 35 from rfl]; omega)))
  have i47Z : ∀ h : 0 < Z.size, (((Z[0]'h).toNat : Int) == 47) = false := fun h => by rw [xZ h]; exact beq_eq_false_iff_ne.2 (fun e => n47Z (UInt8.toNat_inj.1 (by rw [show (47 : UInt8).toNat = 47 from rfl]; omega)))
  have i33Z : ∀ h : 0 < Z.size, (((Z[0]'h).toNat : Int) == 33) = false := fun h => by rw [xZ h]; exact beq_eq_false_iff_ne.2 (fun e => n33Z (UInt8.toNat_inj.1 (by rw [show (33 : UInt8).toNat = 33 from rfl]; omega)))
  rw [hZ] at eS ⊢
  rw [hS]
  clear xS hS n35Z n47Z n33Z neS xZ hZ eZ
  go_enter Tryz.func62, Tryz.ntmps62
  go_wp2_with fail
  refine bodyPost_ret (results_tmp4 rfl _ _) rfl ?_
  exact ⟨by first | rfl | (simp; done), rfl⟩
theorem rterm_any (p : List UInt8) (w : World) : Calls Tryz.prog 62 #[.string (bOf p)] w fun e' w' => e' = .returned (.tuple #[.bool (termR p).nt, .int .u8 ((termR p).sg.toNat : Int), .string (bOf (termR p).tx), .bool (termR p).ok]) ∧ w' = w := by
  cases p with
  | nil => exact rterm_nil w
  | cons x r =>
    by_cases h33 : x = 33
    · subst h33
      cases r with
      | nil => exact rterm_t w
      | cons y q =>
        by_cases h1 : y = 35
        · subst h1
          exact rterm_tm35 q _ rfl w
        by_cases h2 : y = 47
        · subst h2
          exact rterm_tm47 q _ rfl w
        by_cases h3 : y = 33
        · subst h3
          exact rterm_tt q w
        have e : termR (33 :: y :: q) = ⟨true, 0, y :: q, true⟩ := by
          show (if y = 35 ∨ y = 47 then (⟨true, y, q, !q.isEmpty⟩ : TmR) else if y = 33 then ⟨false, 0, [], false⟩ else ⟨true, 0, y :: q, true⟩) = _
          rw [if_neg (fun h => h.elim h1 h2), if_neg h3]
        rw [e]
        exact rterm_tp y q h1 h2 h3 w
    · by_cases h1 : x = 35
      · subst h1
        exact rterm_m35 r _ rfl w
      by_cases h2 : x = 47
      · subst h2
        exact rterm_m47 r _ rfl w
      have e : termR (x :: r) = ⟨false, 0, x :: r, true⟩ := by
        show (if x = 33 then termB true r else termB false (x :: r)) = _
        rw [if_neg h33]
        show (if x = 35 ∨ x = 47 then (⟨false, x, r, !r.isEmpty⟩ : TmR) else if x = 33 then ⟨false, 0, [], false⟩ else ⟨false, 0, x :: r, true⟩) = _
        rw [if_neg (fun h => h.elim h1 h2), if_neg h33]
      rw [e]
      exact rterm_p x r h1 h2 h33 w
end Go.Proofs.YteokeghenjobaaaGreatDoor
namespace Go.Proofs.YteokeghenjobaaaGreatDoor
open Go.ChangeShapes Go.WideShapes Go.ChangeAt Go.RowKit
attribute [local go_sem ↓] Go.wp_at_zero Go.wp_at_succ
attribute [local go_sem] Oper.semAt_some
theorem one1S (x : ByteArray) : ∀ u ∈ [strV x], u.oneCell' = true := by
  intro u hu
  simp at hu
  subst hu
  rfl
theorem infoSt : (Tryz.prog.info? 9).map (fun i => (i.zero, i.size, i.bytes)) = some (some (.string ByteArray.empty), 1, 16) := by kernel_rfl
theorem rd_newS (w : World) (x : ByteArray) {g : Nat} (hg : g = w.heap.size) : Rd (w.alloc (.cells #[.string x] 9)) (some ⟨g, 0, none⟩) 1 1 [strV x] := by
  subst hg
  refine ⟨rfl, Or.inr ⟨_, 0, rfl, fun j u hj => ?_⟩⟩
  rw [Joins.cell_of_block (heap_alloc_new w _), Nat.zero_add]
  simpa [strV] using hj
def RowS (w : World) (base : Nat) (v : Value) (L : List ByteArray) : Prop := w.ownsRow base 9 1 v L.length (L.map strV)
theorem RowS.snoc {w : World} {base : Nat} {v : Value} {L : List ByteArray} {x : ByteArray} (h : w.ownsRow base 9 1 v (L.length + 1) (L.map strV ++ [strV x])) : RowS w base v (L ++ [x]) := by
  unfold RowS
  rw [List.length_append, List.map_append]
  simpa using h
structure PtI (q : List UInt8) (k : Nat) (L : List (List UInt8)) (f : Nat) : Prop where
  le : f ≤ k
  sp : splitL q = L ++ splitL (q.drop f)
  nb : ∀ x ∈ (q.drop f).take (k - f), x ≠ 32
theorem PtI.start (q : List UInt8) : PtI q 0 [] 0 := ⟨Nat.le_refl _, rfl, fun x hx => by simp at hx⟩
theorem PtI.step {q : List UInt8} {k f : Nat} {L : List (List UInt8)} (h : PtI q k L f) (hk : k < q.length) (hx : q[k] ≠ 32) : PtI q (k + 1) L f := by
  refine ⟨by have := h.le; omega, h.sp, fun x hx2 => ?_⟩
  have hle := h.le
  have e : (q.drop f).take (k + 1 - f) = (q.drop f).take (k - f) ++ [q[k]] := by
    rw [show k + 1 - f = (k - f) + 1 by omega, List.take_add_one, List.getElem?_drop, show f + (k - f) = k by omega, List.getElem?_eq_getElem hk]
    rfl
  rw [e, List.mem_append] at hx2
  rcases hx2 with hx2 | hx2
  · exact h.nb x hx2
  · rw [List.mem_singleton] at hx2
    rw [hx2]
    exact hx
theorem drop_split {q : List UInt8} {k f : Nat} (hf : f ≤ k) (hk : k < q.length) : q.drop f = (q.drop f).take (k - f) ++ q[k] :: q.drop (k + 1) := by
  have h1 := (List.take_append_drop (k - f) (q.drop f)).symm
  rw [List.drop_drop, show f + (k - f) = k by omega, List.drop_eq_getElem_cons hk] at h1
  exact h1
theorem PtI.cut {q : List UInt8} {k f : Nat} {L : List (List UInt8)} (h : PtI q k L f) (hk : k < q.length) (hx : q[k] = 32) : PtI q (k + 1) (L ++ [(q.drop f).take (k - f)]) (k + 1) := by
  refine ⟨Nat.le_refl _, ?_, fun x hx2 => by simp at hx2⟩
  have e2 : splitL (q.drop f) = (q.drop f).take (k - f) :: splitL (q.drop (k + 1)) := by
    conv => lhs; rw [drop_split h.le hk, hx]
    exact splitL_at h.nb
  rw [h.sp, e2]
  simp
theorem PtI.end_ {q : List UInt8} {f : Nat} {L : List (List UInt8)} (h : PtI q q.length L f) : splitL q = L ++ [q.drop f] := by
  rw [h.sp]
  have hn : ∀ x ∈ q.drop f, x ≠ 32 := by
    intro x hx
    refine h.nb x ?_
    rw [List.take_of_length_le (by rw [List.length_drop]; omega)]
    exact hx
  rw [splitL_no hn]
theorem parts_any (q : List UInt8) (hl : q.length ≤ 100000) (w : World) : Calls Tryz.prog 61 #[.string (bOf q)] w fun e' w' => ∃ v, e' = .returned v ∧ RowS w' w.heap.size v ((splitL q).map bOf) ∧ Below w.heap.size w w' := by
  obtain ⟨S, hS⟩ : ∃ S, bOf q = S := ⟨_, rfl⟩
  obtain ⟨n, hn⟩ : ∃ n, q.length = n := ⟨_, rfl⟩
  have hsz : S.size = n := by rw [← hS, bOf_size, hn]
  have hget : ∀ (k : Nat) (h : k < S.size) (h2 : k < q.length), S[k]'h = q[k] := fun k h h2 => by
    subst hS
    rfl
  have hext : ∀ a b : Nat, S.extract a b = bOf ((q.drop a).take (b - a)) := fun a b => by
    rw [← hS]
    apply ByteArray.ext
    apply Array.toList_inj.1
    simp [bOf]
  rw [hS]
  have HS := Lib.hid (And.intro hn (And.intro hsz hget))
  have HE := Lib.hid hext
  have hSi : (S.size : Int) = (n : Int) := by rw [hsz]
  have HSI := Lib.hid hSi
  rw [hn] at hl
  clear hS hn hget hext hsz hSi
  go_enter Tryz.func61, Tryz.ntmps61
  go_wp2_with fail
  go_loopw [3, 4, 5] (fun sv fv i wr => ∃ (k f : Nat) (L : List (List UInt8)), k ≤ n ∧ i = .int .i64 k ∧ fv = .int .i64 f ∧ f ≤ k ∧ L.length ≤ k ∧ Hid (PtI q k L f) ∧ Hid (RowS wr w.heap.size sv (L.map bOf)) ∧ Below w.heap.size w wr) (fun _ _ i _ => n - (intOf i).toNat)
  case atStart => exact ⟨0, 0, [], by omega, rfl, rfl, by omega, by simp, Lib.hid (PtI.start q), Lib.hid (World.ownsRow_nil _ _ _ _), Below.refl _ _⟩
  case round =>
    obtain ⟨k, f, L0, hk, rfl, rfl, hfk, hL0, HP, HR, HBr⟩ := hrel
    obtain ⟨L, hL⟩ : ∃ L, L0.map bOf = L := ⟨_, rfl⟩
    obtain ⟨M, hM⟩ : ∃ M, L.length = M := ⟨_, rfl⟩
    have hMk : M ≤ k := by rw [← hM, ← hL, List.length_map]; exact hL0
    rw [hL] at HR
    have hon0 := HR.out
    unfold RowS at hon0
    rw [hM] at hon0
    have hon := hon0
    have HLL := Lib.hid (And.intro hL hM)
    have hsz1 := HBr.size
    clear hL hM hon0 HR
    by_cases hlt : k < n
    · have i0 : (0 : Int) ≤ (k : Int) := by omega
      have i1 : (k : Int) < (S.size : Int) := by rw [HSI.out]; omega
      have hkq : k < q.length := by have := HS.out.1; omega
      have hks : k < S.size := by have := HS.out.2.1; omega
      by_cases h32 : q[k] = 32
      · have i3 : ∀ h : k < S.size, ((S[k]'h).toNat : Int) = 32 := fun h => by rw [HS.out.2.2 k h hkq, h32]; rfl
        have f0 : (0 : Int) ≤ (f : Int) := by omega
        have f1 : (f : Int) ≤ (k : Int) := by omega
        have f2 : (k : Int) ≤ (S.size : Int) := by omega
        have HC := Lib.hid (HP.out.cut hkq h32)
        clear h32
        go_wp2_with (at_builtin; obtain ⟨ti0, hi, hz0, hz1, hz2⟩ := info_parts infoSt; refine wpList_app _ rfl (.tmp 16) (.tmp 21) _ rfl w.heap.size 9 ti0 _ 1 16 Tryz.underlying38 hi hz0 hz1 hz2 rfl (by decide) _ M (L.map strV) rfl (hon.alloc _) _ 1 _ [strV (S.extract f k)] rfl (rd_newS _ _ (by simp)) (one1S _) (by unfold maxLen; omega) (by omega) (by simp; omega) ?_; intro v' w'' ho' hg' hv'; clear hi hz0 hz1 hz2)
        have HF : Below w.heap.size w w'' := (HBr.alloc HBr.size _).trans (below_app (by omega) (by simp; omega) (hon.alloc _) hg')
        have HR2 : Hid (RowS w'' w.heap.size v' ((L0 ++ [(q.drop f).take (k - f)]).map bOf)) := Lib.hid (by
          rw [List.map_append, HLL.out.1]
          have e : bOf ((q.drop f).take (k - f)) = S.extract f k := by rw [HE.out]
          show RowS _ _ _ (L ++ [bOf ((q.drop f).take (k - f))])
          rw [e]
          exact RowS.snoc (by rw [HLL.out.2]; exact ho'))
        clear ho' hg' hv' hon
        go_roundw
        case rel => exact ⟨k + 1, k + 1, L0 ++ [(q.drop f).take (k - f)], by omega, by go_num, by go_num, by omega, by simp; omega, HC, HR2, HF⟩
        case measure => simp [intOf]; omega
      · have i3 : ∀ h : k < S.size, (((S[k]'h).toNat : Int) == 32) = false := fun h => by
          rw [HS.out.2.2 k h hkq]
          exact beq_eq_false_iff_ne.2 (fun e => h32 (UInt8.toNat_inj.1 (by rw [show (32 : UInt8).toNat = 32 from rfl]; omega)))
        have HC := Lib.hid (HP.out.step hkq h32)
        clear h32
        go_wp2_with fail
        go_roundw
        case rel => exact ⟨k + 1, f, L0, by omega, by go_num, by first | rfl | go_num, by omega, by omega, HC, Lib.hid (by rw [HLL.out.1]; unfold RowS; rw [HLL.out.2]; exact hon), HBr⟩
        case measure => simp [intOf]; omega
    · obtain rfl : n = k := by omega
      have g8 : ¬ (n : Int) < (S.size : Int) := by rw [HSI.out]; omega
      have f0 : (0 : Int) ≤ (f : Int) := by omega
      have f1 : (f : Int) ≤ (S.size : Int) := by rw [HSI.out]; omega
      have f2 : f ≤ S.size := by have := HS.out.2.1; omega
      clear hlt
      go_wp2_with (at_builtin; obtain ⟨ti0, hi, hz0, hz1, hz2⟩ := info_parts infoSt; refine wpList_app _ rfl (.tmp 25) (.tmp 29) _ rfl w.heap.size 9 ti0 _ 1 16 Tryz.underlying38 hi hz0 hz1 hz2 rfl (by decide) _ M (L.map strV) rfl (hon.alloc _) _ 1 _ [strV (S.extract f S.size)] rfl (rd_newS _ _ (by simp)) (one1S _) (by unfold maxLen; omega) (by omega) (by simp; omega) ?_; intro v' w'' ho' hg' hv'; clear hi hz0 hz1 hz2)
      go_ret
      have HF : Below w.heap.size w w'' := (HBr.alloc HBr.size _).trans (below_app (by omega) (by simp; omega) (hon.alloc _) hg')
      refine ⟨_, rfl, ?_, HF⟩
      have he := (show PtI q q.length L0 f by rw [HS.out.1]; exact HP.out).end_
      rw [he, List.map_append, HLL.out.1]
      have e : bOf (q.drop f) = S.extract f S.size := by rw [HE.out, List.take_of_length_le (by rw [List.length_drop, HS.out.1, HS.out.2.1]; exact Nat.le_refl _)]
      show RowS _ _ _ (L ++ [bOf (q.drop f)])
      rw [e]
      exact RowS.snoc (by rw [HLL.out.2]; exact ho')
end Go.Proofs.YteokeghenjobaaaGreatDoor
namespace Go.Proofs.YteokeghenjobaaaGreatDoor
open Go.ChangeShapes Go.WideShapes Go.ChangeAt Go.RowKit
attribute [local go_sem ↓] Go.wp_at_zero Go.wp_at_succ
attribute [local go_sem] Oper.semAt_some
def trmsP (q : List UInt8) : List (List UInt8) := if q.isEmpty then [] else splitL q
theorem RowS.shape {w : World} {base : Nat} {v : Value} {L : List ByteArray} (h : RowS w base v L) : ∃ A c, v = .slice A L.length c ∧ Sl w w.heap.size A (L.map strV) := by
  obtain ⟨A, c, rfl, -, -⟩ := own_shape h
  exact ⟨A, c, rfl, Sl.of_own h⟩
theorem trmsP_len (q : List UInt8) : (trmsP q).length ≤ q.length + 1 := by
  unfold trmsP
  split
  · simp
  · exact splitL_len q
theorem terms_any (q : List UInt8) (hl : q.length ≤ 100000) (n : Nat) (hn : (trmsP q).length = n) (w : World) : Calls Tryz.prog 46 #[.string (bOf q)] w fun e' w' => ∃ A c, e' = .returned (.slice A n c) ∧ Sl w' w'.heap.size A (((trmsP q).map bOf).map strV) ∧ Below w.heap.size w w' := by
  cases q with
  | nil =>
    subst hn
    rw [show bOf [] = ⟨#[]⟩ from rfl]
    go_enter Tryz.func46, Tryz.ntmps46
    go_wp2_with fail
    go_ret
    exact ⟨none, 0, rfl, Or.inl rfl, Below.refl _ _⟩
  | cons x l =>
    have e : trmsP (x :: l) = splitL (x :: l) := rfl
    rw [e] at hn ⊢
    have hp := parts_any (x :: l) hl w
    obtain ⟨S, hS⟩ : ∃ S, bOf (x :: l) = S := ⟨_, rfl⟩
    have hne : S.toList.isEmpty = false := by rw [← hS]; exact bOf_ne x l
    rw [hS] at hp ⊢
    have HP := Lib.hid hp
    have HN := Lib.hid hn
    clear hp hS hn e
    go_enter Tryz.func46, Tryz.ntmps46
    go_wp2_with (go_at_call 61; ((with_reducible refine HP.out.mono ?_); rintro e' w1 ⟨v1, rfl, hr, b1⟩))
    go_ret
    obtain ⟨A, c, hv, hs⟩ := RowS.shape hr
    rw [List.length_map, HN.out] at hv
    exact ⟨A, c, (by rw [← hv]; rfl), hs, b1⟩
theorem mayQ_terms (q : List UInt8) (h : q.length ≤ 200) : mayQ q = (trmsP q).all fun p => (termR p).ok := by
  have gen : ∀ l : List (List UInt8), (trmsL l).isSome = l.all fun p => (termR p).ok := by
    intro l
    induction l with
    | nil => rfl
    | cons p l ih =>
      show ((trmL p).bind fun t => (trmsL l).map (t :: ·)).isSome = ((termR p).ok && l.all fun p => (termR p).ok)
      rw [termR_trm, ← ih]
      cases (termR p).ok
      · rfl
      · rw [if_pos rfl]
        cases trmsL l <;> rfl
  unfold mayQ
  cases q with
  | nil => rfl
  | cons x l =>
    rw [read_split (by simp) h, gen]
    rfl
theorem mayQ_great {q : List UInt8} (h : 200 < q.length) : mayQ q = false := by
  unfold mayQ readL
  rw [if_pos h]
  rfl
theorem rmayq_any (q : List UInt8) (hl : q.length ≤ 100000) (T : Bool) (hT : mayQ q = T) (w : World) : Calls Tryz.prog 24 #[.string (bOf q)] w fun e' w' => e' = .returned (.bool T) ∧ Below w.heap.size w w' := by
  obtain ⟨S, hS⟩ : ∃ S, bOf q = S := ⟨_, rfl⟩
  have hsz : (S.size : Int) = (q.length : Int) := by rw [← hS, bOf_size]
  have HT := Lib.hid hT
  by_cases h2 : 200 < q.length
  · have h1 : (200 : Int) < (S.size : Int) := by omega
    have HG := Lib.hid h2
    rw [hS]
    clear h2 hsz hS hT hl
    go_enter Tryz.func24, Tryz.ntmps24
    go_wp2_with fail
    go_ret
    exact ⟨by rw [← HT.out, mayQ_great HG.out]; rfl, Below.refl _ _⟩
  · have h1 : ¬ (200 : Int) < (S.size : Int) := by omega
    obtain ⟨n, hn⟩ : ∃ n, (trmsP q).length = n := ⟨_, rfl⟩
    have hp := terms_any q hl n hn w
    have hn201 : n ≤ 201 := by rw [← hn]; have := trmsP_len q; omega
    rw [hS] at hp ⊢
    have HP := Lib.hid hp
    have HN := Lib.hid hn
    have HTM : Hid (T = (trmsP q).all fun p => (termR p).ok) := Lib.hid (by rw [← hT]; exact mayQ_terms q (by omega))
    clear hp hn hS hsz hT hl h2
    go_enter Tryz.func24, Tryz.ntmps24
    go_wp2_with (go_at_call 46; ((with_reducible refine HP.out.mono ?_); rintro e' w1 ⟨A1, c1, rfl, hr, b1⟩))
    go_loopw [4] (fun i wr => ∃ k : Nat, k ≤ n ∧ i = .int .i64 k ∧ Below w1.heap.size w1 wr ∧ Hid (((trmsP q).take k).any (fun p => !(termR p).ok) = false)) (fun i _ => n - (intOf i).toNat)
    case atStart => exact ⟨0, by omega, rfl, Below.refl _ _, Lib.hid rfl⟩
    case round =>
      obtain ⟨k, hk, rfl, HBr, HK⟩ := hrel
      by_cases hlt : k < n
      · have hlx : k < (trmsP q).length := by have := HN.out; omega
        obtain ⟨b1', o1, rfl, l1, q1⟩ := hr.at_ (by rw [List.length_map, List.length_map]; omega)
        obtain ⟨x, hx⟩ : ∃ x, (trmsP q)[k]? = some x := ⟨_, List.getElem?_eq_getElem hlx⟩
        have cx : wr.cell? ⟨b1', o1 + k, none⟩ = some (.string (bOf x)) := (HBr.cell (p := ⟨b1', _, none⟩) l1).trans (q1 k _ (by rw [List.getElem?_map, List.getElem?_map, hx]; rfl))
        have i0 : (0 : Int) ≤ (k : Int) := by omega
        have i1 : (k : Int) < (n : Int) := by omega
        have HX := Lib.hid hx
        obtain ⟨Y, hY⟩ : ∃ Y, bOf x = Y := ⟨_, rfl⟩
        obtain ⟨TM, hTM⟩ : ∃ t, termR x = t := ⟨_, rfl⟩
        have hterm := rterm_any x wr
        rw [hY, hTM] at hterm
        rw [hY] at cx
        have HTR := Lib.hid hterm
        have HTX := Lib.hid hTM
        clear q1 hx hlx hY hTM hterm
        obtain ⟨tn, ts, tt, tk⟩ := TM
        cases tk
        · have HF : Hid (T = false) := Lib.hid (by
            rw [HTM.out]
            rw [← Bool.not_eq_true, List.all_eq_true]
            intro h
            have := h x (List.mem_of_getElem? HX.out)
            rw [HTX.out] at this
            cases this)
          go_wp2_with (go_at_call 62; ((with_reducible refine HTR.out.mono ?_); rintro e' w2 ⟨rfl, rfl⟩))
          go_ret
          exact ⟨by rw [HF.out]; rfl, btr b1 b1.size HBr⟩
        · have HP2 : Hid ((!(termR x).ok) = false) := Lib.hid (by rw [HTX.out]; rfl)
          go_wp2_with (go_at_call 62; ((with_reducible refine HTR.out.mono ?_); rintro e' w2 ⟨rfl, rfl⟩))
          go_roundw
          case rel => exact ⟨k + 1, by omega, by go_num, HBr, Lib.hid (any_next HK.out HX.out HP2.out)⟩
          case measure => simp [intOf]; omega
      · obtain rfl : n = k := by omega
        clear hlt
        go_wp2_with fail
        go_ret
        refine ⟨?_, btr b1 b1.size HBr⟩
        have h := HK.out
        rw [List.take_of_length_le (by rw [HN.out]; exact Nat.le_refl _)] at h
        have hT2 : T = true := by
          rw [HTM.out, List.all_eq_true]
          intro p hp
          have := List.any_eq_false.1 h p hp
          simpa using this
        rw [hT2]
        rfl
end Go.Proofs.YteokeghenjobaaaGreatDoor
