/- The laws' own: what is the same. -/
import Derived.Test.YtllnfociddodcaaDoorCr1
import Derived.OwnWalk
import Derived.Deep.RegionHeld3
import Derived.Deep.DrawnRows
import Derived.Deep.DeepCutAuto
import Derived.Room.AppendStr
import Derived.Laws.BytesArg
import Derived.ScopeJumps
import Derived.WalkMore
set_option linter.unusedSimpArgs false
set_option linter.unusedVariables false
set_option maxRecDepth 100000
set_option maxHeartbeats 16000000
namespace Go.Proofs.YtllnfociddodcaaDoor
open Go.ChangeShapes Go.WideShapes Go.ChangeAt Go.RowKit
attribute [local go_sem ↓] Go.wp_at_zero Go.wp_at_succ
theorem below_dr (w : World) : Below w.heap.size w w.drew := below_dn (Below.refl w.heap.size w) 1
theorem sameBooks_yes (L : List Bk) (A B : Option Addr) (c d : Nat) (w : World) (n1 : L.length ≤ 1000000) (h1 : BksIn w w.heap.size A L) (h2 : BksIn w w.heap.size B L) : Calls Tryd.prog 35 #[.slice A L.length c, .slice B L.length d] w fun e' w' => e' = .returned (.bool true) ∧ Below w.heap.size w w' := by
  obtain ⟨n, hn⟩ : ∃ n, L.length = n := ⟨_, rfl⟩
  rw [hn] at n1 ⊢
  have HN := Lib.hid hn
  have H1 := Lib.hid h1
  have H2 := Lib.hid h2
  clear hn h1 h2
  go_enter Tryd.func35, Tryd.ntmps35
  go_wp2_with fail
  go_loopw [5] (fun s5 wr => ∃ k : Nat, k ≤ n ∧ s5 = .int .i64 (k : Int) ∧ Below w.heap.size w wr) (fun s5 _ => n - (intOf s5).toNat)
  case atStart => exact ⟨0, Nat.zero_le _, rfl, Below.refl _ _⟩
  case round =>
    obtain ⟨k, hk, rfl, hB⟩ := hrel
    by_cases hlt : k < n
    · have hlx : k < L.length := by have := HN.out; omega
      obtain ⟨b1, o1, rfl, l1, q1⟩ := (SlE.below H1.out hB).at_ (by rw [List.length_map]; omega)
      obtain ⟨b2, o2, rfl, l2, q2⟩ := (SlE.below H2.out hB).at_ (by rw [List.length_map]; omega)
      obtain ⟨x, hx⟩ : ∃ x, L[k]? = some x := ⟨_, List.getElem?_eq_getElem hlx⟩
      have he : (L.map bkC)[k]? = some (bkC x) := by rw [List.getElem?_map, hx]; rfl
      have x0 := q1 k _ he 0 _ rfl
      have x1 := q1 k _ he 1 _ rfl
      have y0 := q2 k _ he 0 _ rfl
      have y1 := q2 k _ he 1 _ rfl
      simp only [Nat.add_zero] at x0 y0
      clear he
      have k0 : (0 : Int) ≤ (k : Int) := by omega
      have k1 : (k : Int) < (n : Int) := by omega
      clear hx q1 q2 hlx
      go_upto_region 6 with fail
      refine wp_region_noPanic ?_
      refine wp_region_held_drew (S := (fun w_ => w_.cell? ⟨b1, o1 + k * 2, none⟩ = some (.int .i64 x.id) ∧ w_.cell? ⟨b1, o1 + k * 2 + 1, none⟩ = some (.string x.nm) ∧ w_.cell? ⟨b2, o2 + k * 2, none⟩ = some (.int .i64 x.id) ∧ w_.cell? ⟨b2, o2 + k * 2 + 1, none⟩ = some (.string x.nm))) (by kernel_rfl) ?_ (fun hHeld => ?_)
      · (first | exact ⟨x0, x1, y0, y1⟩ | assumption)
      refine tk 0 ?_; try simp only [Act.put, pz1, pz2, pz3]
      refine tk 1 ?_; try simp only [Act.put, pz1, pz2, pz3]
      refine tk 2 ?_; try simp only [Act.put, pz1, pz2, pz3]
      refine tk 3 ?_; try simp only [Act.put, pz1, pz2, pz3]
      refine tk 4 ?_; try simp only [Act.put, pz1, pz2, pz3]
      refine tk 5 ?_; try simp only [Act.put, pz1, pz2, pz3]
      refine tk 6 ?_; try simp only [Act.put, pz1, pz2, pz3]
      refine tk 7 ?_; try simp only [Act.put, pz1, pz2, pz3]
      refine tk 8 ?_; try simp only [Act.put, pz1, pz2, pz3]
      refine wpAnyH_done (by kernel_rfl) ?_ _
      refine NoPanic.normal ?_
      go_wp2_with fail
      go_roundw
      case rel => exact ⟨k + 1, by omega, by go_num, (by first | exact hB | exact drew_below hB)⟩
      case measure => simp [intOf]; omega
    · obtain rfl : k = n := by omega
      go_wp2_with fail
      go_ret
      exact ⟨rfl, hB⟩
theorem sameTexts_yes (L : List ByteArray) (A B : Option Addr) (c d : Nat) (w : World) (n1 : L.length ≤ 1000000) (h1 : Sl w w.heap.size A (L.map strV)) (h2 : Sl w w.heap.size B (L.map strV)) : Calls Tryd.prog 46 #[.slice A L.length c, .slice B L.length d] w fun e' w' => e' = .returned (.bool true) ∧ Below w.heap.size w w' := by
  obtain ⟨n, hn⟩ : ∃ n, L.length = n := ⟨_, rfl⟩
  rw [hn] at n1 ⊢
  have HN := Lib.hid hn
  have H1 := Lib.hid h1
  have H2 := Lib.hid h2
  clear hn h1 h2
  go_enter Tryd.func46, Tryd.ntmps46
  go_wp2_with fail
  go_loopw [5] (fun s5 wr => ∃ k : Nat, k ≤ n ∧ s5 = .int .i64 (k : Int) ∧ Below w.heap.size w wr) (fun s5 _ => n - (intOf s5).toNat)
  case atStart => exact ⟨0, Nat.zero_le _, rfl, Below.refl _ _⟩
  case round =>
    obtain ⟨k, hk, rfl, hB⟩ := hrel
    by_cases hlt : k < n
    · have hlx : k < L.length := by have := HN.out; omega
      obtain ⟨b1, o1, rfl, l1, q1⟩ := (Sl.below H1.out hB).at_ (by rw [List.length_map]; omega)
      obtain ⟨b2, o2, rfl, l2, q2⟩ := (Sl.below H2.out hB).at_ (by rw [List.length_map]; omega)
      obtain ⟨x, hx⟩ : ∃ x, L[k]? = some x := ⟨_, List.getElem?_eq_getElem hlx⟩
      have x0 := q1 k (.string x) (by rw [List.getElem?_map, hx]; rfl)
      have y0 := q2 k (.string x) (by rw [List.getElem?_map, hx]; rfl)
      have k0 : (0 : Int) ≤ (k : Int) := by omega
      have k1 : (k : Int) < (n : Int) := by omega
      clear hx q1 q2 hlx
      go_upto_region 6 with fail
      refine wp_region_noPanic ?_
      refine wp_region_held_drew (S := (fun w_ => w_.cell? ⟨b1, o1 + k, none⟩ = some (.string x) ∧ w_.cell? ⟨b2, o2 + k, none⟩ = some (.string x))) (by kernel_rfl) ?_ (fun hHeld => ?_)
      · (first | exact ⟨x0, y0⟩ | assumption)
      refine tk 0 ?_; try simp only [Act.put, pz1, pz2, pz3]
      refine tk 1 ?_; try simp only [Act.put, pz1, pz2, pz3]
      refine tk 2 ?_; try simp only [Act.put, pz1, pz2, pz3]
      refine tk 3 ?_; try simp only [Act.put, pz1, pz2, pz3]
      refine tk 4 ?_; try simp only [Act.put, pz1, pz2, pz3]
      refine tk 5 ?_; try simp only [Act.put, pz1, pz2, pz3]
      refine tk 6 ?_; try simp only [Act.put, pz1, pz2, pz3]
      refine tk 7 ?_; try simp only [Act.put, pz1, pz2, pz3]
      refine tk 8 ?_; try simp only [Act.put, pz1, pz2, pz3]
      refine wpAnyH_done (by kernel_rfl) ?_ _
      refine NoPanic.normal ?_
      go_wp2_with fail
      go_roundw
      case rel => exact ⟨k + 1, by omega, by go_num, (by first | exact hB | exact drew_below hB)⟩
      case measure => simp [intOf]; omega
    · obtain rfl : k = n := by omega
      go_wp2_with fail
      go_ret
      exact ⟨rfl, hB⟩
theorem sameInts_yes (L : List Int) (A B : Option Addr) (c d : Nat) (w : World) (n1 : L.length ≤ 1000000) (h1 : Sl w w.heap.size A (L.map (Value.int .i64))) (h2 : Sl w w.heap.size B (L.map (Value.int .i64))) : Calls Tryd.prog 47 #[.slice A L.length c, .slice B L.length d] w fun e' w' => e' = .returned (.bool true) ∧ Below w.heap.size w w' := by
  obtain ⟨n, hn⟩ : ∃ n, L.length = n := ⟨_, rfl⟩
  rw [hn] at n1 ⊢
  have HN := Lib.hid hn
  have H1 := Lib.hid h1
  have H2 := Lib.hid h2
  clear hn h1 h2
  go_enter Tryd.func47, Tryd.ntmps47
  go_wp2_with fail
  go_loopw [5] (fun s5 wr => ∃ k : Nat, k ≤ n ∧ s5 = .int .i64 (k : Int) ∧ Below w.heap.size w wr) (fun s5 _ => n - (intOf s5).toNat)
  case atStart => exact ⟨0, Nat.zero_le _, rfl, Below.refl _ _⟩
  case round =>
    obtain ⟨k, hk, rfl, hB⟩ := hrel
    by_cases hlt : k < n
    · have hlx : k < L.length := by have := HN.out; omega
      obtain ⟨b1, o1, rfl, l1, q1⟩ := (Sl.below H1.out hB).at_ (by rw [List.length_map]; omega)
      obtain ⟨b2, o2, rfl, l2, q2⟩ := (Sl.below H2.out hB).at_ (by rw [List.length_map]; omega)
      obtain ⟨x, hx⟩ : ∃ x, L[k]? = some x := ⟨_, List.getElem?_eq_getElem hlx⟩
      have x0 := q1 k (.int .i64 x) (by rw [List.getElem?_map, hx]; rfl)
      have y0 := q2 k (.int .i64 x) (by rw [List.getElem?_map, hx]; rfl)
      have k0 : (0 : Int) ≤ (k : Int) := by omega
      have k1 : (k : Int) < (n : Int) := by omega
      clear hx q1 q2 hlx
      go_upto_region 6 with fail
      refine wp_region_noPanic ?_
      refine wp_region_held_drew (S := (fun w_ => w_.cell? ⟨b1, o1 + k, none⟩ = some (.int .i64 x) ∧ w_.cell? ⟨b2, o2 + k, none⟩ = some (.int .i64 x))) (by kernel_rfl) ?_ (fun hHeld => ?_)
      · (first | exact ⟨x0, y0⟩ | assumption)
      refine tk 0 ?_; try simp only [Act.put, pz1, pz2, pz3]
      refine tk 1 ?_; try simp only [Act.put, pz1, pz2, pz3]
      refine tk 2 ?_; try simp only [Act.put, pz1, pz2, pz3]
      refine tk 3 ?_; try simp only [Act.put, pz1, pz2, pz3]
      refine tk 4 ?_; try simp only [Act.put, pz1, pz2, pz3]
      refine tk 5 ?_; try simp only [Act.put, pz1, pz2, pz3]
      refine tk 6 ?_; try simp only [Act.put, pz1, pz2, pz3]
      refine tk 7 ?_; try simp only [Act.put, pz1, pz2, pz3]
      refine tk 8 ?_; try simp only [Act.put, pz1, pz2, pz3]
      refine wpAnyH_done (by kernel_rfl) ?_ _
      refine NoPanic.normal ?_
      go_wp2_with fail
      go_roundw
      case rel => exact ⟨k + 1, by omega, by go_num, (by first | exact hB | exact drew_below hB)⟩
      case measure => simp [intOf]; omega
    · obtain rfl : k = n := by omega
      go_wp2_with fail
      go_ret
      exact ⟨rfl, hB⟩
theorem sameNote_yes (n : Nt) (A1 A2 A3 A4 : Option Addr) (c1 c2 c3 c4 : Nat) (w : World) (h1 : Sl w w.heap.size A1 (n.tg.map strV)) (h2 : Sl w w.heap.size A2 (n.sh.map (Value.int .i64))) (h3 : Sl w w.heap.size A3 (n.tg.map strV)) (h4 : Sl w w.heap.size A4 (n.sh.map (Value.int .i64))) (m1 : n.tg.length ≤ 100000) (m2 : n.sh.length ≤ 100000) : Calls Tryd.prog 36 #[.agg #[.int .i64 n.id, .int .i64 n.bk, .string n.nm, .slice A1 n.tg.length c1, .slice A2 n.sh.length c2], .agg #[.int .i64 n.id, .int .i64 n.bk, .string n.nm, .slice A3 n.tg.length c3, .slice A4 n.sh.length c4]] w fun e' w' => e' = .returned (.bool true) ∧ Below w.heap.size w w' := by
  have HB : Below w.heap.size w ((w.alloc (.cells #[.int .i64 n.id, .int .i64 n.bk, .string n.nm, .slice A1 n.tg.length c1, .slice A2 n.sh.length c2] 52)).alloc (.cells #[.int .i64 n.id, .int .i64 n.bk, .string n.nm, .slice A3 n.tg.length c3, .slice A4 n.sh.length c4] 52)) := (((Below.refl w.heap.size w).alloc (by first | (simp; done) | (simp; omega)) _).alloc (by first | (simp; done) | (simp; omega)) _)
  have B1 : Blk ((w.alloc (.cells #[.int .i64 n.id, .int .i64 n.bk, .string n.nm, .slice A1 n.tg.length c1, .slice A2 n.sh.length c2] 52)).alloc (.cells #[.int .i64 n.id, .int .i64 n.bk, .string n.nm, .slice A3 n.tg.length c3, .slice A4 n.sh.length c4] 52)) w.heap.size 52 #[.int .i64 n.id, .int .i64 n.bk, .string n.nm, .slice A1 n.tg.length c1, .slice A2 n.sh.length c2] := (Blk.new_ w 52 #[.int .i64 n.id, .int .i64 n.bk, .string n.nm, .slice A1 n.tg.length c1, .slice A2 n.sh.length c2]).alloc_ _
  have B2 : Blk ((w.alloc (.cells #[.int .i64 n.id, .int .i64 n.bk, .string n.nm, .slice A1 n.tg.length c1, .slice A2 n.sh.length c2] 52)).alloc (.cells #[.int .i64 n.id, .int .i64 n.bk, .string n.nm, .slice A3 n.tg.length c3, .slice A4 n.sh.length c4] 52)) (w.heap.size + 1) 52 #[.int .i64 n.id, .int .i64 n.bk, .string n.nm, .slice A3 n.tg.length c3, .slice A4 n.sh.length c4] := by
    have := Blk.new_ (w.alloc (.cells #[.int .i64 n.id, .int .i64 n.bk, .string n.nm, .slice A1 n.tg.length c1, .slice A2 n.sh.length c2] 52)) 52 #[.int .i64 n.id, .int .i64 n.bk, .string n.nm, .slice A3 n.tg.length c3, .slice A4 n.sh.length c4]
    first | (simp; done) | simpa using this
  have S1 := h1.next HB
  have S2 := h2.next HB
  have S3 := h3.next HB
  have S4 := h4.next HB
  clear h1 h2 h3 h4
  go_enter Tryd.func36, Tryd.ntmps36
  go_wp2_with (first | (go_at_call 46; ((with_reducible refine (sameTexts_yes n.tg _ _ _ _ _ (by omega) S1 S3).mono ?_); rintro e' w3 ⟨rfl, bx⟩; have B1 := B1.below bx B1.lt; have B2 := B2.below bx B2.lt; have HB := btr HB HB.size bx; have S2 := S2.next bx; have S4 := S4.next bx; have S1 := S1.next bx; have S3 := S3.next bx; (try clear k0 k1 k2 k3 k4 r0 r1 r2 r3 r4); have k0 := B1.cell_ 0; have r0 := B2.cell_ 0; have k1 := B1.cell_ 1; have r1 := B2.cell_ 1; have k2 := B1.cell_ 2; have r2 := B2.cell_ 2; have k3 := B1.cell_ 3; have r3 := B2.cell_ 3; have k4 := B1.cell_ 4; have r4 := B2.cell_ 4; simp at k0 k1 k2 k3 k4 r0 r1 r2 r3 r4; clear bx)) | (go_at_call 47; ((with_reducible refine (sameInts_yes n.sh _ _ _ _ _ (by omega) S2 S4).mono ?_); rintro e' w4 ⟨rfl, bx⟩; have HB := btr HB HB.size bx)))
  go_ret
  exact ⟨rfl, HB⟩
theorem sameShelf_yes (s : Sf) (v1 v2 : Value) (w : World) (h1 : ShR w w.heap.size v1 s) (h2 : ShR w w.heap.size v2 s) (m0 : s.bs.length ≤ 100000) (m1 : s.ts.length ≤ 100000) (m2 : ∀ n ∈ s.ts, n.tg.length ≤ 100000 ∧ n.sh.length ≤ 100000) : Calls Tryd.prog 21 #[v1, v2] w fun e' w' => e' = .returned (.bool true) ∧ Below w.heap.size w w' := by
  obtain ⟨Ab, cb, An, cn, rfl, hB, hN, hcb, hmb, hcn, hmn⟩ := h1.ex
  obtain ⟨Ab2, cb2, An2, cn2, rfl, hB2, hN2, hcb2, hmb2, hcn2, hmn2⟩ := h2.ex
  obtain ⟨es, hel, hse, hnt⟩ := hN.ex
  obtain ⟨es2, hel2, hse2, hnt2⟩ := hN2.ex
  have HB : Below w.heap.size w ((w.alloc (.cells #[.int .i64 s.nb, .int .i64 s.nn, .int .i64 s.ns, .slice Ab s.bs.length cb, .slice An s.ts.length cn] 25)).alloc (.cells #[.int .i64 s.nb, .int .i64 s.nn, .int .i64 s.ns, .slice Ab2 s.bs.length cb2, .slice An2 s.ts.length cn2] 25)) := (((Below.refl w.heap.size w).alloc (by first | (simp; done) | (simp; omega)) _).alloc (by first | (simp; done) | (simp; omega)) _)
  have B1 : Blk ((w.alloc (.cells #[.int .i64 s.nb, .int .i64 s.nn, .int .i64 s.ns, .slice Ab s.bs.length cb, .slice An s.ts.length cn] 25)).alloc (.cells #[.int .i64 s.nb, .int .i64 s.nn, .int .i64 s.ns, .slice Ab2 s.bs.length cb2, .slice An2 s.ts.length cn2] 25)) w.heap.size 25 #[.int .i64 s.nb, .int .i64 s.nn, .int .i64 s.ns, .slice Ab s.bs.length cb, .slice An s.ts.length cn] := (Blk.new_ w 25 #[.int .i64 s.nb, .int .i64 s.nn, .int .i64 s.ns, .slice Ab s.bs.length cb, .slice An s.ts.length cn]).alloc_ _
  have B2 : Blk ((w.alloc (.cells #[.int .i64 s.nb, .int .i64 s.nn, .int .i64 s.ns, .slice Ab s.bs.length cb, .slice An s.ts.length cn] 25)).alloc (.cells #[.int .i64 s.nb, .int .i64 s.nn, .int .i64 s.ns, .slice Ab2 s.bs.length cb2, .slice An2 s.ts.length cn2] 25)) (w.heap.size + 1) 25 #[.int .i64 s.nb, .int .i64 s.nn, .int .i64 s.ns, .slice Ab2 s.bs.length cb2, .slice An2 s.ts.length cn2] := by
    have := Blk.new_ (w.alloc (.cells #[.int .i64 s.nb, .int .i64 s.nn, .int .i64 s.ns, .slice Ab s.bs.length cb, .slice An s.ts.length cn] 25)) 25 #[.int .i64 s.nb, .int .i64 s.nn, .int .i64 s.ns, .slice Ab2 s.bs.length cb2, .slice An2 s.ts.length cn2]
    first | (simp; done) | simpa using this
  have R1 : BksIn ((w.alloc (.cells #[.int .i64 s.nb, .int .i64 s.nn, .int .i64 s.ns, .slice Ab s.bs.length cb, .slice An s.ts.length cn] 25)).alloc (.cells #[.int .i64 s.nb, .int .i64 s.nn, .int .i64 s.ns, .slice Ab2 s.bs.length cb2, .slice An2 s.ts.length cn2] 25)) (((w.alloc (.cells #[.int .i64 s.nb, .int .i64 s.nn, .int .i64 s.ns, .slice Ab s.bs.length cb, .slice An s.ts.length cn] 25)).alloc (.cells #[.int .i64 s.nb, .int .i64 s.nn, .int .i64 s.ns, .slice Ab2 s.bs.length cb2, .slice An2 s.ts.length cn2] 25))).heap.size Ab s.bs := SlE.next hB HB
  have R2 : BksIn ((w.alloc (.cells #[.int .i64 s.nb, .int .i64 s.nn, .int .i64 s.ns, .slice Ab s.bs.length cb, .slice An s.ts.length cn] 25)).alloc (.cells #[.int .i64 s.nb, .int .i64 s.nn, .int .i64 s.ns, .slice Ab2 s.bs.length cb2, .slice An2 s.ts.length cn2] 25)) (((w.alloc (.cells #[.int .i64 s.nb, .int .i64 s.nn, .int .i64 s.ns, .slice Ab s.bs.length cb, .slice An s.ts.length cn] 25)).alloc (.cells #[.int .i64 s.nb, .int .i64 s.nn, .int .i64 s.ns, .slice Ab2 s.bs.length cb2, .slice An2 s.ts.length cn2] 25))).heap.size Ab2 s.bs := SlE.next hB2 HB
  have HM := Lib.hid m2
  have HEL := Lib.hid hel
  have HEL2 := Lib.hid hel2
  have HNT := Lib.hid hnt
  have HNT2 := Lib.hid hnt2
  clear h1 h2 hN hN2 hB hB2 hcb hmb hcn hmn hcb2 hmb2 hcn2 hmn2 m2 hel hel2 hnt hnt2
  go_enter Tryd.func21, Tryd.ntmps21
  go_wp2_with (go_at_call 35; ((with_reducible refine (sameBooks_yes s.bs _ _ _ _ _ (by omega) R1 R2).mono ?_); rintro e' w3 ⟨rfl, bx⟩; have B1 := B1.below bx B1.lt; have B2 := B2.below bx B2.lt; have HB := btr HB HB.size bx; (try clear k0 k1 k2 k3 k4 r0 r1 r2 r3 r4); have k0 := B1.cell_ 0; have r0 := B2.cell_ 0; have k1 := B1.cell_ 1; have r1 := B2.cell_ 1; have k2 := B1.cell_ 2; have r2 := B2.cell_ 2; have k3 := B1.cell_ 3; have r3 := B2.cell_ 3; have k4 := B1.cell_ 4; have r4 := B2.cell_ 4; simp at k0 k1 k2 k3 k4 r0 r1 r2 r3 r4; clear bx))
  go_loopw [5] (fun s5 wr => ∃ k : Nat, k ≤ s.ts.length ∧ s5 = .int .i64 (k : Int) ∧ Below w3.heap.size w3 wr) (fun s5 _ => s.ts.length - (intOf s5).toNat)
  case atStart => exact ⟨0, Nat.zero_le _, rfl, Below.refl _ _⟩
  case round =>
    obtain ⟨k, hk, rfl, hbr⟩ := hrel
    have HBr := btr HB HB.size hbr
    have C1 := B1.below hbr B1.lt
    have C2 := B2.below hbr B2.lt
    clear k0 k1 k2 k3 k4 r0 r1 r2 r3 r4 B1 B2 HB R1 R2
    have k4 := C1.cell_ 4
    have r4 := C2.cell_ 4
    simp at k4 r4
    by_cases hlt : k < s.ts.length
    · obtain ⟨n, hn⟩ : ∃ n, s.ts[k]? = some n := ⟨_, List.getElem?_eq_getElem hlt⟩
      obtain ⟨e1, he1⟩ : ∃ e, es[k]? = some e := ⟨_, List.getElem?_eq_getElem (by have := HEL.out; omega)⟩
      obtain ⟨e2, he2⟩ : ∃ e, es2[k]? = some e := ⟨_, List.getElem?_eq_getElem (by have := HEL2.out; omega)⟩
      obtain ⟨A1, c1, A2, c2, rfl, p1, p2, -⟩ := (HNT.out k n e1 hn he1).ex
      obtain ⟨A3, c3, A4, c4, rfl, p3, p4, -⟩ := (HNT2.out k n e2 hn he2).ex
      obtain ⟨b1, o1, rfl, l1, q1⟩ := hse.at_ (by have := HEL.out; omega)
      obtain ⟨b2, o2, rfl, l2, q2⟩ := hse2.at_ (by have := HEL2.out; omega)
      have x0 : wr.cell? ⟨b1, o1 + k * 5 + 0, none⟩ = some (.int .i64 n.id) := (HBr.cell (p := ⟨b1, _, none⟩) l1).trans (q1 k _ he1 0 _ rfl)
      have x1 : wr.cell? ⟨b1, o1 + k * 5 + 1, none⟩ = some (.int .i64 n.bk) := (HBr.cell (p := ⟨b1, _, none⟩) l1).trans (q1 k _ he1 1 _ rfl)
      have x2 : wr.cell? ⟨b1, o1 + k * 5 + 2, none⟩ = some (.string n.nm) := (HBr.cell (p := ⟨b1, _, none⟩) l1).trans (q1 k _ he1 2 _ rfl)
      have x3 : wr.cell? ⟨b1, o1 + k * 5 + 3, none⟩ = some (.slice A1 n.tg.length c1) := (HBr.cell (p := ⟨b1, _, none⟩) l1).trans (q1 k _ he1 3 _ rfl)
      have x4 : wr.cell? ⟨b1, o1 + k * 5 + 4, none⟩ = some (.slice A2 n.sh.length c2) := (HBr.cell (p := ⟨b1, _, none⟩) l1).trans (q1 k _ he1 4 _ rfl)
      have y0 : wr.cell? ⟨b2, o2 + k * 5 + 0, none⟩ = some (.int .i64 n.id) := (HBr.cell (p := ⟨b2, _, none⟩) l2).trans (q2 k _ he2 0 _ rfl)
      have y1 : wr.cell? ⟨b2, o2 + k * 5 + 1, none⟩ = some (.int .i64 n.bk) := (HBr.cell (p := ⟨b2, _, none⟩) l2).trans (q2 k _ he2 1 _ rfl)
      have y2 : wr.cell? ⟨b2, o2 + k * 5 + 2, none⟩ = some (.string n.nm) := (HBr.cell (p := ⟨b2, _, none⟩) l2).trans (q2 k _ he2 2 _ rfl)
      have y3 : wr.cell? ⟨b2, o2 + k * 5 + 3, none⟩ = some (.slice A3 n.tg.length c3) := (HBr.cell (p := ⟨b2, _, none⟩) l2).trans (q2 k _ he2 3 _ rfl)
      have y4 : wr.cell? ⟨b2, o2 + k * 5 + 4, none⟩ = some (.slice A4 n.sh.length c4) := (HBr.cell (p := ⟨b2, _, none⟩) l2).trans (q2 k _ he2 4 _ rfl)
      simp only [Nat.add_zero] at x0 y0
      have hm := HM.out n (List.mem_of_getElem? hn)
      have hm1 := hm.1
      have hm2 := hm.2
      have k0 : (0 : Int) ≤ (k : Int) := by omega
      have k1 : (k : Int) < (s.ts.length : Int) := by omega
      have D := below_dr wr
      have P1 := (((p1.below HBr).mono_ HBr.size).next D)
      have P2 := (((p2.below HBr).mono_ HBr.size).next D)
      have P3 := (((p3.below HBr).mono_ HBr.size).next D)
      have P4 := (((p4.below HBr).mono_ HBr.size).next D)
      have HBd := btr HBr HBr.size D
      have hbd := btr hbr hbr.size D
      clear hn he1 he2 q1 q2 hm p1 p2 p3 p4 D
      go_upto_region 6 with fail
      go_still_tail 10, (by kernel_rfl)
      change wpList _ _ _ _ _ wr.drew
      obtain ⟨wd, hwd⟩ : ∃ V : World, V = wr.drew := ⟨_, rfl⟩
      rw [← hwd] at P1 P2 P3 P4 HBd hbd ⊢
      clear hwd
      go_wp2_with (go_at_call 36; ((with_reducible refine (sameNote_yes n _ _ _ _ _ _ _ _ _ P1 P2 P3 P4 hm1 hm2).mono ?_); rintro e' w5 ⟨rfl, bx⟩; have hbe := btr hbd hbd.size bx; clear bx))
      go_roundw
      case rel => exact ⟨k + 1, by omega, by go_num, hbe⟩
      case measure => simp [intOf]; omega
    · obtain rfl : k = s.ts.length := by omega
      go_wp2_with fail
      go_ret
      exact ⟨rfl, HBr⟩
end Go.Proofs.YtllnfociddodcaaDoor
namespace Go.Proofs.YtllnfociddodcaaDoor
open Go.ChangeShapes Go.WideShapes Go.ChangeAt Go.RowKit
attribute [local go_sem ↓] Go.wp_at_zero Go.wp_at_succ
theorem inI_of {x lo hi : Int} (h1 : lo ≤ x) (h2 : x ≤ hi) : inI x lo hi = true := by
  unfold inI
  rw [decide_eq_true h1, decide_eq_true h2]
  rfl
theorem books_conv {s : Sf} : ∀ (l : List Bk) (bf : Int), (∀ b ∈ l, bf < b.id ∧ b.id ≤ s.nb - 1 ∧ mayN b.nm = true ∧ bookTk s b.nm b.id = false) → (l.Pairwise fun a b => a.id < b.id) → booksFrom s bf l = true
  | [], _, _, _ => rfl
  | x :: l, bf, h, hp => by
    obtain ⟨h1, h2, h3, h4⟩ := h x (by simp)
    rw [List.pairwise_cons] at hp
    show (inI x.id (bf + 1) (s.nb - 1) && (mayN x.nm && (!bookTk s x.nm x.id && booksFrom s x.id l))) = true
    rw [inI_of (by omega) h2, h3, h4, books_conv l x.id (fun b hb => ⟨hp.1 b hb, (h b (by simp [hb])).2⟩) hp.2]
    rfl
theorem notes_conv {s : Sf} : ∀ (l : List Nt) (bf : Int), (∀ b ∈ l, bf < b.id ∧ b.id ≤ s.nn - 1 ∧ mayNt s b = true) → (l.Pairwise fun a b => a.id < b.id) → notesFrom s bf l = true
  | [], _, _, _ => rfl
  | x :: l, bf, h, hp => by
    obtain ⟨h1, h2, h3⟩ := h x (by simp)
    rw [List.pairwise_cons] at hp
    show (inI x.id (bf + 1) (s.nn - 1) && (mayNt s x && notesFrom s x.id l)) = true
    rw [inI_of (by omega) h2, h3, notes_conv l x.id (fun b hb => ⟨hp.1 b hb, (h b (by simp [hb])).2⟩) hp.2]
    rfl
theorem shIn_iff (ns : Int) : ∀ (l seen : List Int), sheetsIn ns seen l = true ↔ (∀ x ∈ l, inI x 1 (ns - 1) = true ∧ x ∉ seen) ∧ l.Nodup
  | [], seen => by simp [sheetsIn]
  | x :: l, seen => by
    have ih := shIn_iff ns l (x :: seen)
    show (inI x 1 (ns - 1) && (!seen.contains x && sheetsIn ns (x :: seen) l)) = true ↔ _
    rw [Bool.and_eq_true, Bool.and_eq_true, ih, List.nodup_cons]
    simp only [Bool.not_eq_true', List.contains_eq_mem, decide_eq_false_iff_not, List.mem_cons, not_or]
    constructor
    · rintro ⟨h1, h2, h3, h4⟩
      refine ⟨fun y hy => ?_, fun hx => (h3 x hx).2.1 rfl, h4⟩
      rcases hy with rfl | hy
      · exact ⟨h1, h2⟩
      · exact ⟨(h3 y hy).1, (h3 y hy).2.2⟩
    · rintro ⟨h1, h2, h3⟩
      refine ⟨(h1 x (Or.inl rfl)).1, (h1 x (Or.inl rfl)).2, fun y hy => ⟨(h1 y (Or.inr hy)).1, fun e => h2 (e ▸ hy), (h1 y (Or.inr hy)).2⟩, h3⟩
theorem sh_iff (ns : Int) : ∀ (l : List Nt) (seen : List Int), sheetsFrom ns seen l = true ↔ (∀ n ∈ l, n.sh.length ≤ 8) ∧ (∀ x ∈ l.flatMap Nt.sh, inI x 1 (ns - 1) = true ∧ x ∉ seen) ∧ (l.flatMap Nt.sh).Nodup
  | [], seen => by simp [sheetsFrom]
  | n :: l, seen => by
    have ih := sh_iff ns l (n.sh.reverse ++ seen)
    show (decide (n.sh.length ≤ 8) && (sheetsIn ns seen n.sh && sheetsFrom ns (n.sh.reverse ++ seen) l)) = true ↔ _
    rw [Bool.and_eq_true, Bool.and_eq_true, ih, shIn_iff, List.flatMap_cons, List.nodup_append]
    simp only [decide_eq_true_eq, List.mem_cons, List.mem_append, List.mem_reverse, not_or]
    constructor
    · rintro ⟨h1, ⟨h2, h3⟩, h4, h5, h6⟩
      refine ⟨fun m hm => ?_, fun x hx => ?_, h3, h6, fun a ha b hb e => ?_⟩
      · rcases hm with rfl | hm
        · exact h1
        · exact h4 m hm
      · rcases hx with hx | hx
        · exact h2 x hx
        · exact ⟨(h5 x hx).1, (h5 x hx).2.2⟩
      · subst e
        exact (h5 a hb).2.1 ha
    · rintro ⟨h1, h2, h3, h4, h5⟩
      exact ⟨h1 n (Or.inl rfl), ⟨fun x hx => h2 x (Or.inl hx), h3⟩, fun m hm => h1 m (Or.inr hm), fun x hx => ⟨(h2 x (Or.inr hx)).1, fun hx2 => h5 x hx2 x hx rfl, (h2 x (Or.inr hx)).2⟩, h4⟩
theorem flat_sub {α β : Type} {f : α → List β} {a b : List α} (h : a.Sublist b) : (a.flatMap f).Sublist (b.flatMap f) := by
  induction h with
  | slnil => exact List.Sublist.refl _
  | cons x _ ih => rw [List.flatMap_cons]; exact ih.trans (List.sublist_append_right _ _)
  | cons_cons x _ ih => rw [List.flatMap_cons, List.flatMap_cons]; exact (List.Sublist.refl _).append ih
theorem mayS_conv {s : Sf} (h : MayF s) : mayS s = true := by
  unfold mayS
  rw [inI_of h.nb.1 h.nb.2, inI_of h.nn.1 h.nn.2, inI_of h.ns.1 h.ns.2, decide_eq_true h.bl, decide_eq_true h.tl, books_conv s.bs 0 h.bs h.bo, notes_conv s.ts 0 h.ts h.tord, h.sh]
  rfl
theorem tk_sub {ts ts' : List Nt} (hs : ts'.Sublist ts) {p : Nt → Bool} (h : ts.any p = false) : ts'.any p = false := by
  rw [List.any_eq_false] at h ⊢
  exact fun x hx => h x (hs.subset hx)
theorem mayNt_sub {s : Sf} {ts' : List Nt} (hs : ts'.Sublist s.ts) {n : Nt} (h : mayNt s n = true) : mayNt { s with ts := ts' } n = true := by
  unfold mayNt at h ⊢
  simp only [Bool.and_eq_true, Bool.not_eq_true'] at h ⊢
  exact ⟨h.1, h.2.1, tk_sub hs h.2.2.1, h.2.2.2⟩
theorem MayF.sub {s : Sf} (h : MayF s) {ts' : List Nt} (hs : ts'.Sublist s.ts) : MayF { s with ts := ts' } := by
  obtain ⟨q1, q2, q3⟩ := (sh_iff _ _ _).1 h.sh
  exact ⟨h.nb, h.nn, h.ns, h.bl, Nat.le_trans hs.length_le h.tl, h.bs, h.bo, fun n hn => ⟨(h.ts n (hs.subset hn)).1, (h.ts n (hs.subset hn)).2.1, mayNt_sub hs (h.ts n (hs.subset hn)).2.2⟩, h.tord.sublist hs,
    (sh_iff _ _ _).2 ⟨fun n hn => q1 n (hs.subset hn), fun x hx => q2 x ((flat_sub hs).subset hx), q3.sublist (flat_sub hs)⟩⟩
def discL (s : Sf) (L : List Int) : Sf := { s with ts := s.ts.filter fun n => !L.contains n.id }
theorem MayF.idinj {s : Sf} (h : MayF s) {a b : Nt} (ha : a ∈ s.ts) (hb : b ∈ s.ts) (he : a.id = b.id) : a = b := by
  obtain ⟨i, hi, rfl⟩ := List.mem_iff_getElem.1 ha
  obtain ⟨j, hj, rfl⟩ := List.mem_iff_getElem.1 hb
  rcases Nat.lt_trichotomy i j with hij | rfl | hij
  · have := List.pairwise_iff_getElem.1 h.tord i j hi hj hij
    omega
  · rfl
  · have := List.pairwise_iff_getElem.1 h.tord j i hj hi hij
    omega
theorem MayF.bidinj {s : Sf} (h : MayF s) {a b : Bk} (ha : a ∈ s.bs) (hb : b ∈ s.bs) (he : a.id = b.id) : a = b := by
  obtain ⟨i, hi, rfl⟩ := List.mem_iff_getElem.1 ha
  obtain ⟨j, hj, rfl⟩ := List.mem_iff_getElem.1 hb
  rcases Nat.lt_trichotomy i j with hij | rfl | hij
  · have := List.pairwise_iff_getElem.1 h.bo i j hi hj hij
    omega
  · rfl
  · have := List.pairwise_iff_getElem.1 h.bo j i hj hi hij
    omega
structure DrpF (s : Sf) (x : Int) (its : List It) : Prop where
  disc : ∀ (i : Nat) (y : It), its[i]? = some y → discC (discL s ((its.map It.id).take i)) y.id = 0
  step : ∀ (i : Nat) (y : It), its[i]? = some y → discS (discL s ((its.map It.id).take i)) y.id = discL s ((its.map It.id).take (i + 1))
  last : dropC (discL s (its.map It.id)) x = 0
  same : dropS (discL s (its.map It.id)) x = dropS s x
  notes : ((dropS s x).ts.length : Int) = (s.ts.length : Int) - (its.length : Int)
  books : ((dropS s x).bs.length : Int) = (s.bs.length : Int) - 1
end Go.Proofs.YtllnfociddodcaaDoor
namespace Go.Proofs.YtllnfociddodcaaDoor
open Go.ChangeShapes Go.WideShapes Go.ChangeAt Go.RowKit
attribute [local go_sem ↓] Go.wp_at_zero Go.wp_at_succ
def z5 (w : World) (g : Nat) : World := st5 w g 0 (.int .i64 0) (.int .i64 0) (.int .i64 0) (.slice none 0 0) (.slice none 0 0)
def renC (s : Sf) (y : Int) (x : ByteArray) : Int := cond (mayS s) (cond (decide (bookAt s y < 0)) 4 (cond (mayN x) (cond (bookTk s x y) 7 0) 6)) 2
def renS (s : Sf) (y : Int) (x : ByteArray) : Sf := { s with bs := s.bs.set (bookAt s y).toNat ⟨y, x⟩ }
def nameAt (s : Sf) (y : Int) : ByteArray := match s.ts[(noteAt s y).toNat]? with
  | some n => n.nm
  | none => ByteArray.empty
def movC (s : Sf) (y z : Int) : Int := cond (mayS s) (cond (decide (noteAt s y < 0) || decide (bookAt s z < 0)) 4 (cond (noteTk s z (nameAt s y) y) 7 0)) 2
def movS (s : Sf) (y z : Int) : Sf := match s.ts[(noteAt s y).toNat]? with
  | some n => { s with ts := s.ts.set (noteAt s y).toNat { n with bk := z } }
  | none => s
end Go.Proofs.YtllnfociddodcaaDoor
namespace Go.Proofs.YtllnfociddodcaaDoor
open Go.ChangeShapes Go.WideShapes Go.ChangeAt Go.RowKit
attribute [local go_sem ↓] Go.wp_at_zero Go.wp_at_succ
structure MkF (s : Sf) (x : ByteArray) : Prop where
  may : MayF s
  nm : mayN x = true
  tk : bookTk s x 0 = false
  bl : s.bs.length < 6
  nb : s.nb < 65536
theorem tkB_iff {s : Sf} {x : ByteArray} {y : Int} : bookTk s x y = false ↔ ∀ b ∈ s.bs, b.nm.toList = x.toList → b.id = y := by
  unfold bookTk
  rw [List.any_eq_false]
  constructor
  · intro h b hb he
    have := h b hb
    simpa [sameS, he] using this
  · intro h b hb
    simp only [sameS, Bool.and_eq_true, beq_iff_eq, bne_iff_ne, ne_eq, not_and, Decidable.not_not]
    exact h b hb
theorem tkN_iff {s : Sf} {z : Int} {x : ByteArray} {y : Int} : noteTk s z x y = false ↔ ∀ n ∈ s.ts, n.bk = z → n.nm.toList = x.toList → n.id = y := by
  unfold noteTk
  rw [List.any_eq_false]
  constructor
  · intro h n hn hb he
    have := h n hn
    simpa [sameS, he, hb] using this
  · intro h n hn
    simp only [sameS, Bool.and_eq_true, beq_iff_eq, bne_iff_ne, ne_eq, not_and, Decidable.not_not]
    exact h n hn
theorem mayNt_iff {s : Sf} {n : Nt} : mayNt s n = true ↔ mayN n.nm = true ∧ (∃ b ∈ s.bs, b.id = n.bk) ∧ noteTk s n.bk n.nm n.id = false ∧ mayTg n.tg = true := by
  unfold mayNt
  simp only [Bool.and_eq_true, Bool.not_eq_true', decide_eq_true_eq]
  rw [book_is]
theorem MkF.may2 {s : Sf} {x : ByteArray} (h : MkF s x) : MayF (makeS s x) := by
  have hF := h.may
  have hnb := hF.nb
  have hone : ∀ b ∈ s.bs, 0 < b.id ∧ b.id ≤ s.nb - 1 := fun b hb => ⟨(hF.bs b hb).1, (hF.bs b hb).2.1⟩
  have hno : ∀ b ∈ s.bs, b.nm.toList ≠ x.toList := fun b hb he => by
    have h1 := tkB_iff.1 h.tk b hb he
    have h2 := hone b hb
    omega
  have hlt := h.nb
  refine ⟨⟨by show 1 ≤ s.nb + 1; omega, by show s.nb + 1 ≤ 65536; omega⟩, hF.nn, hF.ns, by show (s.bs ++ [_]).length ≤ 6; rw [List.length_append]; have := h.bl; simp; omega, hF.tl, fun b hb => ?_, ?_, fun n hn => ⟨(hF.ts n hn).1, (hF.ts n hn).2.1, ?_⟩, hF.tord, hF.sh⟩
  · have hb' : b ∈ s.bs ++ [⟨s.nb, x⟩] := hb
    have htk : bookTk (makeS s x) b.nm b.id = false := by
      rw [tkB_iff]
      intro c hc he
      have hc' : c ∈ s.bs ++ [⟨s.nb, x⟩] := hc
      rcases List.mem_append.1 hb' with hb1 | hb1 <;> rcases List.mem_append.1 hc' with hc1 | hc1
      · exact hF.names hc1 hb1 he
      · rw [List.mem_singleton] at hc1
        subst hc1
        exact absurd he.symm (hno b hb1)
      · rw [List.mem_singleton] at hb1
        subst hb1
        exact absurd he (hno c hc1)
      · rw [List.mem_singleton] at hb1 hc1
        rw [hb1, hc1]
    rcases List.mem_append.1 hb' with hb1 | hb1
    · have h2 := hF.bs b hb1
      exact ⟨h2.1, by show b.id ≤ s.nb + 1 - 1; omega, h2.2.2.1, htk⟩
    · rw [List.mem_singleton] at hb1
      subst hb1
      exact ⟨by show 0 < s.nb; omega, by show s.nb ≤ s.nb + 1 - 1; omega, h.nm, htk⟩
  · show (s.bs ++ [(⟨s.nb, x⟩ : Bk)]).Pairwise _
    rw [List.pairwise_append]
    refine ⟨hF.bo, List.pairwise_singleton _ _, fun a ha b hb => ?_⟩
    rw [List.mem_singleton] at hb
    subst hb
    have := hone a ha
    show a.id < s.nb
    omega
  · obtain ⟨q1, ⟨b, hb, hbe⟩, q3, q4⟩ := mayNt_iff.1 (hF.ts n hn).2.2
    exact mayNt_iff.2 ⟨q1, ⟨b, List.mem_append_left _ hb, hbe⟩, q3, q4⟩
theorem MkF.drop {s : Sf} {x : ByteArray} (h : MkF s x) : dropC (makeS s x) s.nb = 0 ∧ { dropS (makeS s x) s.nb with nb := s.nb } = s := by
  have hF := h.may
  have h0 : 0 ≤ bookAt (makeS s x) s.nb := (book_is _).2 ⟨⟨s.nb, x⟩, List.mem_append_right _ (by simp), rfl⟩
  constructor
  · unfold dropC
    rw [mayS_conv h.may2, decide_eq_false (by omega)]
    rfl
  · have e1 : (s.bs ++ [(⟨s.nb, x⟩ : Bk)]).filter (fun b => !(b.id == s.nb)) = s.bs := by
      rw [List.filter_append]
      have : s.bs.filter (fun b => !(b.id == s.nb)) = s.bs := by
        rw [List.filter_eq_self]
        intro b hb
        have := (hF.bs b hb).2.1
        have hne : b.id ≠ s.nb := by omega
        simp [hne]
      rw [this]
      simp
    have e2 : s.ts.filter (fun n => !(n.bk == s.nb)) = s.ts := by
      rw [List.filter_eq_self]
      intro n hn
      obtain ⟨b, hb, he⟩ := (mayNt_iff.1 (hF.ts n hn).2.2).2.1
      have := (hF.bs b hb).2.1
      have hne : n.bk ≠ s.nb := by omega
      simp [hne]
    show (⟨s.nb, s.nn, s.ns, (s.bs ++ [(⟨s.nb, x⟩ : Bk)]).filter (fun b => !(b.id == s.nb)), s.ts.filter (fun n => !(n.bk == s.nb))⟩ : Sf) = s
    rw [e1, e2]
theorem renS_at {s : Sf} {y : Int} {x : ByteArray} {k : Nat} (h : bookAt s y = (k : Int)) : renS s y x = { s with bs := s.bs.set k ⟨y, x⟩ } := by
  unfold renS
  rw [h]
  rfl
theorem movS_at {s : Sf} {y z : Int} {k : Nat} {n : Nt} (h : noteAt s y = (k : Int)) (hn : s.ts[k]? = some n) : movS s y z = { s with ts := s.ts.set k { n with bk := z } } := by
  unfold movS
  rw [h]
  simp [hn]
structure RnF (s : Sf) (y : Int) (x : ByteArray) (k : Nat) (b : Bk) : Prop where
  may : MayF s
  at_ : bookAt s y = (k : Int)
  bk : s.bs[k]? = some b
  id : b.id = y
  nm : mayN x = true
  tk : bookTk s x y = false
theorem RnF.eq {s : Sf} {y : Int} {x : ByteArray} {k : Nat} {b : Bk} (h : RnF s y x k b) : renS s y x = { s with bs := s.bs.set k ⟨y, x⟩ } := by
  unfold renS
  rw [h.at_]
  rfl
theorem set_mem {α : Type} {l : List α} {k : Nat} {a c : α} (h : c ∈ l.set k a) : c = a ∨ ∃ j, j ≠ k ∧ l[j]? = some c := by
  obtain ⟨j, hj, he⟩ := List.mem_iff_getElem.1 h
  have h1 := List.getElem?_eq_getElem hj
  rw [he, List.getElem?_set] at h1
  split at h1
  · rename_i hjk
    left
    split at h1
    · exact (Option.some.inj h1).symm
    · cases h1
  · rename_i hjk
    exact Or.inr ⟨j, fun e => hjk e.symm, h1⟩
theorem set_ids {l : List Bk} {k : Nat} {b : Bk} {x : ByteArray} (hb : l[k]? = some b) : (l.set k ⟨b.id, x⟩).map Bk.id = l.map Bk.id := by
  rw [List.map_set]
  apply List.ext_getElem?
  intro j
  rw [List.getElem?_set, List.getElem?_map]
  split
  · rename_i h
    subst h
    rw [hb]
    have := (List.getElem?_eq_some_iff.1 hb).1
    simp [this]
  · rfl
theorem RnF.may2 {s : Sf} {y : Int} {x : ByteArray} {k : Nat} {b : Bk} (h : RnF s y x k b) : MayF (renS s y x) := by
  have hF := h.may
  rw [h.eq]
  have hbm := List.mem_of_getElem? h.bk
  have hids := set_ids (x := x) h.bk
  rw [h.id] at hids
  have hmem : ∀ c ∈ s.bs.set k ⟨y, x⟩, (c = ⟨y, x⟩) ∨ (c ∈ s.bs ∧ c.id ≠ y) := by
    intro c hc
    rcases set_mem hc with h1 | ⟨j, hj, he⟩
    · exact Or.inl h1
    · refine Or.inr ⟨List.mem_of_getElem? he, fun e => hj ?_⟩
      have hcb := hF.bidinj (List.mem_of_getElem? he) hbm (e.trans h.id.symm)
      obtain ⟨h1, e1⟩ := List.getElem?_eq_some_iff.1 he
      obtain ⟨h2, e2⟩ := List.getElem?_eq_some_iff.1 h.bk
      rcases Nat.lt_trichotomy j k with hlt | rfl | hlt
      · have := List.pairwise_iff_getElem.1 hF.bo j k h1 h2 hlt
        rw [e1, e2, hcb] at this
        omega
      · rfl
      · have := List.pairwise_iff_getElem.1 hF.bo k j h2 h1 hlt
        rw [e1, e2, hcb] at this
        omega
  refine ⟨hF.nb, hF.nn, hF.ns, by show (s.bs.set k _).length ≤ 6; rw [List.length_set]; exact hF.bl, hF.tl, fun c hc => ?_, ?_, fun n hn => ⟨(hF.ts n hn).1, (hF.ts n hn).2.1, ?_⟩, hF.tord, hF.sh⟩
  · have hc0 : c ∈ s.bs.set k ⟨y, x⟩ := hc
    have htk : bookTk { s with bs := s.bs.set k ⟨y, x⟩ } c.nm c.id = false := by
      rw [tkB_iff]
      intro d hd he
      rcases hmem d hd with rfl | ⟨hd1, hd2⟩ <;> rcases hmem c hc0 with rfl | ⟨hc1, hc2⟩
      · rfl
      · exact absurd (tkB_iff.1 h.tk c hc1 he.symm) hc2
      · exact absurd (tkB_iff.1 h.tk d hd1 he) hd2
      · exact hF.names hd1 hc1 he
    rcases hmem c hc0 with rfl | ⟨hc1, hc2⟩
    · have h2 := hF.bs b hbm
      rw [h.id] at h2
      exact ⟨h2.1, h2.2.1, h.nm, htk⟩
    · have h2 := hF.bs c hc1
      exact ⟨h2.1, h2.2.1, h2.2.2.1, htk⟩
  · have h1 : (s.bs.map Bk.id).Pairwise (· < ·) := List.pairwise_map.2 hF.bo
    rw [← hids] at h1
    exact List.pairwise_map.1 h1
  · obtain ⟨q1, ⟨c, hc, hce⟩, q3, q4⟩ := mayNt_iff.1 (hF.ts n hn).2.2
    have : n.bk ∈ (s.bs.set k ⟨y, x⟩).map Bk.id := by
      rw [hids]
      exact List.mem_map.2 ⟨c, hc, hce⟩
    obtain ⟨d, hd, hde⟩ := List.mem_map.1 this
    exact mayNt_iff.2 ⟨q1, ⟨d, hd, hde⟩, q3, q4⟩
theorem RnF.back {s : Sf} {y : Int} {x : ByteArray} {k : Nat} {b : Bk} (h : RnF s y x k b) : renC (renS s y x) y b.nm = 0 ∧ renS (renS s y x) y b.nm = s := by
  have hF := h.may
  have hbm := List.mem_of_getElem? h.bk
  have hids := set_ids (x := x) h.bk
  rw [h.id] at hids
  have hlt := (List.getElem?_eq_some_iff.1 h.bk).1
  have hidx : bookAt (renS s y x) y = (k : Int) := by
    have h1 : ∀ l : List Bk, idxP (fun b : Bk => b.id == y) l = idxP (fun i : Int => i == y) (l.map Bk.id) := by
      intro l
      unfold idxP
      rw [List.findIdx?_map]
      rfl
    show idxP _ (renS s y x).bs = _
    rw [h.eq, h1]
    show idxP _ ((s.bs.set k ⟨y, x⟩).map Bk.id) = _
    rw [hids, ← h1]
    exact h.at_
  constructor
  · unfold renC
    rw [mayS_conv h.may2, hidx, decide_eq_false (by omega), (hF.bs b hbm).2.2.1]
    have : bookTk (renS s y x) b.nm y = false := by
      rw [tkB_iff, h.eq]
      intro d hd he
      rcases set_mem hd with rfl | ⟨j, hj, hje⟩
      · rfl
      · have := hF.names (List.mem_of_getElem? hje) hbm he
        rw [this, h.id]
    rw [this]
    rfl
  · have : renS (renS s y x) y b.nm = { renS s y x with bs := (renS s y x).bs.set k ⟨y, b.nm⟩ } := renS_at hidx
    rw [this, h.eq]
    show ({ s with bs := (s.bs.set k ⟨y, x⟩).set k ⟨y, b.nm⟩ } : Sf) = s
    rw [List.set_set]
    have hbe : (⟨y, b.nm⟩ : Bk) = b := by rw [← h.id]
    rw [hbe]
    have : s.bs.set k b = s.bs := by
      obtain ⟨h1, e1⟩ := List.getElem?_eq_some_iff.1 h.bk
      rw [← e1]
      exact List.set_getElem_self h1
    rw [this]
structure MvF (s : Sf) (y z : Int) (k : Nat) (n : Nt) : Prop where
  may : MayF s
  at_ : noteAt s y = (k : Int)
  nt : s.ts[k]? = some n
  id : n.id = y
  bk : ∃ b ∈ s.bs, b.id = z
  tk : noteTk s z n.nm y = false
theorem MvF.eq {s : Sf} {y z : Int} {k : Nat} {n : Nt} (h : MvF s y z k n) : movS s y z = { s with ts := s.ts.set k { n with bk := z } } := by
  unfold movS
  rw [h.at_]
  simp [h.nt]
theorem setN_map {β : Type} {l : List Nt} {k : Nat} {n : Nt} {z : Int} (f : Nt → β) (hf : f { n with bk := z } = f n) (hn : l[k]? = some n) : (l.set k { n with bk := z }).map f = l.map f := by
  rw [List.map_set, hf]
  apply List.ext_getElem?
  intro j
  rw [List.getElem?_set, List.getElem?_map]
  split
  · rename_i h
    subst h
    rw [hn]
    have := (List.getElem?_eq_some_iff.1 hn).1
    simp [this]
  · rfl
theorem MvF.may2 {s : Sf} {y z : Int} {k : Nat} {n : Nt} (h : MvF s y z k n) : MayF (movS s y z) := by
  have hF := h.may
  rw [h.eq]
  have hnm := List.mem_of_getElem? h.nt
  have hmem : ∀ c ∈ s.ts.set k { n with bk := z }, (c = { n with bk := z }) ∨ (c ∈ s.ts ∧ c.id ≠ y) := by
    intro c hc
    rcases set_mem hc with h1 | ⟨j, hj, he⟩
    · exact Or.inl h1
    · refine Or.inr ⟨List.mem_of_getElem? he, fun e => hj ?_⟩
      have hcb := hF.idinj (List.mem_of_getElem? he) hnm (e.trans h.id.symm)
      obtain ⟨h1, e1⟩ := List.getElem?_eq_some_iff.1 he
      obtain ⟨h2, e2⟩ := List.getElem?_eq_some_iff.1 h.nt
      rcases Nat.lt_trichotomy j k with hlt | rfl | hlt
      · have := List.pairwise_iff_getElem.1 hF.tord j k h1 h2 hlt
        rw [e1, e2, hcb] at this
        omega
      · rfl
      · have := List.pairwise_iff_getElem.1 hF.tord k j h2 h1 hlt
        rw [e1, e2, hcb] at this
        omega
  obtain ⟨q1, q2, q3⟩ := (sh_iff _ _ _).1 hF.sh
  have hfm : (s.ts.set k { n with bk := z }).flatMap Nt.sh = s.ts.flatMap Nt.sh := by
    rw [List.flatMap_def, List.flatMap_def, setN_map Nt.sh rfl h.nt]
  refine ⟨hF.nb, hF.nn, hF.ns, hF.bl, by show (s.ts.set k _).length ≤ 12; rw [List.length_set]; exact hF.tl, hF.bs, hF.bo, fun c hc => ?_, ?_, ?_⟩
  · have hc0 : c ∈ s.ts.set k { n with bk := z } := hc
    have htk : ∀ c ∈ s.ts.set k { n with bk := z }, noteTk { s with ts := s.ts.set k { n with bk := z } } c.bk c.nm c.id = false := by
      intro c hc
      rw [tkN_iff]
      intro d hd hdb he
      rcases hmem d hd with rfl | ⟨hd1, hd2⟩ <;> rcases hmem c hc with rfl | ⟨hc1, hc2⟩
      · rfl
      · exact absurd (tkN_iff.1 h.tk c hc1 hdb.symm he.symm) hc2
      · exact absurd (tkN_iff.1 h.tk d hd1 hdb he) hd2
      · exact hF.nnames hd1 hc1 hdb he
    rcases hmem c hc0 with rfl | ⟨hc1, hc2⟩
    · have h2 := hF.ts n hnm
      obtain ⟨m1, m2, m3, m4⟩ := mayNt_iff.1 h2.2.2
      exact ⟨h2.1, h2.2.1, mayNt_iff.2 ⟨m1, h.bk, htk _ hc0, m4⟩⟩
    · have h2 := hF.ts c hc1
      obtain ⟨m1, m2, m3, m4⟩ := mayNt_iff.1 h2.2.2
      exact ⟨h2.1, h2.2.1, mayNt_iff.2 ⟨m1, m2, htk _ hc0, m4⟩⟩
  · have h1 : (s.ts.map Nt.id).Pairwise (· < ·) := List.pairwise_map.2 hF.tord
    rw [← setN_map Nt.id rfl h.nt (z := z)] at h1
    exact List.pairwise_map.1 h1
  · refine (sh_iff _ _ _).2 ⟨fun c hc => ?_, ?_, ?_⟩
    · rcases hmem c hc with rfl | ⟨hc1, _⟩
      · exact q1 n hnm
      · exact q1 c hc1
    · show ∀ x ∈ (s.ts.set k { n with bk := z }).flatMap Nt.sh, _
      rw [hfm]
      exact q2
    · show ((s.ts.set k { n with bk := z }).flatMap Nt.sh).Nodup
      rw [hfm]
      exact q3
theorem MvF.back {s : Sf} {y z : Int} {k : Nat} {n : Nt} (h : MvF s y z k n) : movC (movS s y z) y n.bk = 0 ∧ movS (movS s y z) y n.bk = s := by
  have hF := h.may
  have hnm := List.mem_of_getElem? h.nt
  have hlt := (List.getElem?_eq_some_iff.1 h.nt).1
  have hidx : noteAt (movS s y z) y = (k : Int) := by
    have h1 : ∀ l : List Nt, idxP (fun b : Nt => b.id == y) l = idxP (fun i : Int => i == y) (l.map Nt.id) := by
      intro l
      unfold idxP
      rw [List.findIdx?_map]
      rfl
    show idxP _ (movS s y z).ts = _
    rw [h.eq, h1]
    show idxP _ ((s.ts.set k { n with bk := z }).map Nt.id) = _
    rw [setN_map Nt.id rfl h.nt, ← h1]
    exact h.at_
  have hget : (movS s y z).ts[k]? = some { n with bk := z } := by
    rw [h.eq]
    show (s.ts.set k { n with bk := z })[k]? = _
    rw [List.getElem?_set_self hlt]
  have hnam : nameAt (movS s y z) y = n.nm := by
    unfold nameAt
    rw [hidx]
    simp [hget]
  obtain ⟨m1, m2, m3, m4⟩ := mayNt_iff.1 (hF.ts n hnm).2.2
  constructor
  · have hbk : 0 ≤ bookAt (movS s y z) n.bk := by
      rw [h.eq]
      exact (book_is (s := { s with ts := s.ts.set k { n with bk := z } }) _).2 m2
    have htk : noteTk (movS s y z) n.bk n.nm y = false := by
      rw [tkN_iff, h.eq]
      intro d hd hdb he
      rcases set_mem hd with rfl | ⟨j, hj, hje⟩
      · exact h.id
      · have := tkN_iff.1 m3 d (List.mem_of_getElem? hje) hdb he
        rw [this, h.id]
    unfold movC
    rw [mayS_conv h.may2, hidx, hnam, htk, decide_eq_false (by omega), decide_eq_false (by omega)]
    rfl
  · have : movS (movS s y z) y n.bk = { movS s y z with ts := (movS s y z).ts.set k { n with bk := n.bk } } := by
      have := movS_at (z := n.bk) hidx hget
      exact this
    rw [this, h.eq]
    show ({ s with ts := (s.ts.set k { n with bk := z }).set k { n with bk := n.bk } } : Sf) = s
    rw [List.set_set]
    have : s.ts.set k { n with bk := n.bk } = s.ts := by
      obtain ⟨h1, e1⟩ := List.getElem?_eq_some_iff.1 h.nt
      have e2 : ({ n with bk := n.bk } : Nt) = n := rfl
      rw [e2, ← e1]
      exact List.set_getElem_self h1
    rw [this]
end Go.Proofs.YtllnfociddodcaaDoor
namespace Go.Proofs.YtllnfociddodcaaDoor
open Go.ChangeShapes Go.WideShapes Go.ChangeAt Go.RowKit
attribute [local go_sem ↓] Go.wp_at_zero Go.wp_at_succ
def bytN (x : ByteArray) : List Nat := x.data.toList.map UInt8.toNat
def strN (l : List Nat) : ByteArray := ⟨(l.map UInt8.ofNat).toArray⟩
theorem strN_bytN (x : ByteArray) : strN (bytN x) = x := by
  unfold strN bytN
  rw [List.map_map]
  have h : (UInt8.ofNat ∘ UInt8.toNat) = id := by
    funext u
    simp
  rw [h, List.map_id]
theorem bytN_strN {l : List Nat} (h : Bytes8 l) : bytN (strN l) = l := by
  unfold strN bytN
  rw [List.map_map]
  have : l.map (UInt8.toNat ∘ UInt8.ofNat) = l.map id := List.map_congr_left fun b hb => by
    have := h b hb
    simp
    omega
  rw [this, List.map_id]
theorem bytN_len (x : ByteArray) : (bytN x).length = x.size := by
  unfold bytN
  rw [List.length_map]
  rfl
theorem bytN_8 (x : ByteArray) : Bytes8 (bytN x) := by
  intro b hb
  obtain ⟨u, _, rfl⟩ := List.mem_map.1 hb
  exact u.toNat_lt
def iL (v : Int) (n : Nat) : List Nat := beB v.toNat n
theorem iL_len (v : Int) (n : Nat) : (iL v n).length = n := beB_len _ _
theorem iL_8 (v : Int) (n : Nat) : Bytes8 (iL v n) := beB_8 _ _
def nmL (x : ByteArray) : List Nat := x.size :: bytN x
def bkL (b : Bk) : List Nat := iL b.id 3 ++ nmL b.nm
def ntL (n : Nt) : List Nat := iL n.id 3 ++ (iL n.bk 3 ++ (nmL n.nm ++ (n.tg.length :: (n.tg.flatMap nmL ++ (n.sh.length :: n.sh.flatMap fun z => iL z 2)))))
def shL (s : Sf) : List Nat := iL s.nb 3 ++ (iL s.nn 3 ++ (iL s.ns 3 ++ (s.bs.length :: (s.bs.flatMap bkL ++ (s.ts.length :: s.ts.flatMap ntL)))))
abbrev Rr := List Nat × Bool
def tkR (n : Nat) (r : Rr) : List Nat × Rr := cond r.2 ([], r) (cond (decide (r.1.length < n)) ([], (r.1, true)) (r.1.take n, (r.1.drop n, false)))
def nmb (n : Nat) (r : Rr) : Nat × Rr := (numB (tkR n r).1, (tkR n r).2)
def txt (r : Rr) : ByteArray × Rr := (strN (tkR (nmb 1 r).1 (nmb 1 r).2).1, (tkR (nmb 1 r).1 (nmb 1 r).2).2)
def rBk1 (r : Rr) : Bk × Rr := (⟨((nmb 3 r).1 : Int), (txt (nmb 3 r).2).1⟩, (txt (nmb 3 r).2).2)
def rBk : Nat → List Bk → Rr → List Bk × Rr
  | 0, acc, r => (acc, r)
  | k + 1, acc, r => rBk k (acc ++ [(rBk1 r).1]) (rBk1 r).2
def rTg : Nat → List ByteArray → Rr → List ByteArray × Rr
  | 0, acc, r => (acc, r)
  | k + 1, acc, r => rTg k (acc ++ [(txt r).1]) (txt r).2
def rSh : Nat → List Int → Rr → List Int × Rr
  | 0, acc, r => (acc, r)
  | k + 1, acc, r => rSh k (acc ++ [((nmb 2 r).1 : Int)]) (nmb 2 r).2
def rH1 (r : Rr) : Nt × Rr := (⟨((nmb 3 r).1 : Int), ((nmb 3 (nmb 3 r).2).1 : Int), (txt (nmb 3 (nmb 3 r).2).2).1, [], []⟩, (txt (nmb 3 (nmb 3 r).2).2).2)
def rNt1 (r : Rr) : Nt × Rr :=
  let h := rH1 r
  let c := nmb 1 h.2
  let g := rTg c.1 [] c.2
  let d := nmb 1 g.2
  let z := rSh d.1 [] d.2
  ({ h.1 with tg := g.1, sh := z.1 }, z.2)
def rNt : Nat → List Nt → Rr → List Nt × Rr
  | 0, acc, r => (acc, r)
  | k + 1, acc, r => rNt k (acc ++ [(rNt1 r).1]) (rNt1 r).2
def rAll (b : List Nat) : Sf × Rr :=
  let x := nmb 3 (b, false)
  let y := nmb 3 x.2
  let z := nmb 3 y.2
  let c := nmb 1 z.2
  let bs := rBk c.1 [] c.2
  let d := nmb 1 bs.2
  let ts := rNt d.1 [] d.2
  (⟨(x.1 : Int), (y.1 : Int), (z.1 : Int), bs.1, ts.1⟩, ts.2)
def okR (b : List Nat) : Bool := !(rAll b).2.2 && ((rAll b).2.1.isEmpty && mayS (rAll b).1)
-- forth
theorem tk_ok (l rest : List Nat) : tkR l.length (l ++ rest, false) = (l, (rest, false)) := by
  unfold tkR
  have h : decide ((l ++ rest).length < l.length) = false := decide_eq_false (by rw [List.length_append]; omega)
  show cond (decide ((l ++ rest).length < l.length)) _ _ = _
  rw [h]
  simp
theorem nmb_ok {v : Int} {n : Nat} (rest : List Nat) (h : numB (beB v.toNat n) = v.toNat) : nmb n (iL v n ++ rest, false) = (v.toNat, (rest, false)) := by
  unfold nmb
  have := tk_ok (iL v n) rest
  rw [iL_len] at this
  rw [this]
  show (numB (beB v.toNat n), _) = _
  rw [h]
theorem nmb3_ok {v : Int} (rest : List Nat) (h : v < 16777216) : nmb 3 (iL v 3 ++ rest, false) = (v.toNat, (rest, false)) := nmb_ok rest (num_be3 (by omega))
theorem nmb2_ok {v : Int} (rest : List Nat) (h : v < 65536) : nmb 2 (iL v 2 ++ rest, false) = (v.toNat, (rest, false)) := nmb_ok rest (num_be2 (by omega))
theorem nmb1_ok (v : Nat) (rest : List Nat) : nmb 1 (v :: rest, false) = (v, (rest, false)) := by
  unfold nmb
  have := tk_ok [v] rest
  simp only [List.length_singleton, List.singleton_append] at this
  rw [this]
  simp [numB]
theorem txt_ok (x : ByteArray) (rest : List Nat) : txt (nmL x ++ rest, false) = (x, (rest, false)) := by
  unfold txt
  have h1 : nmb 1 (nmL x ++ rest, false) = (x.size, (bytN x ++ rest, false)) := nmb1_ok x.size _
  rw [h1]
  have h2 := tk_ok (bytN x) rest
  rw [bytN_len] at h2
  rw [h2, strN_bytN]
structure OkB (b : Bk) : Prop where
  a : 0 ≤ b.id ∧ b.id < 16777216
structure OkN (n : Nt) : Prop where
  a : 0 ≤ n.id ∧ n.id < 16777216
  b : 0 ≤ n.bk ∧ n.bk < 16777216
  c : ∀ z ∈ n.sh, 0 ≤ z ∧ z < 65536
theorem rBk_ok : ∀ (l acc : List Bk) (rest : List Nat), (∀ b ∈ l, OkB b) → rBk l.length acc (l.flatMap bkL ++ rest, false) = (acc ++ l, (rest, false))
  | [], acc, rest, _ => by simp [rBk]
  | b :: l, acc, rest, h => by
    have hb := (h b (by simp)).a
    have e : (b :: l).flatMap bkL ++ rest = iL b.id 3 ++ (nmL b.nm ++ (l.flatMap bkL ++ rest)) := by simp [bkL, List.append_assoc]
    rw [e, List.length_cons, rBk]
    have h1 : rBk1 (iL b.id 3 ++ (nmL b.nm ++ (l.flatMap bkL ++ rest)), false) = (b, (l.flatMap bkL ++ rest, false)) := by
      unfold rBk1
      rw [nmb3_ok _ (by omega), txt_ok]
      show ((⟨(b.id.toNat : Int), b.nm⟩ : Bk), _) = _
      rw [Int.toNat_of_nonneg hb.1]
    rw [h1, rBk_ok l _ rest (fun c hc => h c (by simp [hc]))]
    simp
theorem rTg_ok : ∀ (l acc : List ByteArray) (rest : List Nat), rTg l.length acc (l.flatMap nmL ++ rest, false) = (acc ++ l, (rest, false))
  | [], acc, rest => by simp [rTg]
  | x :: l, acc, rest => by
    have e : (x :: l).flatMap nmL ++ rest = nmL x ++ (l.flatMap nmL ++ rest) := by simp [List.append_assoc]
    rw [e, List.length_cons, rTg, txt_ok, rTg_ok l _ rest]
    simp
theorem rSh_ok : ∀ (l acc : List Int) (rest : List Nat), (∀ z ∈ l, 0 ≤ z ∧ z < 65536) → rSh l.length acc ((l.flatMap fun z => iL z 2) ++ rest, false) = (acc ++ l, (rest, false))
  | [], acc, rest, _ => by simp [rSh]
  | z :: l, acc, rest, h => by
    have hz := h z (by simp)
    have e : ((z :: l).flatMap fun z => iL z 2) ++ rest = iL z 2 ++ ((l.flatMap fun z => iL z 2) ++ rest) := by simp [List.append_assoc]
    rw [e, List.length_cons, rSh, nmb2_ok _ (by omega)]
    show rSh l.length (acc ++ [((z.toNat : Nat) : Int)]) _ = _
    rw [Int.toNat_of_nonneg hz.1, rSh_ok l _ rest (fun c hc => h c (by simp [hc]))]
    simp
theorem rNt1_ok (n : Nt) (rest : List Nat) (h : OkN n) : rNt1 (ntL n ++ rest, false) = (n, (rest, false)) := by
  have e : ntL n ++ rest = iL n.id 3 ++ (iL n.bk 3 ++ (nmL n.nm ++ (n.tg.length :: (n.tg.flatMap nmL ++ (n.sh.length :: ((n.sh.flatMap fun z => iL z 2) ++ rest)))))) := by simp [ntL, List.append_assoc]
  have h1 : rH1 (ntL n ++ rest, false) = ({ n with tg := [], sh := [] }, (n.tg.length :: (n.tg.flatMap nmL ++ (n.sh.length :: ((n.sh.flatMap fun z => iL z 2) ++ rest))), false)) := by
    rw [e]
    unfold rH1
    rw [nmb3_ok _ h.a.2, nmb3_ok _ h.b.2, txt_ok]
    show ((⟨(n.id.toNat : Int), (n.bk.toNat : Int), n.nm, [], []⟩ : Nt), _) = _
    rw [Int.toNat_of_nonneg h.a.1, Int.toNat_of_nonneg h.b.1]
  unfold rNt1
  rw [h1]
  show ((⟨n.id, n.bk, n.nm, (rTg (nmb 1 _).1 [] (nmb 1 _).2).1, _⟩ : Nt), _) = _
  simp only [nmb1_ok, rTg_ok, rSh_ok _ _ _ h.c, List.nil_append]
theorem rNt_ok : ∀ (l acc : List Nt) (rest : List Nat), (∀ n ∈ l, OkN n) → rNt l.length acc (l.flatMap ntL ++ rest, false) = (acc ++ l, (rest, false))
  | [], acc, rest, _ => by simp [rNt]
  | n :: l, acc, rest, h => by
    have e : (n :: l).flatMap ntL ++ rest = ntL n ++ (l.flatMap ntL ++ rest) := by simp [List.append_assoc]
    rw [e, List.length_cons, rNt, rNt1_ok n _ (h n (by simp)), rNt_ok l _ rest (fun c hc => h c (by simp [hc]))]
    simp
structure OkS (s : Sf) : Prop where
  nb : 0 ≤ s.nb ∧ s.nb < 16777216
  nn : 0 ≤ s.nn ∧ s.nn < 16777216
  ns : 0 ≤ s.ns ∧ s.ns < 16777216
  bs : ∀ b ∈ s.bs, OkB b
  ts : ∀ n ∈ s.ts, OkN n
theorem rAll_ok (s : Sf) (rest : List Nat) (h : OkS s) : rAll (shL s ++ rest) = (s, (rest, false)) := by
  have e : shL s ++ rest = iL s.nb 3 ++ (iL s.nn 3 ++ (iL s.ns 3 ++ (s.bs.length :: (s.bs.flatMap bkL ++ (s.ts.length :: (s.ts.flatMap ntL ++ rest)))))) := by simp [shL, List.append_assoc]
  unfold rAll
  rw [e]
  simp only [nmb3_ok _ h.nb.2, nmb3_ok _ h.nn.2, nmb3_ok _ h.ns.2, nmb1_ok, rBk_ok _ _ _ h.bs, rNt_ok _ _ _ h.ts, List.nil_append, Int.toNat_of_nonneg h.nb.1, Int.toNat_of_nonneg h.nn.1, Int.toNat_of_nonneg h.ns.1]
-- back
theorem tk_back {n : Nat} {r : Rr} (h : (tkR n r).2.2 = false) : r.2 = false ∧ r.1 = (tkR n r).1 ++ (tkR n r).2.1 ∧ (tkR n r).1.length = n := by
  obtain ⟨b, s⟩ := r
  unfold tkR at h ⊢
  cases s
  · simp only [cond_false] at h ⊢
    by_cases hl : b.length < n
    · rw [decide_eq_true hl] at h
      cases h
    · rw [decide_eq_false hl] at h ⊢
      refine ⟨trivial, ?_, ?_⟩
      · simp
      · simp
        omega
  · simp at h
theorem b8_app {a b : List Nat} (h : Bytes8 (a ++ b)) : Bytes8 a ∧ Bytes8 b := ⟨fun x hx => h x (by simp [hx]), fun x hx => h x (by simp [hx])⟩
theorem be_num {n : Nat} {bs : List Nat} (hn : n = 1 ∨ n = 2 ∨ n = 3) (hl : bs.length = n) (h : Bytes8 bs) : beB (numB bs) n = bs ∧ numB bs < 16777216 ∧ (n ≤ 2 → numB bs < 65536) ∧ (n = 1 → bs = [numB bs] ∧ numB bs < 256) := by
  rcases hn with rfl | rfl | rfl
  · match bs, hl with
    | [x], _ =>
      have hx := h x (by simp)
      refine ⟨?_, ?_, fun _ => ?_, fun _ => ?_⟩ <;> simp [beB, numB, List.range_succ] <;> omega
  · obtain ⟨h1, h2⟩ := be_num2 hl h
    exact ⟨h1, by omega, fun _ => h2, fun e => by omega⟩
  · obtain ⟨h1, h2⟩ := be_num3 hl h
    exact ⟨h1, h2, fun e => by omega, fun e => by omega⟩
structure NmB (n : Nat) (r : Rr) : Prop where
  no : r.2 = false
  eq : r.1 = iL ((nmb n r).1 : Int) n ++ (nmb n r).2.1
  b8 : Bytes8 (nmb n r).2.1
  lt : (nmb n r).1 < 16777216
  l2 : n ≤ 2 → (nmb n r).1 < 65536
  l1 : n = 1 → r.1 = (nmb n r).1 :: (nmb n r).2.1 ∧ (nmb n r).1 < 256
theorem nmb_back {n : Nat} {r : Rr} (hn : n = 1 ∨ n = 2 ∨ n = 3) (h8 : Bytes8 r.1) (h : (nmb n r).2.2 = false) : NmB n r := by
  obtain ⟨h1, h2, h3⟩ := tk_back h
  have h4 := h8
  rw [h2] at h4
  obtain ⟨h5, h6⟩ := b8_app h4
  obtain ⟨q1, q2, q3, q4⟩ := be_num hn h3 h5
  refine ⟨h1, ?_, h6, q2, q3, fun e => ⟨?_, (q4 e).2⟩⟩
  · show r.1 = beB (((numB (tkR n r).1 : Nat) : Int)).toNat n ++ (tkR n r).2.1
    rw [Int.toNat_natCast, q1]
    exact h2
  · show r.1 = numB (tkR n r).1 :: (tkR n r).2.1
    have h7 := (q4 e).1
    conv => lhs; rw [h2, h7]
    rfl
structure TxB (r : Rr) : Prop where
  no : r.2 = false
  eq : r.1 = nmL (txt r).1 ++ (txt r).2.1
  b8 : Bytes8 (txt r).2.1
theorem txt_back {r : Rr} (h8 : Bytes8 r.1) (h : (txt r).2.2 = false) : TxB r := by
  obtain ⟨h1, h2, h3⟩ := tk_back (n := (nmb 1 r).1) (r := (nmb 1 r).2) h
  have hb := nmb_back (Or.inl rfl) h8 h1
  have h4 := hb.b8
  rw [h2] at h4
  obtain ⟨h5, h6⟩ := b8_app h4
  refine ⟨hb.no, ?_, h6⟩
  have e1 := (hb.l1 rfl).1
  rw [e1]
  unfold txt nmL
  rw [bytN_strN h5]
  have hs : (strN (tkR (nmb 1 r).1 (nmb 1 r).2).1).size = (nmb 1 r).1 := by
    rw [← bytN_len, bytN_strN h5]
    exact h3
  rw [hs, List.cons_append, ← h2]
theorem rBk_len : ∀ (k : Nat) (acc : List Bk) (r : Rr), (rBk k acc r).1.length = acc.length + k
  | 0, acc, r => rfl
  | k + 1, acc, r => by
    rw [rBk, rBk_len k]
    simp
    omega
theorem rTg_len : ∀ (k : Nat) (acc : List ByteArray) (r : Rr), (rTg k acc r).1.length = acc.length + k
  | 0, acc, r => rfl
  | k + 1, acc, r => by
    rw [rTg, rTg_len k]
    simp
    omega
theorem rSh_len : ∀ (k : Nat) (acc : List Int) (r : Rr), (rSh k acc r).1.length = acc.length + k
  | 0, acc, r => rfl
  | k + 1, acc, r => by
    rw [rSh, rSh_len k]
    simp
    omega
theorem rNt_len : ∀ (k : Nat) (acc : List Nt) (r : Rr), (rNt k acc r).1.length = acc.length + k
  | 0, acc, r => rfl
  | k + 1, acc, r => by
    rw [rNt, rNt_len k]
    simp
    omega
theorem rBk_back : ∀ (k : Nat) (acc : List Bk) (r : Rr), Bytes8 r.1 → (rBk k acc r).2.2 = false → r.2 = false ∧ Bytes8 (rBk k acc r).2.1 ∧ ∃ l, (rBk k acc r).1 = acc ++ l ∧ r.1 = l.flatMap bkL ++ (rBk k acc r).2.1 ∧ ∀ b ∈ l, OkB b
  | 0, acc, r, h8, h => ⟨h, h8, [], by simp [rBk], by simp [rBk], fun b hb => by simp at hb⟩
  | k + 1, acc, r, h8, h => by
    rw [rBk] at h ⊢
    have hq : ∀ r' : Rr, r' = (rBk1 r).2 → r'.2 = false → Bytes8 r'.1 ∧ r.2 = false ∧ r.1 = bkL (rBk1 r).1 ++ r'.1 ∧ OkB (rBk1 r).1 := by
      rintro r' rfl h'
      have e0 : (txt (nmb 3 r).2).2.2 = false := h'
      have h80 : ∀ x : Rr, (nmb 3 r).2 = x → (txt x).2.2 = false → x.2 = false := by
        intro x hx hh
        exact (tk_back (tk_back (n := (nmb 1 x).1) hh).1).1
      have e1 := h80 _ rfl e0
      have hn := nmb_back (Or.inr (Or.inr rfl)) h8 e1
      have ht := txt_back hn.b8 e0
      refine ⟨ht.b8, hn.no, ?_, ⟨by show (0 : Int) ≤ ((nmb 3 r).1 : Int); omega, by show ((nmb 3 r).1 : Int) < 16777216; have := hn.lt; omega⟩⟩
      show r.1 = iL ((nmb 3 r).1 : Int) 3 ++ nmL (txt (nmb 3 r).2).1 ++ (txt (nmb 3 r).2).2.1
      rw [List.append_assoc, ← ht.eq]
      exact hn.eq
    have hst : (rBk1 r).2.2 = false := by
      have stick : ∀ (k : Nat) (acc : List Bk) (x : Rr), (rBk k acc x).2.2 = false → x.2 = false := by
        intro k
        induction k with
        | zero => intro acc x hx; exact hx
        | succ k ih =>
          intro acc x hx
          rw [rBk] at hx
          have h1 := ih _ _ hx
          exact (tk_back (n := 3) (tk_back (n := 1) (tk_back (n := (nmb 1 (nmb 3 x).2).1) h1).1).1).1
      exact stick _ _ _ h
    obtain ⟨q1, q2, q3, q4⟩ := hq _ rfl hst
    obtain ⟨p1, p2, l, p3, p4, p5⟩ := rBk_back k _ _ q1 h
    refine ⟨q2, p2, (rBk1 r).1 :: l, by rw [p3]; simp, ?_, fun b hb => ?_⟩
    · rw [q3]
      conv => lhs; rw [p4]
      simp [List.append_assoc]
    · rcases List.mem_cons.1 hb with rfl | hb
      · exact q4
      · exact p5 b hb
theorem rTg_back : ∀ (k : Nat) (acc : List ByteArray) (r : Rr), Bytes8 r.1 → (rTg k acc r).2.2 = false → r.2 = false ∧ Bytes8 (rTg k acc r).2.1 ∧ ∃ l, (rTg k acc r).1 = acc ++ l ∧ r.1 = l.flatMap nmL ++ (rTg k acc r).2.1
  | 0, acc, r, h8, h => ⟨h, h8, [], by simp [rTg], by simp [rTg]⟩
  | k + 1, acc, r, h8, h => by
    rw [rTg] at h ⊢
    have hst : (txt r).2.2 = false := by
      have stick : ∀ (k : Nat) (acc : List ByteArray) (x : Rr), (rTg k acc x).2.2 = false → x.2 = false := by
        intro k
        induction k with
        | zero => intro acc x hx; exact hx
        | succ k ih =>
          intro acc x hx
          rw [rTg] at hx
          exact (tk_back (n := 1) (tk_back (n := (nmb 1 x).1) (ih _ _ hx)).1).1
      exact stick _ _ _ h
    have ht := txt_back h8 hst
    obtain ⟨p1, p2, l, p3, p4⟩ := rTg_back k _ _ ht.b8 h
    refine ⟨ht.no, p2, (txt r).1 :: l, by rw [p3]; simp, ?_⟩
    rw [ht.eq]
    conv => lhs; rw [p4]
    simp [List.append_assoc]
theorem rSh_back : ∀ (k : Nat) (acc : List Int) (r : Rr), Bytes8 r.1 → (rSh k acc r).2.2 = false → r.2 = false ∧ Bytes8 (rSh k acc r).2.1 ∧ ∃ l, (rSh k acc r).1 = acc ++ l ∧ r.1 = (l.flatMap fun z => iL z 2) ++ (rSh k acc r).2.1 ∧ ∀ z ∈ l, 0 ≤ z ∧ z < 65536
  | 0, acc, r, h8, h => ⟨h, h8, [], by simp [rSh], by simp [rSh], fun b hb => by simp at hb⟩
  | k + 1, acc, r, h8, h => by
    rw [rSh] at h ⊢
    have hst : (nmb 2 r).2.2 = false := by
      have stick : ∀ (k : Nat) (acc : List Int) (x : Rr), (rSh k acc x).2.2 = false → x.2 = false := by
        intro k
        induction k with
        | zero => intro acc x hx; exact hx
        | succ k ih =>
          intro acc x hx
          rw [rSh] at hx
          exact (tk_back (n := 2) (ih _ _ hx)).1
      exact stick _ _ _ h
    have hn := nmb_back (Or.inr (Or.inl rfl)) h8 hst
    obtain ⟨p1, p2, l, p3, p4, p5⟩ := rSh_back k _ _ hn.b8 h
    refine ⟨hn.no, p2, ((nmb 2 r).1 : Int) :: l, by rw [p3]; simp, ?_, fun z hz => ?_⟩
    · rw [hn.eq]
      conv => lhs; rw [p4]
      simp [List.append_assoc]
    · rcases List.mem_cons.1 hz with rfl | hz
      · have := hn.l2 (by decide)
        omega
      · exact p5 z hz
theorem rNt1_back {r : Rr} (h8 : Bytes8 r.1) (h : (rNt1 r).2.2 = false) : r.2 = false ∧ Bytes8 (rNt1 r).2.1 ∧ r.1 = ntL (rNt1 r).1 ++ (rNt1 r).2.1 ∧ OkN (rNt1 r).1 := by
  have e0 : (rSh (nmb 1 (rTg (nmb 1 (rH1 r).2).1 [] (nmb 1 (rH1 r).2).2).2).1 [] (nmb 1 (rTg (nmb 1 (rH1 r).2).1 [] (nmb 1 (rH1 r).2).2).2).2).2.2 = false := h
  have stS : ∀ (k : Nat) (acc : List Int) (x : Rr), (rSh k acc x).2.2 = false → x.2 = false := by
    intro k
    induction k with
    | zero => intro acc x hx; exact hx
    | succ k ih =>
      intro acc x hx
      rw [rSh] at hx
      exact (tk_back (n := 2) (ih _ _ hx)).1
  have stT : ∀ (k : Nat) (acc : List ByteArray) (x : Rr), (rTg k acc x).2.2 = false → x.2 = false := by
    intro k
    induction k with
    | zero => intro acc x hx; exact hx
    | succ k ih =>
      intro acc x hx
      rw [rTg] at hx
      exact (tk_back (n := 1) (tk_back (n := (nmb 1 x).1) (ih _ _ hx)).1).1
  have e1 := stS _ _ _ e0
  have e2 := (tk_back (n := 1) e1).1
  have e3 := stT _ _ _ e2
  have e4 : (rH1 r).2.2 = false := (tk_back (n := 1) e3).1
  have e5 : (nmb 3 (nmb 3 r).2).2.2 = false := (tk_back (n := 1) (tk_back (n := (nmb 1 (nmb 3 (nmb 3 r).2).2).1) e4).1).1
  have e6 : (nmb 3 r).2.2 = false := (tk_back (n := 3) e5).1
  have n1 := nmb_back (Or.inr (Or.inr rfl)) h8 e6
  have n2 := nmb_back (Or.inr (Or.inr rfl)) n1.b8 e5
  have n3 := txt_back n2.b8 e4
  have n4 := nmb_back (Or.inl rfl) (r := (rH1 r).2) n3.b8 e3
  obtain ⟨-, n6, l, n7, n8⟩ := rTg_back _ _ _ n4.b8 e2
  have n9 := nmb_back (Or.inl rfl) n6 e1
  obtain ⟨-, m2, l2, m3, m4, m5⟩ := rSh_back _ _ _ n9.b8 e0
  have hlen1 := rTg_len (nmb 1 (rH1 r).2).1 [] (nmb 1 (rH1 r).2).2
  have hlen2 := rSh_len (nmb 1 (rTg (nmb 1 (rH1 r).2).1 [] (nmb 1 (rH1 r).2).2).2).1 [] (nmb 1 (rTg (nmb 1 (rH1 r).2).1 [] (nmb 1 (rH1 r).2).2).2).2
  have en : (rNt1 r).1 = ⟨((nmb 3 r).1 : Int), ((nmb 3 (nmb 3 r).2).1 : Int), (txt (nmb 3 (nmb 3 r).2).2).1, l, l2⟩ := by
    show (⟨_, _, _, (rTg (nmb 1 (rH1 r).2).1 [] (nmb 1 (rH1 r).2).2).1, (rSh _ [] _).1⟩ : Nt) = _
    rw [n7, m3]
    rfl
  have q1 : (nmb 1 (rH1 r).2).1 = l.length := by rw [n7] at hlen1; simp at hlen1; omega
  have q2 : (nmb 1 (rTg (nmb 1 (rH1 r).2).1 [] (nmb 1 (rH1 r).2).2).2).1 = l2.length := by rw [m3] at hlen2; simp at hlen2; omega
  refine ⟨n1.no, m2, ?_, ?_⟩
  · rw [en]
    show r.1 = iL ((nmb 3 r).1 : Int) 3 ++ (iL ((nmb 3 (nmb 3 r).2).1 : Int) 3 ++ (nmL (txt (nmb 3 (nmb 3 r).2).2).1 ++ (l.length :: (l.flatMap nmL ++ (l2.length :: l2.flatMap fun z => iL z 2))))) ++ (rNt1 r).2.1
    have z1 := n1.eq
    have z2 := n2.eq
    have z3 := n3.eq
    have z4 := (n4.l1 rfl).1
    have z5 := (n9.l1 rfl).1
    have z6 : (rH1 r).2.1 = (txt (nmb 3 (nmb 3 r).2).2).2.1 := rfl
    have z7 : (rNt1 r).2.1 = (rSh (nmb 1 (rTg (nmb 1 (rH1 r).2).1 [] (nmb 1 (rH1 r).2).2).2).1 [] (nmb 1 (rTg (nmb 1 (rH1 r).2).1 [] (nmb 1 (rH1 r).2).2).2).2).2.1 := rfl
    rw [z7]
    rw [q2] at z5
    rw [m4] at z5
    rw [z5] at n8
    rw [q1] at z4
    rw [n8] at z4
    rw [z6] at z4
    rw [z4] at z3
    rw [z3] at z2
    rw [z2] at z1
    rw [z1]
    simp only [List.append_assoc, List.cons_append]
  · rw [en]
    exact ⟨⟨by show (0 : Int) ≤ ((nmb 3 r).1 : Int); omega, by show ((nmb 3 r).1 : Int) < 16777216; have := n1.lt; omega⟩, ⟨by show (0 : Int) ≤ ((nmb 3 (nmb 3 r).2).1 : Int); omega, by show ((nmb 3 (nmb 3 r).2).1 : Int) < 16777216; have := n2.lt; omega⟩, m5⟩
theorem rNt_stick : ∀ (k : Nat) (acc : List Nt) (x : Rr), Bytes8 x.1 → (rNt k acc x).2.2 = false → x.2 = false ∧ Bytes8 (rNt k acc x).2.1 ∧ ∃ l, (rNt k acc x).1 = acc ++ l ∧ x.1 = l.flatMap ntL ++ (rNt k acc x).2.1 ∧ ∀ n ∈ l, OkN n
  | 0, acc, r, h8, h => ⟨h, h8, [], by simp [rNt], by simp [rNt], fun b hb => by simp at hb⟩
  | k + 1, acc, r, h8, h => by
    rw [rNt] at h ⊢
    have stS : ∀ (k : Nat) (acc : List Int) (x : Rr), (rSh k acc x).2.2 = false → x.2 = false := by
      intro k
      induction k with
      | zero => intro acc x hx; exact hx
      | succ k ih =>
        intro acc x hx
        rw [rSh] at hx
        exact (tk_back (n := 2) (ih _ _ hx)).1
    have stT : ∀ (k : Nat) (acc : List ByteArray) (x : Rr), (rTg k acc x).2.2 = false → x.2 = false := by
      intro k
      induction k with
      | zero => intro acc x hx; exact hx
      | succ k ih =>
        intro acc x hx
        rw [rTg] at hx
        exact (tk_back (n := 1) (tk_back (n := (nmb 1 x).1) (ih _ _ hx)).1).1
    have st1 : ∀ x : Rr, (rNt1 x).2.2 = false → x.2 = false := by
      intro x hx
      have e1 := stS _ _ _ hx
      have e3 := stT _ _ _ (tk_back (n := 1) e1).1
      have e4 : (rH1 x).2.2 = false := (tk_back (n := 1) e3).1
      exact (tk_back (n := 3) (tk_back (n := 3) (tk_back (n := 1) (tk_back (n := (nmb 1 (nmb 3 (nmb 3 x).2).2).1) e4).1).1).1).1
    have stN : ∀ (k : Nat) (acc : List Nt) (x : Rr), (rNt k acc x).2.2 = false → x.2 = false := by
      intro k
      induction k with
      | zero => intro acc x hx; exact hx
      | succ k ih =>
        intro acc x hx
        rw [rNt] at hx
        exact st1 x (ih _ _ hx)
    have hst := stN _ _ _ h
    obtain ⟨q1, q2, q3, q4⟩ := rNt1_back h8 hst
    obtain ⟨p1, p2, l, p3, p4, p5⟩ := rNt_stick k _ _ q2 h
    refine ⟨q1, p2, (rNt1 r).1 :: l, by rw [p3]; simp, ?_, fun n hn => ?_⟩
    · rw [q3]
      conv => lhs; rw [p4]
      simp [List.append_assoc]
    · rcases List.mem_cons.1 hn with rfl | hn
      · exact q4
      · exact p5 n hn
theorem rAll_back {b : List Nat} (h8 : Bytes8 b) (h : (rAll b).2.2 = false) : b = shL (rAll b).1 ++ (rAll b).2.1 ∧ OkS (rAll b).1 := by
  generalize hx : nmb 3 (b, false) = x
  generalize hy : nmb 3 x.2 = y
  generalize hz : nmb 3 y.2 = z
  generalize hc : nmb 1 z.2 = c
  generalize hbs : rBk c.1 [] c.2 = bs
  generalize hd : nmb 1 bs.2 = d
  generalize hts : rNt d.1 [] d.2 = ts
  have e : rAll b = (⟨(x.1 : Int), (y.1 : Int), (z.1 : Int), bs.1, ts.1⟩, ts.2) := by
    unfold rAll
    simp only [hx, hy, hz, hc, hbs, hd, hts]
  rw [e] at h ⊢
  have h1 : ts.2.2 = false := h
  have stB : ∀ (k : Nat) (acc : List Bk) (x : Rr), (rBk k acc x).2.2 = false → x.2 = false := by
    intro k
    induction k with
    | zero => intro acc x hx; exact hx
    | succ k ih =>
      intro acc x hx
      rw [rBk] at hx
      have h1 := ih _ _ hx
      exact (tk_back (n := 3) (tk_back (n := 1) (tk_back (n := (nmb 1 (nmb 3 x).2).1) h1).1).1).1
  have stS : ∀ (k : Nat) (acc : List Int) (x : Rr), (rSh k acc x).2.2 = false → x.2 = false := by
    intro k
    induction k with
    | zero => intro acc x hx; exact hx
    | succ k ih =>
      intro acc x hx
      rw [rSh] at hx
      exact (tk_back (n := 2) (ih _ _ hx)).1
  have stT : ∀ (k : Nat) (acc : List ByteArray) (x : Rr), (rTg k acc x).2.2 = false → x.2 = false := by
    intro k
    induction k with
    | zero => intro acc x hx; exact hx
    | succ k ih =>
      intro acc x hx
      rw [rTg] at hx
      exact (tk_back (n := 1) (tk_back (n := (nmb 1 x).1) (ih _ _ hx)).1).1
  have stN : ∀ (k : Nat) (acc : List Nt) (x : Rr), (rNt k acc x).2.2 = false → x.2 = false := by
    intro k
    induction k with
    | zero => intro acc x hx; exact hx
    | succ k ih =>
      intro acc x hx
      rw [rNt] at hx
      have hx := ih _ _ hx
      have e1 := stS _ _ _ hx
      have e3 := stT _ _ _ (tk_back (n := 1) e1).1
      have e4 : (rH1 x).2.2 = false := (tk_back (n := 1) e3).1
      exact (tk_back (n := 3) (tk_back (n := 3) (tk_back (n := 1) (tk_back (n := (nmb 1 (nmb 3 (nmb 3 x).2).2).1) e4).1).1).1).1
  have h2 : d.2.2 = false := stN d.1 [] d.2 (by rw [hts]; exact h1)
  have h3 : bs.2.2 = false := (tk_back (n := 1) (r := bs.2) (by have : (nmb 1 bs.2).2.2 = false := (by rw [hd]; exact h2); exact this)).1
  have h4 : c.2.2 = false := stB c.1 [] c.2 (by rw [hbs]; exact h3)
  have h5 : z.2.2 = false := (tk_back (n := 1) (r := z.2) (by have : (nmb 1 z.2).2.2 = false := (by rw [hc]; exact h4); exact this)).1
  have h6 : y.2.2 = false := (tk_back (n := 3) (r := y.2) (by have : (nmb 3 y.2).2.2 = false := (by rw [hz]; exact h5); exact this)).1
  have h7 : x.2.2 = false := (tk_back (n := 3) (r := x.2) (by have : (nmb 3 x.2).2.2 = false := (by rw [hy]; exact h6); exact this)).1
  have n1 := nmb_back (r := (b, false)) (Or.inr (Or.inr rfl)) h8 (by rw [hx]; exact h7)
  have n2 := nmb_back (r := x.2) (Or.inr (Or.inr rfl)) (by have := n1.b8; rw [hx] at this; exact this) (by rw [hy]; exact h6)
  have n3 := nmb_back (r := y.2) (Or.inr (Or.inr rfl)) (by have := n2.b8; rw [hy] at this; exact this) (by rw [hz]; exact h5)
  have n4 := nmb_back (r := z.2) (Or.inl rfl) (by have := n3.b8; rw [hz] at this; exact this) (by rw [hc]; exact h4)
  obtain ⟨-, m1, lb, m2, m3, m4⟩ := rBk_back c.1 [] c.2 (by have := n4.b8; rw [hc] at this; exact this) (by rw [hbs]; exact h3)
  rw [hbs] at m1 m2 m3
  have n5 := nmb_back (r := bs.2) (Or.inl rfl) m1 (by rw [hd]; exact h2)
  obtain ⟨-, k1, lt_, k2, k3, k4⟩ := rNt_stick d.1 [] d.2 (by have := n5.b8; rw [hd] at this; exact this) (by rw [hts]; exact h1)
  rw [hts] at k1 k2 k3
  have w1 := n1.eq
  have w2 := n2.eq
  have w3 := n3.eq
  have w4 := (n4.l1 rfl).1
  have w5 := (n5.l1 rfl).1
  have b1 := n1.lt
  have b2 := n2.lt
  have b3 := n3.lt
  rw [hx] at w1 b1
  rw [hy] at w2 b2
  rw [hz] at w3 b3
  rw [hc] at w4
  rw [hd] at w5
  have lb1 := rBk_len c.1 [] c.2
  have lt1 := rNt_len d.1 [] d.2
  rw [hbs, m2] at lb1
  rw [hts, k2] at lt1
  simp at lb1 lt1
  simp only [List.nil_append] at m2 k2
  constructor
  · show b = iL (x.1 : Int) 3 ++ (iL (y.1 : Int) 3 ++ (iL (z.1 : Int) 3 ++ (bs.1.length :: (bs.1.flatMap bkL ++ (ts.1.length :: ts.1.flatMap ntL))))) ++ ts.2.1
    rw [m2, k2, lb1, lt1]
    have w1' : b = iL (x.1 : Int) 3 ++ x.2.1 := w1
    rw [k3] at w5
    rw [w5] at m3
    rw [m3] at w4
    rw [w4] at w3
    rw [w3] at w2
    rw [w2] at w1'
    rw [w1']
    simp only [List.append_assoc, List.cons_append]
  · exact ⟨⟨by show (0 : Int) ≤ (x.1 : Int); omega, by show (x.1 : Int) < 16777216; omega⟩, ⟨by show (0 : Int) ≤ (y.1 : Int); omega, by show (y.1 : Int) < 16777216; omega⟩, ⟨by show (0 : Int) ≤ (z.1 : Int); omega, by show (z.1 : Int) < 16777216; omega⟩, by rw [m2]; exact m4, by rw [k2]; exact k4⟩
theorem MayF.ok {s : Sf} (h : MayF s) : OkS s := by
  refine ⟨⟨by have := h.nb; omega, by have := h.nb; omega⟩, ⟨by have := h.nn; omega, by have := h.nn; omega⟩, ⟨by have := h.ns; omega, by have := h.ns; omega⟩, fun b hb => ⟨?_, ?_⟩, fun n hn => ?_⟩
  · have := h.bs b hb
    omega
  · have h1 := h.bs b hb
    have h2 := h.nb
    omega
  · have h1 := h.ts n hn
    have h2 := h.nn
    obtain ⟨m1, m2, m3, m4⟩ := mayNt_iff.1 h1.2.2
    obtain ⟨q1, q2, q3⟩ := (sh_iff _ _ _).1 h.sh
    refine ⟨⟨by omega, by omega⟩, ?_, fun z hz => ?_⟩
    · obtain ⟨b, hb, he⟩ := m2
      have h5 := h.bs b hb
      have h6 := h.nb
      omega
    · have h5 := inI_bd (q2 z (List.mem_flatMap.2 ⟨n, hn, hz⟩)).1
      have h6 := h.ns
      omega
theorem okR_iff {b : List Nat} (h8 : Bytes8 b) : okR b = true ↔ ∃ s, MayF s ∧ b = shL s ∧ (rAll b).1 = s := by
  unfold okR
  constructor
  · intro h
    simp only [Bool.and_eq_true, Bool.not_eq_true', List.isEmpty_iff] at h
    obtain ⟨h1, h2⟩ := rAll_back h8 h.1
    refine ⟨(rAll b).1, mayF_of h.2.2, ?_, rfl⟩
    rw [h.2.1, List.append_nil] at h1
    exact h1
  · rintro ⟨s, h1, h2, h3⟩
    have := rAll_ok s [] h1.ok
    rw [List.append_nil, ← h2] at this
    rw [this]
    simp [mayS_conv h1]
theorem okR_lay {s : Sf} (h : MayF s) : okR (shL s) = true ∧ (rAll (shL s)).1 = s := by
  have := rAll_ok s [] h.ok
  rw [List.append_nil] at this
  unfold okR
  rw [this]
  simp [mayS_conv h]
end Go.Proofs.YtllnfociddodcaaDoor
namespace Go.Proofs.YtllnfociddodcaaDoor
open Go.ChangeShapes Go.WideShapes Go.ChangeAt Go.RowKit
theorem infoByte : (Tryd.prog.info? 5).map (fun i => (i.zero, i.size, i.bytes)) = some (some (.int .u8 0), 1, 1) := by kernel_rfl
def LentB (w : World) (g : Nat) (xs : List Value) : Prop := ∃ cur : Array Value, Blk w g 5 cur ∧ (∀ (j : Nat) (u : Value), xs[j]? = some u → cur[j]? = some u) ∧ ∀ i : Nat, i < 3 → cur[xs.length + i]? = some (.int .u8 119)
theorem LentB.below {w w' : World} {g B : Nat} {xs : List Value} (h : LentB w g xs) (hb : Below B w w') (hg : g < B) : LentB w' g xs := by
  obtain ⟨cur, h1, h2⟩ := h
  exact ⟨cur, h1.below hb hg, h2⟩
theorem LentB.lt {w : World} {g : Nat} {xs : List Value} (h : LentB w g xs) : g < w.heap.size := by
  obtain ⟨cur, h1, _⟩ := h
  exact h1.lt
theorem LentB.sl {w : World} {g : Nat} {xs : List Value} (h : LentB w g xs) : Sl w w.heap.size (some ⟨g, 0, none⟩) xs := by
  have hl := h.lt
  obtain ⟨cur, h1, h2, _⟩ := h
  exact Or.inr ⟨g, 0, rfl, hl, fun k v hk => by rw [Nat.zero_add, h1.cell_]; exact h2 k v hk⟩
theorem Sl.cells_ {w : World} {B : Nat} {A : Option Addr} {vs : List Value} (h : Sl w B A vs) : ∀ ad, A = some ad → ∀ j u, vs[j]? = some u → w.cell? (ad.add j) = some u := by
  intro ad had j u hu
  obtain ⟨b1, o1, rfl, _, q⟩ := h.at_ (by
    have := (List.getElem?_eq_some_iff.1 hu).1
    omega)
  obtain rfl := Option.some.inj had
  rw [add_plain]
  exact q j u hu
theorem oneB (bs : List Nat) : ∀ u ∈ bs.map byteV, u.oneCell' = true := by
  intro u hu
  obtain ⟨z, _, rfl⟩ := List.mem_map.1 hu
  rfl
end Go.Proofs.YtllnfociddodcaaDoor
namespace Go.Proofs.YtllnfociddodcaaDoor
open Go.ChangeShapes Go.WideShapes Go.ChangeAt Go.RowKit
theorem Sl.held {W w' : World} {A : Option Addr} {vs : List Value} (h : Sl W W.heap.size A vs) (hz : W.heap.size ≤ w'.heap.size) (hc : ∀ b o, b < W.heap.size → w'.cell? ⟨b, o, none⟩ = W.cell? ⟨b, o, none⟩) : Sl w' w'.heap.size A vs := by
  rcases h with h | ⟨b, off, e, hlt, hq⟩
  · exact Or.inl h
  · exact Or.inr ⟨b, off, e, by omega, fun k v hv => (hc b (off + k) hlt).trans (hq k v hv)⟩
end Go.Proofs.YtllnfociddodcaaDoor
namespace Go.Proofs.YtllnfociddodcaaDoor
open Go.ChangeShapes Go.WideShapes Go.ChangeAt Go.RowKit
attribute [local go_sem ↓] Go.wp_at_zero Go.wp_at_succ
end Go.Proofs.YtllnfociddodcaaDoor
namespace Go.Proofs.YtllnfociddodcaaDoor
open Go.ChangeShapes Go.WideShapes Go.ChangeAt Go.RowKit
attribute [local go_sem ↓] Go.wp_at_zero Go.wp_at_succ
def KeepU (w w' : World) : Prop := ∀ (k : Nat) (cs : Array Value) (t : TypeId) (fr : Nat × Nat), w.heap[k]? = some (.cells cs t fr) → t ≠ 5 → w'.heap[k]? = some (.cells cs t fr)
theorem KeepU.refl (w : World) : KeepU w w := fun _ _ _ _ h _ => h
theorem KeepU.trans {w w1 w2 : World} (h : KeepU w w1) (h2 : KeepU w1 w2) : KeepU w w2 := fun k cs t fr a b => h2 k cs t fr (h k cs t fr a b) b
theorem lt_of_heap {w : World} {k : Nat} {o : Obj} (h : w.heap[k]? = some o) : k < w.heap.size := by
  rcases Nat.lt_or_ge k w.heap.size with h1 | h1
  · exact h1
  · rw [Array.getElem?_eq_none h1] at h
    cases h
theorem KeepU.alloc_ (w : World) (o : Obj) : KeepU w (w.alloc o) := fun k cs t fr a _ => (heap_alloc_old w o (lt_of_heap a)).trans a
theorem KeepU.of_grown {w w' : World} {base n : Nat} {v : Value} {xs : List Value} (ho : w.ownsRow base 5 1 v n xs) (hg : w.grownBy w' v.ownBlock) : KeepU w w' := by
  intro k cs t fr a b
  rw [← a]
  refine hg.block k (lt_of_heap a) (fun e => b ?_)
  rcases ho.2 with ⟨rfl, _⟩ | ⟨g, cap, cur, rfl, _, hh, _⟩
  · cases e
  · have e2 : g = k := by simpa [Value.ownBlock, eq_comm] using e
    subst e2
    rw [hh] at a
    cases a
    rfl
theorem Blk.keepU {w w' : World} {g : Nat} {t : TypeId} {cs : Array Value} (h : Blk w g t cs) (hk : KeepU w w') (ht : t ≠ 5) : Blk w' g t cs := hk g cs t (0, 0) h ht
def ByR (w : World) (base : Nat) (v : Value) (xs : List Nat) : Prop := w.ownsRow base 5 1 v xs.length (xs.map byteV)
theorem ByR.nil (w : World) (base : Nat) : ByR w base (.slice none 0 0) [] := World.ownsRow_nil _ _ _ _
structure ByT (base : Nat) (w w' : World) (v' : Value) (ys : List Nat) : Prop where
  row : ByR w' base v' ys
  be : Below base w w'
  kp : KeepU w w'
theorem ByT.step {base : Nat} {w w1 w2 : World} {v1 v2 : Value} {xs ys : List Nat} (h : ByT base w w1 v1 xs) (h2 : ByT base w1 w2 v2 ys) : ByT base w w2 v2 ys := ⟨h2.row, h.be.trans h2.be, h.kp.trans h2.kp⟩
theorem ByT.alloc {base : Nat} {w w1 : World} {v1 : Value} {xs : List Nat} (h : ByT base w w1 v1 xs) (hb : base ≤ w.heap.size) (o : Obj) : ByT base w (w1.alloc o) v1 xs := ⟨World.ownsRow.alloc h.row o, h.be.alloc (Nat.le_trans hb h.be.size) o, h.kp.trans (KeepU.alloc_ _ _)⟩
theorem ByT.start {base : Nat} {w : World} {v : Value} {xs : List Nat} (h : ByR w base v xs) : ByT base w w v xs := ⟨h, Below.refl _ _, KeepU.refl _⟩
theorem ByR.put {base n m : Nat} {w : World} {v : Value} {xs ys : List Nat} (h : w.ownsRow base 5 1 v (n + m) (xs.map byteV ++ ys.map byteV)) (hn : xs.length = n) (hm : ys.length = m) : ByR w base v (xs ++ ys) := by
  unfold ByR
  rw [List.length_append, hn, hm, List.map_append]
  exact h
theorem strCells_byt (x : ByteArray) : Lib.strCells x = (bytN x).map byteV := by
  unfold Lib.strCells bytN byteV
  rw [List.map_map]
  rfl
theorem bappT (v n : Nat) (base : Nat) (sv : Value) (xs : List Nat) (w : World) (hr : ByR w base sv xs) (hb : base ≤ w.heap.size) (hm : xs.length ≤ 50000) (hv : v < 4294967296) (hn1 : 1 ≤ n) (hn : n ≤ 4) :
    Calls Tryd.prog 25 #[sv, .int .i64 (v : Int), .int .i64 (n : Int)] w fun e' w' => ∃ v', e' = .returned v' ∧ ByT base w w' v' (xs ++ (beB v n)) := by
  obtain ⟨i0, hi, hz0, hz1, hz2⟩ := info_parts infoByte
  obtain ⟨m, hml⟩ : ∃ m, xs.length = m := ⟨_, rfl⟩
  have HML := Lib.hid hml
  rw [hml] at hm
  have hr1 : w.ownsRow base 5 1 sv (m + 0) ((xs ++ (beB v n).take 0).map byteV) := by
    unfold ByR at hr
    rw [hml] at hr
    simpa using hr
  clear hml hr
  go_enter Tryd.func25, Tryd.ntmps25
  go_wp2
  go_loopw [0, 7] (fun s i wr => ∃ k : Nat, k ≤ n ∧ i = .int .i64 (8 * (n : Int) - 8 - 8 * (k : Int)) ∧ wr.ownsRow base 5 1 s (m + k) ((xs ++ (beB v n).take k).map byteV) ∧ Below base w wr ∧ KeepU w wr) (fun _ i _ => ((intOf i) + 8).toNat)
  case atStart => exact ⟨0, Nat.zero_le _, by go_num, hr1, Below.refl _ _, KeepU.refl _⟩
  case round =>
    obtain ⟨k, hk, rfl, ho, hB, hK⟩ := hrel
    by_cases hlt : k < n
    · obtain ⟨q, hq⟩ : ∃ q : Nat, n - 1 - k = q := ⟨_, rfl⟩
      have e1 : 8 * (n : Int) - 8 - 8 * (k : Int) = ((8 * q : Nat) : Int) := by omega
      rw [e1]
      have hsn := beB_snoc v n k hlt
      rw [hq] at hsn
      have hq3 : q ≤ 3 := by omega
      have HQ := Lib.hid hq
      have HS := Lib.hid hsn
      have hbs := hB.size
      clear hq hsn e1
      have q0 : (0 : Int) ≤ 8 * (q : Int) := by omega
      have q1 : 8 * (q : Int) ≤ 24 := by omega
      go_wp2_with (at_builtin; refine wpList_app _ rfl (.tmp 15) (.tmp 20) _ rfl base 5 i0 _ 1 1 Tryd.underlying28 hi hz0 hz1 hz2 rfl (by decide) _ _ _ rfl (ho.alloc _) _ 1 _ [byteV (v / 2 ^ (8 * q) % 256)] rfl (Rd.one (by simp [byteV])) (by simp [byteV, Value.oneCell']) (by unfold maxLen; omega) (by omega) (by simp; omega) ?_; intro s2 w2 ho2 hg2 hv2)
      go_roundw
      case rel => exact ⟨k + 1, by omega, by have := HQ.out; congr 1; omega, by rw [HS.out]; simpa [Nat.add_assoc] using ho2, (hB.alloc (by omega) _).trans (below_app (Nat.le_refl _) (by simp; omega) (ho.alloc _) hg2), hK.trans ((KeepU.alloc_ _ _).trans (KeepU.of_grown (ho.alloc _) hg2))⟩
      case measure => simp [intOf]; omega
    · have hkn : k = n := by omega
      have e0 : 8 * (n : Int) - 8 - 8 * (k : Int) = -8 := by omega
      rw [e0]
      clear e0
      go_wp2
      go_ret
      refine ⟨_, rfl, ?_, hB, hK⟩
      unfold ByR
      rw [List.length_append, HML.out, beB_len]
      rw [hkn, List.take_of_length_le (by rw [beB_len]; omega)] at ho
      exact ho
theorem lnameT (x : ByteArray) (base : Nat) (sv : Value) (xs : List Nat) (w : World) (hr : ByR w base sv xs) (hb : base ≤ w.heap.size) (hm : xs.length ≤ 50000) (hx : x.size < 256) :
    Calls Tryd.prog 26 #[sv, .string x] w fun e' w' => ∃ v', e' = .returned v' ∧ ByT base w w' v' (xs ++ (nmL x)) := by
  obtain ⟨i0, hi, hz0, hz1, hz2⟩ := info_parts infoByte
  obtain ⟨m, hml⟩ : ∃ m, xs.length = m := ⟨_, rfl⟩
  have HML := Lib.hid hml
  rw [hml] at hm
  have hr1 : w.ownsRow base 5 1 sv m (xs.map byteV) := by
    unfold ByR at hr
    rw [hml] at hr
    exact hr
  have hw : IntKind.u8.wrap (x.size : Int) = (x.size : Int) := by rw [IntKind.wrap_u8]; omega
  clear hml hr
  go_enter Tryd.func26, Tryd.ntmps26
  go_wp2_with (first | (at_builtin; refine Lib.wpList_append_own_string _ rfl (.tmp 11) (.tmp 12) _ _ rfl base 5 i0 Tryd.underlying28 Tryd.underlying9 hi hz0 hz1 hz2 _ _ _ rfl (ho2) x rfl (by unfold maxLen; omega) (by omega) ((by have := hg2.size; simp at this; omega)) ?_; intro s3 w3 ho3 hg3 hn3) | (at_builtin; refine wpList_app _ rfl (.tmp 5) (.tmp 9) _ rfl base 5 i0 _ 1 1 Tryd.underlying28 hi hz0 hz1 hz2 rfl (by decide) _ _ _ rfl (hr1.alloc _) _ 1 _ [byteV (x.size)] rfl (Rd.one (by simp [byteV])) (by simp [byteV, Value.oneCell']) (by unfold maxLen; omega) (by omega) (by simp; omega) ?_; intro s2 w2 ho2 hg2 hv2))
  go_ret
  have b2 : Below base w w2 := ((Below.refl base w).alloc hb _).trans (below_app (Nat.le_refl _) (by simp; omega) (hr1.alloc _) hg2)
  have k2 : KeepU w w2 := (KeepU.alloc_ _ _).trans (KeepU.of_grown (hr1.alloc _) hg2)
  have hb2 : base ≤ w2.heap.size := Nat.le_trans hb b2.size
  refine ⟨_, rfl, ?_, b2.trans (below_app (Nat.le_refl _) hb2 ho2 hg3), k2.trans (KeepU.of_grown ho2 hg3)⟩
  unfold ByR nmL
  have e : (xs ++ x.size :: bytN x).map byteV = (xs.map byteV ++ [byteV x.size]) ++ Lib.strCells x := by rw [strCells_byt]; simp
  rw [e]
  have e2 : (xs ++ x.size :: bytN x).length = m + 1 + x.size := by rw [List.length_append, HML.out, List.length_cons, bytN_len]; omega
  rw [e2]
  exact ho3
theorem fm_len {α : Type} (f : α → List Nat) (c : Nat) : ∀ (l : List α), (∀ x ∈ l, (f x).length ≤ c) → (l.flatMap f).length ≤ c * l.length
  | [], _ => by simp
  | x :: l, h => by
    rw [List.flatMap_cons, List.length_append, List.length_cons]
    have h1 := h x (by simp)
    have h2 := fm_len f c l (fun y hy => h y (by simp [hy]))
    rw [Nat.mul_add]
    omega
theorem fm_take {α : Type} (f : α → List Nat) {l : List α} {k : Nat} {x : α} (h : l[k]? = some x) : (l.take (k + 1)).flatMap f = (l.take k).flatMap f ++ f x := by
  rw [List.take_add_one, h, List.flatMap_append]
  simp
theorem nmL_len (x : ByteArray) : (nmL x).length = x.size + 1 := by
  unfold nmL
  rw [List.length_cons, bytN_len]
theorem bkL_len (b : Bk) : (bkL b).length = b.nm.size + 4 := by
  unfold bkL
  rw [List.length_append, iL_len, nmL_len]
  omega
theorem bapp3 (v : Int) (base : Nat) (sv : Value) (xs : List Nat) (w : World) (hr : ByR w base sv xs) (hb : base ≤ w.heap.size) (hm : xs.length ≤ 50000) (h0 : 0 ≤ v) (h1 : v < 4294967296) : Calls Tryd.prog 25 #[sv, .int .i64 v, .int .i64 3] w fun e' w' => ∃ v', e' = .returned v' ∧ ByT base w w' v' (xs ++ (iL v 3)) := by
  obtain ⟨k, rfl⟩ := Int.eq_ofNat_of_zero_le h0
  exact bappT k 3 base sv xs w hr hb hm (by omega) (by decide) (by decide)
theorem bapp2 (v : Int) (base : Nat) (sv : Value) (xs : List Nat) (w : World) (hr : ByR w base sv xs) (hb : base ≤ w.heap.size) (hm : xs.length ≤ 50000) (h0 : 0 ≤ v) (h1 : v < 4294967296) : Calls Tryd.prog 25 #[sv, .int .i64 v, .int .i64 2] w fun e' w' => ∃ v', e' = .returned v' ∧ ByT base w w' v' (xs ++ (iL v 2)) := by
  obtain ⟨k, rfl⟩ := Int.eq_ofNat_of_zero_le h0
  exact bappT k 2 base sv xs w hr hb hm (by omega) (by decide) (by decide)
structure NtS (n : Nt) : Prop where
  ok : OkN n
  nm : n.nm.size ≤ 20
  tl : n.tg.length ≤ 4
  tg : ∀ t ∈ n.tg, t.size ≤ 20
  sl : n.sh.length ≤ 8
theorem ntL_len {n : Nt} (h : NtS n) : (ntL n).length ≤ 200 := by
  unfold ntL
  have h1 := fm_len nmL 21 n.tg (fun t ht => by have := h.tg t ht; rw [nmL_len]; omega)
  have h2 := fm_len (fun z => iL z 2) 2 n.sh (fun t _ => by rw [iL_len]; exact Nat.le_refl _)
  have h3 := h.nm
  have h4 := h.tl
  have h5 := h.sl
  simp only [List.length_append, List.length_cons, iL_len, nmL_len]
  have h6 : 21 * n.tg.length ≤ 84 := by omega
  omega
theorem may_sz {x : ByteArray} (h : mayN x = true) : x.size ≤ 20 := (name_iff.1 (show nameB x.data.toList = true from h)).2.1
theorem tgs_may : ∀ (l p : List ByteArray), tagsFrom p l = true → ∀ t ∈ l, mayN t = true
  | [], _, _ => fun t ht => by simp at ht
  | x :: l, p, h => by
    unfold tagsFrom at h
    rw [Bool.and_eq_true, Bool.and_eq_true] at h
    intro t ht
    rcases List.mem_cons.1 ht with rfl | ht
    · exact h.1
    · exact tgs_may l [x] h.2.2 t ht
theorem MayF.nts {s : Sf} (h : MayF s) {n : Nt} (hn : n ∈ s.ts) : NtS n := by
  obtain ⟨m1, m2, m3, m4⟩ := mayNt_iff.1 (h.ts n hn).2.2
  unfold mayTg at m4
  rw [Bool.and_eq_true, decide_eq_true_eq] at m4
  exact ⟨h.ok.ts n hn, may_sz m1, m4.1, fun t ht => may_sz (tgs_may _ _ m4.2 t ht), ((sh_iff _ _ _).1 h.sh).1 n hn⟩
theorem lnoteT (n : Nt) (At As : Option Addr) (ct cs : Nat) (base : Nat) (sv : Value) (xs : List Nat) (w : World) (hr : ByR w base sv xs) (hb : base ≤ w.heap.size) (hm : xs.length ≤ 20000) (hn : NtS n) (hA : Sl w base At (n.tg.map strV)) (hZ : Sl w base As (n.sh.map (Value.int .i64))) :
    Calls Tryd.prog 27 #[sv, .agg #[.int .i64 n.id, .int .i64 n.bk, .string n.nm, .slice At n.tg.length ct, .slice As n.sh.length cs]] w fun e' w' => ∃ v', e' = .returned v' ∧ ByT base w w' v' (xs ++ (ntL n)) := by
  obtain ⟨i0, hi, hz0, hz1, hz2⟩ := info_parts infoByte
  have B1 : Blk (w.alloc (.cells #[.int .i64 n.id, .int .i64 n.bk, .string n.nm, .slice At n.tg.length ct, .slice As n.sh.length cs] 52)) w.heap.size 52 #[.int .i64 n.id, .int .i64 n.bk, .string n.nm, .slice At n.tg.length ct, .slice As n.sh.length cs] := Blk.new_ w 52 #[.int .i64 n.id, .int .i64 n.bk, .string n.nm, .slice At n.tg.length ct, .slice As n.sh.length cs]
  have HT : ByT base w (w.alloc (.cells #[.int .i64 n.id, .int .i64 n.bk, .string n.nm, .slice At n.tg.length ct, .slice As n.sh.length cs] 52)) sv xs := (ByT.start hr).alloc hb _
  obtain ⟨X0, hX0⟩ : ∃ X, xs = X := ⟨_, rfl⟩
  rw [hX0] at HT hm
  have lX0 : X0.length ≤ 20000 := hm
  have HX0 := Lib.hid hX0
  obtain ⟨W, hW⟩ : ∃ V : World, V = (w.alloc (.cells #[.int .i64 n.id, .int .i64 n.bk, .string n.nm, .slice At n.tg.length ct, .slice As n.sh.length cs] 52)) := ⟨_, rfl⟩
  have b0 := hn.ok.a
  have b1 := hn.ok.b
  have b2 := hn.nm
  have b3 := hn.tl
  have b4 := hn.sl
  have HNS := Lib.hid hn
  obtain ⟨L, hL⟩ : ∃ L, n.tg.length = L := ⟨_, rfl⟩
  obtain ⟨M, hM⟩ : ∃ M, n.sh.length = M := ⟨_, rfl⟩
  rw [hL] at b3 hW B1 ⊢
  rw [hM] at b4 hW B1 ⊢
  have HL := Lib.hid hL
  have HM := Lib.hid hM
  rw [show w.alloc (.cells #[.int .i64 n.id, .int .i64 n.bk, .string n.nm, .slice At n.tg.length ct, .slice As n.sh.length cs] 52) = W by rw [hW, HL.out, HM.out]] at HT
  have hwl : IntKind.u8.wrap (L : Int) = (L : Int) := by rw [IntKind.wrap_u8]; omega
  have hwm : IntKind.u8.wrap (M : Int) = (M : Int) := by rw [IntKind.wrap_u8]; omega
  clear hX0 hm hr hn hL hM
  go_enter Tryd.func27, Tryd.ntmps27
  go_upto_region 1 with fail
  rw [← hW] at B1 ⊢
  clear hW
  have k0 := B1.cell_ 0
  have k1 := B1.cell_ 1
  have k2 := B1.cell_ 2
  have k3 := B1.cell_ 3
  have k4 := B1.cell_ 4
  simp at k0 k1 k2 k3 k4
  go_upto_region 4 with (first | (go_at_call 25; ((with_reducible refine (bapp3 n.id base _ X0 _ HT.row (Nat.le_trans hb HT.be.size) (by omega) b0.1 (by omega)).mono ?_); rintro e' w1 ⟨v1, rfl, HN⟩; have HT := HT.step HN; have B1 := B1.keepU HN.kp (by decide); obtain ⟨X1, hX1⟩ : ∃ X, X0 ++ (iL n.id 3) = X := ⟨_, rfl⟩; rw [hX1] at HT; have lX1 : X1.length ≤ 20003 := (by rw [← hX1, List.length_append, iL_len]; omega); have HX1 := Lib.hid hX1; clear hX1 HN; (clear k0 k1 k2 k3 k4); have k0 := B1.cell_ 0; have k1 := B1.cell_ 1; have k2 := B1.cell_ 2; have k3 := B1.cell_ 3; have k4 := B1.cell_ 4; simp at k0 k1 k2 k3 k4)) | (go_at_call 25; ((with_reducible refine (bapp3 n.bk base _ X1 _ HT.row (Nat.le_trans hb HT.be.size) (by omega) b1.1 (by omega)).mono ?_); rintro e' w2 ⟨v1, rfl, HN⟩; have HT := HT.step HN; have B1 := B1.keepU HN.kp (by decide); obtain ⟨X2, hX2⟩ : ∃ X, X1 ++ (iL n.bk 3) = X := ⟨_, rfl⟩; rw [hX2] at HT; have lX2 : X2.length ≤ 20006 := (by rw [← hX2, List.length_append, iL_len]; omega); have HX2 := Lib.hid hX2; clear hX2 HN; (clear k0 k1 k2 k3 k4); have k0 := B1.cell_ 0; have k1 := B1.cell_ 1; have k2 := B1.cell_ 2; have k3 := B1.cell_ 3; have k4 := B1.cell_ 4; simp at k0 k1 k2 k3 k4)) | (go_at_call 26; ((with_reducible refine (lnameT n.nm base _ X2 _ HT.row (Nat.le_trans hb HT.be.size) (by omega) (by omega)).mono ?_); rintro e' w3 ⟨v1, rfl, HN⟩; have HT := HT.step HN; have B1 := B1.keepU HN.kp (by decide); obtain ⟨X3, hX3⟩ : ∃ X, X2 ++ (nmL n.nm) = X := ⟨_, rfl⟩; rw [hX3] at HT; have lX3 : X3.length ≤ 20027 := (by rw [← hX3, List.length_append, nmL_len]; omega); have HX3 := Lib.hid hX3; clear hX3 HN; (clear k0 k1 k2 k3 k4); have k0 := B1.cell_ 0; have k1 := B1.cell_ 1; have k2 := B1.cell_ 2; have k3 := B1.cell_ 3; have k4 := B1.cell_ 4; simp at k0 k1 k2 k3 k4)))
  go_upto_region 5 with (at_builtin; refine wpList_app _ rfl (.tmp 21) (.tmp 26) _ rfl base 5 i0 _ 1 1 Tryd.underlying28 hi hz0 hz1 hz2 rfl (by decide) _ _ _ rfl (World.ownsRow.alloc HT.row _) _ 1 _ [byteV L] rfl (Rd.one (by simp [byteV])) (by simp [byteV, Value.oneCell']) (by unfold maxLen; omega) (by omega) (by have := HT.be.size; simp; omega) ?_; intro v4 w4 ho2 hg2 hv2)
  have HN : ByT base w3 w4 v4 (X3 ++ [L]) := ⟨ByR.put ho2 rfl rfl, ((Below.refl base w3).alloc (Nat.le_trans hb HT.be.size) _).trans (below_app (Nat.le_refl _) (by have := HT.be.size; simp; omega) (World.ownsRow.alloc HT.row _) hg2), (KeepU.alloc_ _ _).trans (KeepU.of_grown (World.ownsRow.alloc HT.row _) hg2)⟩
  clear ho2 hg2 hv2
  have HT := HT.step HN; have B1 := B1.keepU HN.kp (by decide); obtain ⟨X4, hX4⟩ : ∃ X, X3 ++ ([L]) = X := ⟨_, rfl⟩; rw [hX4] at HT; have lX4 : X4.length ≤ 20028 := (by rw [← hX4, List.length_append, List.length_singleton]; omega); have HX4 := Lib.hid hX4; clear hX4 HN
  (clear k0 k1 k2 k3 k4); have k0 := B1.cell_ 0; have k1 := B1.cell_ 1; have k2 := B1.cell_ 2; have k3 := B1.cell_ 3; have k4 := B1.cell_ 4; simp at k0 k1 k2 k3 k4
  obtain ⟨w5, hw5⟩ : ∃ V : World, V = w4 := ⟨_, rfl⟩
  subst hw5
  go_wp2_with fail
  go_loopw [0, 31] (fun s i wr => ∃ k : Nat, k ≤ L ∧ i = .int .i64 (k : Int) ∧ ByT base w5 wr s (X4 ++ (n.tg.take k).flatMap nmL)) (fun _ i _ => L - (intOf i).toNat)
  case atStart => exact ⟨0, Nat.zero_le _, rfl, by simpa using ByT.start HT.row⟩
  case round =>
    obtain ⟨k, hk, rfl, HR⟩ := hrel
    have B1r := B1.keepU HR.kp (by decide)
    have hbr : base ≤ wr.heap.size := Nat.le_trans (Nat.le_trans hb HT.be.size) HR.be.size
    clear k0 k1 k2 k3 k4
    have lR : (X4 ++ (n.tg.take k).flatMap nmL).length ≤ 20150 := by
      have h1 := fm_len nmL 21 (n.tg.take k) (fun x hx => by have := HNS.out.tg x (List.mem_of_mem_take hx); rw [nmL_len]; omega)
      rw [List.length_append]
      rw [List.length_take] at h1
      have h2 : 21 * min k n.tg.length ≤ 21 * L := Nat.mul_le_mul_left _ (by omega)
      omega
    by_cases hlt : k < L
    · have hkx : k < n.tg.length := by have := HL.out; omega
      obtain ⟨x, hx⟩ : ∃ x, n.tg[k]? = some x := ⟨_, List.getElem?_eq_getElem hkx⟩
      obtain ⟨b9, o9, rfl, l9, q9⟩ := hA.at_ (by rw [List.length_map]; omega)
      have y9 : wr.cell? ⟨b9, o9 + k, none⟩ = some (.string x) := ((HT.be.trans HR.be).cell (p := ⟨b9, o9 + k, none⟩) l9).trans (q9 k _ (by rw [List.getElem?_map, hx]; rfl))
      have hft := fm_take nmL hx
      have hxs : x.size ≤ 20 := HNS.out.tg x (List.mem_of_getElem? hx)
      have HFT := Lib.hid hft
      have j0 : (0 : Int) ≤ (k : Int) := by omega
      have j1 : (k : Int) < (L : Int) := by omega
      clear hft hx q9 hkx
      obtain ⟨XX, hXX⟩ : ∃ X, X4 ++ (n.tg.take k).flatMap nmL = X := ⟨_, rfl⟩
      rw [hXX] at HR lR
      have HXX := Lib.hid hXX
      clear hXX
      go_wp2_with (go_at_call 26; ((with_reducible refine (lnameT x base _ XX _ HR.row hbr (by omega) (by omega)).mono ?_); rintro e' w6 ⟨v1, rfl, HN⟩; skip))
      go_roundw
      case rel => exact ⟨k + 1, by omega, by go_num, by rw [HFT.out, ← List.append_assoc, HXX.out]; exact HR.step HN⟩
      case measure => simp [intOf]; omega
    · obtain rfl : L = k := by omega
      rw [List.take_of_length_le (by have := HL.out; omega)] at HR lR
      clear hlt
      have k4 := B1r.cell_ 4
      simp at k4
      have HTn := HT.step HR
      have B1 := B1r
      have HT := HTn
      obtain ⟨X5, hX5⟩ : ∃ X, X4 ++ n.tg.flatMap nmL = X := ⟨_, rfl⟩
      rw [hX5] at HT lR
      have lX5 := lR
      have HX5 := Lib.hid hX5
      clear hX5 HTn B1r HR lR hbr
      go_upto_region 11 with (at_builtin; refine wpList_app _ rfl (.tmp 39) (.tmp 44) _ rfl base 5 i0 _ 1 1 Tryd.underlying28 hi hz0 hz1 hz2 rfl (by decide) _ _ _ rfl (World.ownsRow.alloc HT.row _) _ 1 _ [byteV M] rfl (Rd.one (by simp [byteV])) (by simp [byteV, Value.oneCell']) (by unfold maxLen; omega) (by omega) (by have := HT.be.size; simp; omega) ?_; intro v7 w7 ho2 hg2 hv2)
      have HN : ByT base wr w7 v7 (X5 ++ [M]) := ⟨ByR.put ho2 rfl rfl, ((Below.refl base wr).alloc (Nat.le_trans hb HT.be.size) _).trans (below_app (Nat.le_refl _) (by have := HT.be.size; simp; omega) (World.ownsRow.alloc HT.row _) hg2), (KeepU.alloc_ _ _).trans (KeepU.of_grown (World.ownsRow.alloc HT.row _) hg2)⟩
      clear ho2 hg2 hv2
      have HT := HT.step HN; have B1 := B1.keepU HN.kp (by decide); obtain ⟨X6, hX6⟩ : ∃ X, X5 ++ ([M]) = X := ⟨_, rfl⟩; rw [hX6] at HT; have lX6 : X6.length ≤ 20200 := (by rw [← hX6, List.length_append, List.length_singleton]; omega); have HX6 := Lib.hid hX6; clear hX6 HN
      clear k4
      have k4 := B1.cell_ 4
      simp at k4
      obtain ⟨w5, hw5⟩ : ∃ V : World, V = w7 := ⟨_, rfl⟩
      subst hw5
      go_wp2_with fail
      go_loopw [0, 49] (fun s i wr => ∃ k : Nat, k ≤ M ∧ i = .int .i64 (k : Int) ∧ ByT base w5 wr s (X6 ++ (n.sh.take k).flatMap (fun z => iL z 2))) (fun _ i _ => M - (intOf i).toNat)
      case atStart => exact ⟨0, Nat.zero_le _, rfl, by simpa using ByT.start HT.row⟩
      case round =>
        obtain ⟨k, hk, rfl, HR⟩ := hrel
        have B1r := B1.keepU HR.kp (by decide)
        have hbr : base ≤ wr.heap.size := Nat.le_trans (Nat.le_trans hb HT.be.size) HR.be.size
        clear k4
        have lR : (X6 ++ (n.sh.take k).flatMap (fun z => iL z 2)).length ≤ 20300 := by
          have h1 := fm_len (fun z => iL z 2) 2 (n.sh.take k) (fun x hx => by rw [iL_len]; exact Nat.le_refl _)
          rw [List.length_append]
          rw [List.length_take] at h1
          have h2 : 2 * min k n.sh.length ≤ 2 * M := Nat.mul_le_mul_left _ (by omega)
          omega
        by_cases hlt : k < M
        · have hkx : k < n.sh.length := by have := HM.out; omega
          obtain ⟨x, hx⟩ : ∃ x, n.sh[k]? = some x := ⟨_, List.getElem?_eq_getElem hkx⟩
          obtain ⟨b9, o9, rfl, l9, q9⟩ := hZ.at_ (by rw [List.length_map]; omega)
          have y9 : wr.cell? ⟨b9, o9 + k, none⟩ = some (.int .i64 x) := ((HT.be.trans HR.be).cell (p := ⟨b9, o9 + k, none⟩) l9).trans (q9 k _ (by rw [List.getElem?_map, hx]; rfl))
          have hft := fm_take (fun z => iL z 2) hx
          have hxs : 0 ≤ x ∧ x < 65536 := HNS.out.ok.c x (List.mem_of_getElem? hx)
          have HFT := Lib.hid hft
          have j0 : (0 : Int) ≤ (k : Int) := by omega
          have j1 : (k : Int) < (M : Int) := by omega
          clear hft hx q9 hkx
          obtain ⟨XX, hXX⟩ : ∃ X, X6 ++ (n.sh.take k).flatMap (fun z => iL z 2) = X := ⟨_, rfl⟩
          rw [hXX] at HR lR
          have HXX := Lib.hid hXX
          clear hXX
          go_wp2_with (go_at_call 25; ((with_reducible refine (bapp2 x base _ XX _ HR.row hbr (by omega) hxs.1 (by omega)).mono ?_); rintro e' w8 ⟨v1, rfl, HN⟩; skip))
          go_roundw
          case rel => exact ⟨k + 1, by omega, by go_num, by rw [HFT.out, ← List.append_assoc, HXX.out]; exact HR.step HN⟩
          case measure => simp [intOf]; omega
        · obtain rfl : M = k := by omega
          rw [List.take_of_length_le (by have := HM.out; omega)] at HR lR
          clear hlt
          have HTn := HT.step HR
          obtain ⟨X7, hX7⟩ : ∃ X, X6 ++ n.sh.flatMap (fun z => iL z 2) = X := ⟨_, rfl⟩
          rw [hX7] at HTn
          go_wp2_with fail
          go_ret
          refine ⟨_, rfl, ?_⟩
          have e : xs ++ ntL n = X7 := by
            unfold ntL
            rw [← hX7, ← HX6.out, ← HX5.out, ← HX4.out, ← HX3.out, ← HX2.out, ← HX1.out, ← HX0.out, HL.out, HM.out]
            simp [List.append_assoc]
          rw [e]
          exact HTn
theorem lay_no (s : Sf) (v : Value) (w : World) (hS : ShR w w.heap.size v s) (hT : Tabs w) (hM : mayS s = false) :
    Calls Tryd.prog 10 #[v] w fun e' w' => e' = .returned (.tuple #[.slice none 0 0, .int .i64 2]) ∧ Below w.heap.size w w' := by
  have hS0 := hS
  obtain ⟨Ab, cb, An, cn, rfl, hB, hN, hcb, hmb, hcn, hmn⟩ := hS.ex
  clear hS
  have HB : Below w.heap.size w (w.alloc (.cells #[.int .i64 s.nb, .int .i64 s.nn, .int .i64 s.ns, .slice Ab s.bs.length cb, .slice An s.ts.length cn] 25)) := ((Below.refl w.heap.size w).alloc (Nat.le_refl _) _)
  have B1 : Blk (w.alloc (.cells #[.int .i64 s.nb, .int .i64 s.nn, .int .i64 s.ns, .slice Ab s.bs.length cb, .slice An s.ts.length cn] 25)) w.heap.size 25 #[.int .i64 s.nb, .int .i64 s.nn, .int .i64 s.ns, .slice Ab s.bs.length cb, .slice An s.ts.length cn] := Blk.new_ w 25 #[.int .i64 s.nb, .int .i64 s.nn, .int .i64 s.ns, .slice Ab s.bs.length cb, .slice An s.ts.length cn]
  have S1 : ShR (w.alloc (.cells #[.int .i64 s.nb, .int .i64 s.nn, .int .i64 s.ns, .slice Ab s.bs.length cb, .slice An s.ts.length cn] 25)) ((w.alloc (.cells #[.int .i64 s.nb, .int .i64 s.nn, .int .i64 s.ns, .slice Ab s.bs.length cb, .slice An s.ts.length cn] 25))).heap.size (.agg #[.int .i64 s.nb, .int .i64 s.nn, .int .i64 s.ns, .slice Ab s.bs.length cb, .slice An s.ts.length cn]) s := hS0.next HB
  have T1 := hT.next HB
  have HM := Lib.hid hM
  clear hM hS0 hT hB hN hcb hmb hcn hmn
  go_enter Tryd.func10, Tryd.ntmps10
  go_wp2_with (first | (go_at_call 23; ((with_reducible refine (smay_any s _ _ S1 T1 _ HM.out).mono ?_); rintro e' w3 ⟨rfl, bx⟩; have B1 := B1.below bx B1.lt; have HB := btr HB HB.size bx; (try clear k0 k1 k2 k3 k4); have k0 := B1.cell_ 0; have k1 := B1.cell_ 1; have k2 := B1.cell_ 2; have k3 := B1.cell_ 3; have k4 := B1.cell_ 4; simp at k0 k1 k2 k3 k4; clear bx)))
  go_ret2
  exact ⟨rfl, HB⟩
theorem lay_yes (s : Sf) (v : Value) (w : World) (hS : ShR w w.heap.size v s) (hT : Tabs w) (hF : MayF s) :
    Calls Tryd.prog 10 #[v] w fun e' w' => ∃ v', e' = .returned (.tuple #[v', .int .i64 0]) ∧ ByR w' w.heap.size v' (shL s) ∧ Below w.heap.size w w' := by
  have hS0 := hS
  obtain ⟨Ab, cb, An, cn, rfl, hB, hN, hcb, hmb, hcn, hmn⟩ := hS.ex
  clear hS
  have HB : Below w.heap.size w (w.alloc (.cells #[.int .i64 s.nb, .int .i64 s.nn, .int .i64 s.ns, .slice Ab s.bs.length cb, .slice An s.ts.length cn] 25)) := ((Below.refl w.heap.size w).alloc (Nat.le_refl _) _)
  have B1 : Blk (w.alloc (.cells #[.int .i64 s.nb, .int .i64 s.nn, .int .i64 s.ns, .slice Ab s.bs.length cb, .slice An s.ts.length cn] 25)) w.heap.size 25 #[.int .i64 s.nb, .int .i64 s.nn, .int .i64 s.ns, .slice Ab s.bs.length cb, .slice An s.ts.length cn] := Blk.new_ w 25 #[.int .i64 s.nb, .int .i64 s.nn, .int .i64 s.ns, .slice Ab s.bs.length cb, .slice An s.ts.length cn]
  have S1 : ShR (w.alloc (.cells #[.int .i64 s.nb, .int .i64 s.nn, .int .i64 s.ns, .slice Ab s.bs.length cb, .slice An s.ts.length cn] 25)) ((w.alloc (.cells #[.int .i64 s.nb, .int .i64 s.nn, .int .i64 s.ns, .slice Ab s.bs.length cb, .slice An s.ts.length cn] 25))).heap.size (.agg #[.int .i64 s.nb, .int .i64 s.nn, .int .i64 s.ns, .slice Ab s.bs.length cb, .slice An s.ts.length cn]) s := hS0.next HB
  have T1 := hT.next HB
  have HM : Hid (mayS s = true) := Lib.hid (mayS_conv hF)
  have HF := Lib.hid hF
  obtain ⟨i0, hi, hz0, hz1, hz2⟩ := info_parts infoByte
  obtain ⟨es, hel, hse, hnt⟩ := hN.ex
  obtain ⟨L, hL⟩ : ∃ L, s.bs.length = L := ⟨_, rfl⟩
  obtain ⟨M, hM⟩ : ∃ M, s.ts.length = M := ⟨_, rfl⟩
  have HL := Lib.hid hL
  have HMM := Lib.hid hM
  have hL6 : L ≤ 6 := by rw [← hL]; exact hF.bl
  have hM12 : M ≤ 12 := by rw [← hM]; exact hF.tl
  have c0 := hF.nb
  have c1 := hF.nn
  have c2 := hF.ns
  have hwl : IntKind.u8.wrap (L : Int) = (L : Int) := by rw [IntKind.wrap_u8]; omega
  have hwm : IntKind.u8.wrap (M : Int) = (M : Int) := by rw [IntKind.wrap_u8]; omega
  clear hL hM hS0 hT hcb hmb hcn hmn hF hN
  go_enter Tryd.func10, Tryd.ntmps10
  go_upto_region 3 with (go_at_call 23; ((with_reducible refine (smay_any s _ _ S1 T1 _ HM.out).mono ?_); rintro e' w3 ⟨rfl, bx⟩; have B1 := B1.below bx B1.lt; have HB := btr HB HB.size bx; (try clear k0 k1 k2 k3 k4); have k0 := B1.cell_ 0; have k1 := B1.cell_ 1; have k2 := B1.cell_ 2; have k3 := B1.cell_ 3; have k4 := B1.cell_ 4; simp at k0 k1 k2 k3 k4; clear bx))
  have HT : ByT w.heap.size w3 w3 (.slice none 0 0) [] := ByT.start (ByR.nil _ _)
  have hb3 : w.heap.size ≤ w3.heap.size := HB.size
  have HB3 := HB
  obtain ⟨X0, hX0⟩ : ∃ X : List Nat, [] = X := ⟨_, rfl⟩
  rw [hX0] at HT
  have lX0 : X0.length ≤ 0 := by rw [← hX0]; exact Nat.le_refl _
  have HX0 := Lib.hid hX0
  rw [HL.out] at B1 k3
  rw [HMM.out] at B1 k4
  clear hX0 HB S1 T1
  go_upto_region 6 with (first | (go_at_call 25; ((with_reducible refine (bapp3 s.nb w.heap.size _ X0 _ HT.row (Nat.le_trans hb3 HT.be.size) (by omega) (by omega) (by omega)).mono ?_); rintro e' w4 ⟨v1, rfl, HN⟩; have HT := HT.step HN; have B1 := B1.keepU HN.kp (by decide); obtain ⟨X1, hX1⟩ : ∃ X, X0 ++ (iL s.nb 3) = X := ⟨_, rfl⟩; rw [hX1] at HT; have lX1 : X1.length ≤ 3 := (by rw [← hX1, List.length_append, iL_len]; omega); have HX1 := Lib.hid hX1; clear hX1 HN; (clear k0 k1 k2 k3 k4); have k0 := B1.cell_ 0; have k1 := B1.cell_ 1; have k2 := B1.cell_ 2; have k3 := B1.cell_ 3; have k4 := B1.cell_ 4; simp at k0 k1 k2 k3 k4)) | (go_at_call 25; ((with_reducible refine (bapp3 s.nn w.heap.size _ X1 _ HT.row (Nat.le_trans hb3 HT.be.size) (by omega) (by omega) (by omega)).mono ?_); rintro e' w5 ⟨v1, rfl, HN⟩; have HT := HT.step HN; have B1 := B1.keepU HN.kp (by decide); obtain ⟨X2, hX2⟩ : ∃ X, X1 ++ (iL s.nn 3) = X := ⟨_, rfl⟩; rw [hX2] at HT; have lX2 : X2.length ≤ 6 := (by rw [← hX2, List.length_append, iL_len]; omega); have HX2 := Lib.hid hX2; clear hX2 HN; (clear k0 k1 k2 k3 k4); have k0 := B1.cell_ 0; have k1 := B1.cell_ 1; have k2 := B1.cell_ 2; have k3 := B1.cell_ 3; have k4 := B1.cell_ 4; simp at k0 k1 k2 k3 k4)) | (go_at_call 25; ((with_reducible refine (bapp3 s.ns w.heap.size _ X2 _ HT.row (Nat.le_trans hb3 HT.be.size) (by omega) (by omega) (by omega)).mono ?_); rintro e' w6 ⟨v1, rfl, HN⟩; have HT := HT.step HN; have B1 := B1.keepU HN.kp (by decide); obtain ⟨X3, hX3⟩ : ∃ X, X2 ++ (iL s.ns 3) = X := ⟨_, rfl⟩; rw [hX3] at HT; have lX3 : X3.length ≤ 9 := (by rw [← hX3, List.length_append, iL_len]; omega); have HX3 := Lib.hid hX3; clear hX3 HN; (clear k0 k1 k2 k3 k4); have k0 := B1.cell_ 0; have k1 := B1.cell_ 1; have k2 := B1.cell_ 2; have k3 := B1.cell_ 3; have k4 := B1.cell_ 4; simp at k0 k1 k2 k3 k4)))
  go_upto_region 7 with (at_builtin; refine wpList_app _ rfl (.tmp 23) (.tmp 28) _ rfl w.heap.size 5 i0 _ 1 1 Tryd.underlying28 hi hz0 hz1 hz2 rfl (by decide) _ _ _ rfl (World.ownsRow.alloc HT.row _) _ 1 _ [byteV L] rfl (Rd.one (by simp [byteV])) (by simp [byteV, Value.oneCell']) (by unfold maxLen; omega) (by omega) (by have := HT.be.size; simp; omega) ?_; intro v7 w7 ho2 hg2 hv2)
  have HN : ByT w.heap.size w6 w7 v7 (X3 ++ [L]) := ⟨ByR.put ho2 rfl rfl, ((Below.refl w.heap.size w6).alloc (Nat.le_trans hb3 HT.be.size) _).trans (below_app (Nat.le_refl _) (by have := HT.be.size; simp; omega) (World.ownsRow.alloc HT.row _) hg2), (KeepU.alloc_ _ _).trans (KeepU.of_grown (World.ownsRow.alloc HT.row _) hg2)⟩
  clear ho2 hg2 hv2
  have HT := HT.step HN; have B1 := B1.keepU HN.kp (by decide); obtain ⟨X4, hX4⟩ : ∃ X, X3 ++ ([L]) = X := ⟨_, rfl⟩; rw [hX4] at HT; have lX4 : X4.length ≤ 10 := (by rw [← hX4, List.length_append, List.length_singleton]; omega); have HX4 := Lib.hid hX4; clear hX4 HN
  (clear k0 k1 k2 k3 k4); have k0 := B1.cell_ 0; have k1 := B1.cell_ 1; have k2 := B1.cell_ 2; have k3 := B1.cell_ 3; have k4 := B1.cell_ 4; simp at k0 k1 k2 k3 k4
  obtain ⟨wk, hwk⟩ : ∃ V : World, V = w7 := ⟨_, rfl⟩
  subst hwk
  go_wp2_with fail
  go_loopw [4, 33] (fun sv iv wr => ∃ k : Nat, k ≤ L ∧ iv = .int .i64 (k : Int) ∧ ByT w.heap.size wk wr sv (X4 ++ (s.bs.take k).flatMap bkL)) (fun _ iv _ => L - (intOf iv).toNat)
  case atStart => exact ⟨0, Nat.zero_le _, rfl, by simpa using ByT.start HT.row⟩
  case round =>
    obtain ⟨k, hk, rfl, HR⟩ := hrel
    have B1r := B1.keepU HR.kp (by decide)
    have hbr : w.heap.size ≤ wr.heap.size := Nat.le_trans (Nat.le_trans hb3 HT.be.size) HR.be.size
    have hbw : Below w.heap.size w wr := (HB3.trans HT.be).trans HR.be
    clear k0 k1 k2 k3 k4
    have lR : (X4 ++ (s.bs.take k).flatMap bkL).length ≤ 200 := by
      have h1 := fm_len bkL 24 (s.bs.take k) (fun x hx => by have := may_sz (HF.out.bs x (List.mem_of_mem_take hx)).2.2.1; rw [bkL_len]; omega)
      rw [List.length_append]
      rw [List.length_take] at h1
      have h2 : 24 * min k s.bs.length ≤ 24 * L := Nat.mul_le_mul_left _ (by omega)
      omega
    by_cases hlt : k < L
    · have hkx : k < s.bs.length := by have := HL.out; omega
      obtain ⟨x, hx⟩ : ∃ x, s.bs[k]? = some x := ⟨_, List.getElem?_eq_getElem hkx⟩
      have he : (s.bs.map bkC)[k]? = some (bkC x) := by rw [List.getElem?_map, hx]; rfl
      obtain ⟨b9, o9, rfl, l9, q9⟩ := SlE.at_ hB (by rw [List.length_map]; omega)
      have y0 : wr.cell? ⟨b9, o9 + k * 2, none⟩ = some (.int .i64 x.id) := (hbw.cell (p := ⟨b9, _, none⟩) l9).trans (q9 k _ he 0 _ rfl)
      have y1 : wr.cell? ⟨b9, o9 + k * 2 + 1, none⟩ = some (.string x.nm) := (hbw.cell (p := ⟨b9, _, none⟩) l9).trans (q9 k _ he 1 _ rfl)
      clear he
      have hxs : 0 ≤ x.id ∧ x.id < 16777216 := (HF.out.ok.bs x (List.mem_of_getElem? hx)).a
      have hxn : x.nm.size ≤ 20 := may_sz (HF.out.bs x (List.mem_of_getElem? hx)).2.2.1
      have hft := fm_take bkL hx
      have HFT := Lib.hid hft
      have j0 : (0 : Int) ≤ (k : Int) := by omega
      have j1 : (k : Int) < (L : Int) := by omega
      have HXM := Lib.hid (List.mem_of_getElem? hx)
      clear hft hx q9 hkx
      obtain ⟨XX, hXX⟩ : ∃ X, X4 ++ (s.bs.take k).flatMap bkL = X := ⟨_, rfl⟩
      rw [hXX] at HR lR
      have HXX := Lib.hid hXX
      clear hXX
      go_upto_region 10 with fail
      have B6 : Blk (wr.alloc (.cells #[.int .i64 x.id, .string x.nm] 48)) wr.heap.size 48 #[.int .i64 x.id, .string x.nm] := Blk.new_ wr 48 #[.int .i64 x.id, .string x.nm]
      have HU := HR.alloc (Nat.le_trans hb3 HT.be.size) (.cells #[.int .i64 x.id, .string x.nm] 48)
      have hbu : w.heap.size ≤ (wr.alloc (.cells #[.int .i64 x.id, .string x.nm] 48)).heap.size := by simp; omega
      obtain ⟨wu, hwu⟩ : ∃ V : World, V = wr.alloc (.cells #[.int .i64 x.id, .string x.nm] 48) := ⟨_, rfl⟩
      obtain ⟨g6, hg6⟩ : ∃ g, wr.heap.size = g := ⟨_, rfl⟩
      change Code.wp _ _ _ _ (wr.alloc (.cells #[.int .i64 x.id, .string x.nm] 48))
      rw [hg6] at B6 ⊢
      rw [← hwu] at B6 HU hbu ⊢
      clear hwu hg6 y0 y1
      have u0 := B6.cell_ 0
      have u1 := B6.cell_ 1
      simp at u0 u1
      go_wp2_with (first | (go_at_call 25; ((with_reducible refine (bapp3 x.id w.heap.size _ XX _ HU.row hbu (by omega) hxs.1 (by omega)).mono ?_); rintro e' w8 ⟨v1, rfl, HN⟩; have HV := HU.step HN; have B6 := B6.keepU HN.kp (by decide); have hbv := Nat.le_trans hbu HN.be.size; have lV : (XX ++ iL x.id 3).length ≤ 400 := (by rw [List.length_append, iL_len]; omega); (clear u0 u1); have u0 := B6.cell_ 0; have u1 := B6.cell_ 1; simp at u0 u1; clear HN)) | (go_at_call 26; ((with_reducible refine (lnameT x.nm w.heap.size _ (XX ++ iL x.id 3) _ HV.row hbv (by omega) (by omega)).mono ?_); rintro e' w9 ⟨v1, rfl, HN⟩; skip)))
      go_roundw
      case rel => exact ⟨k + 1, by omega, by go_num, by rw [HFT.out, ← List.append_assoc, HXX.out]; exact (by have h := HV.step HN; rw [List.append_assoc] at h; exact h)⟩
      case measure => simp [intOf]; omega
    · obtain rfl : L = k := by omega
      rw [List.take_of_length_le (by have := HL.out; omega)] at HR lR
      clear hlt
      have HTn := HT.step HR
      have B1 := B1r
      have HT := HTn
      obtain ⟨X5, hX5⟩ : ∃ X, X4 ++ s.bs.flatMap bkL = X := ⟨_, rfl⟩
      rw [hX5] at HT lR
      have lX5 := lR
      have HX5 := Lib.hid hX5
      have k4 := B1.cell_ 4
      simp at k4
      clear hX5 HTn B1r HR lR hbr hbw
      go_upto_region 14 with (at_builtin; refine wpList_app _ rfl (.tmp 46) (.tmp 51) _ rfl w.heap.size 5 i0 _ 1 1 Tryd.underlying28 hi hz0 hz1 hz2 rfl (by decide) _ _ _ rfl (World.ownsRow.alloc HT.row _) _ 1 _ [byteV M] rfl (Rd.one (by simp [byteV])) (by simp [byteV, Value.oneCell']) (by unfold maxLen; omega) (by omega) (by have := HT.be.size; simp; omega) ?_; intro v13 w13 ho2 hg2 hv2)
      have HN : ByT w.heap.size wr w13 v13 (X5 ++ [M]) := ⟨ByR.put ho2 rfl rfl, ((Below.refl w.heap.size wr).alloc (Nat.le_trans hb3 HT.be.size) _).trans (below_app (Nat.le_refl _) (by have := HT.be.size; simp; omega) (World.ownsRow.alloc HT.row _) hg2), (KeepU.alloc_ _ _).trans (KeepU.of_grown (World.ownsRow.alloc HT.row _) hg2)⟩
      clear ho2 hg2 hv2
      have HT := HT.step HN; have B1 := B1.keepU HN.kp (by decide); obtain ⟨X6, hX6⟩ : ∃ X, X5 ++ ([M]) = X := ⟨_, rfl⟩; rw [hX6] at HT; have lX6 : X6.length ≤ 300 := (by rw [← hX6, List.length_append, List.length_singleton]; omega); have HX6 := Lib.hid hX6; clear hX6 HN
      clear k4
      have k4 := B1.cell_ 4
      simp at k4
      obtain ⟨wm, hwm⟩ : ∃ V : World, V = w13 := ⟨_, rfl⟩
      subst hwm
      go_wp2_with fail
      go_loopw [4, 56] (fun sv iv wr => ∃ k : Nat, k ≤ M ∧ iv = .int .i64 (k : Int) ∧ ByT w.heap.size wm wr sv (X6 ++ (s.ts.take k).flatMap ntL)) (fun _ iv _ => M - (intOf iv).toNat)
      case atStart => exact ⟨0, Nat.zero_le _, rfl, by simpa using ByT.start HT.row⟩
      case round =>
        obtain ⟨k, hk, rfl, HR⟩ := hrel
        have B1r := B1.keepU HR.kp (by decide)
        have hbr : w.heap.size ≤ wr.heap.size := Nat.le_trans (Nat.le_trans hb3 HT.be.size) HR.be.size
        have hbw : Below w.heap.size w wr := (HB3.trans HT.be).trans HR.be
        clear k4
        have lR : (X6 ++ (s.ts.take k).flatMap ntL).length ≤ 3000 := by
          have h1 := fm_len ntL 200 (s.ts.take k) (fun x hx => ntL_len (HF.out.nts (List.mem_of_mem_take hx)))
          rw [List.length_append]
          rw [List.length_take] at h1
          have h2 : 200 * min k s.ts.length ≤ 200 * M := Nat.mul_le_mul_left _ (by omega)
          omega
        by_cases hlt : k < M
        · have hkx : k < s.ts.length := by have := HMM.out; omega
          obtain ⟨x, hx⟩ : ∃ x, s.ts[k]? = some x := ⟨_, List.getElem?_eq_getElem hkx⟩
          obtain ⟨e0, he⟩ : ∃ e, es[k]? = some e := ⟨_, List.getElem?_eq_getElem (by omega)⟩
          obtain ⟨At, ct, As, cs, rfl, hAt, hAs, -⟩ := (hnt k x e0 hx he).ex
          obtain ⟨b9, o9, rfl, l9, q9⟩ := hse.at_ (by omega)
          have y0 : wr.cell? ⟨b9, o9 + k * 5, none⟩ = some (.int .i64 x.id) := (hbw.cell (p := ⟨b9, _, none⟩) l9).trans (q9 k _ he 0 _ rfl)
          have y1 : wr.cell? ⟨b9, o9 + k * 5 + 1, none⟩ = some (.int .i64 x.bk) := (hbw.cell (p := ⟨b9, _, none⟩) l9).trans (q9 k _ he 1 _ rfl)
          have y2 : wr.cell? ⟨b9, o9 + k * 5 + 2, none⟩ = some (.string x.nm) := (hbw.cell (p := ⟨b9, _, none⟩) l9).trans (q9 k _ he 2 _ rfl)
          have y3 : wr.cell? ⟨b9, o9 + k * 5 + 3, none⟩ = some (.slice At x.tg.length ct) := (hbw.cell (p := ⟨b9, _, none⟩) l9).trans (q9 k _ he 3 _ rfl)
          have y4 : wr.cell? ⟨b9, o9 + k * 5 + 4, none⟩ = some (.slice As x.sh.length cs) := (hbw.cell (p := ⟨b9, _, none⟩) l9).trans (q9 k _ he 4 _ rfl)
          clear he
          have HXS := Lib.hid (HF.out.nts (List.mem_of_getElem? hx))
          have hAt2 : Sl wr w.heap.size At (x.tg.map strV) := hAt.below hbw
          have hAs2 : Sl wr w.heap.size As (x.sh.map (Value.int .i64)) := hAs.below hbw
          have hft := fm_take ntL hx
          have HFT := Lib.hid hft
          have j0 : (0 : Int) ≤ (k : Int) := by omega
          have j1 : (k : Int) < (M : Int) := by omega
          have HXM := Lib.hid (List.mem_of_getElem? hx)
          clear hft hx q9 hkx
          obtain ⟨XX, hXX⟩ : ∃ X, X6 ++ (s.ts.take k).flatMap ntL = X := ⟨_, rfl⟩
          rw [hXX] at HR lR
          have HXX := Lib.hid hXX
          clear hXX
          go_upto_region 17 with fail
          have B6 : Blk (wr.alloc (.cells #[.int .i64 x.id, .int .i64 x.bk, .string x.nm, .slice At x.tg.length ct, .slice As x.sh.length cs] 52)) wr.heap.size 52 #[.int .i64 x.id, .int .i64 x.bk, .string x.nm, .slice At x.tg.length ct, .slice As x.sh.length cs] := Blk.new_ wr 52 #[.int .i64 x.id, .int .i64 x.bk, .string x.nm, .slice At x.tg.length ct, .slice As x.sh.length cs]
          have HU := HR.alloc (Nat.le_trans hb3 HT.be.size) (.cells #[.int .i64 x.id, .int .i64 x.bk, .string x.nm, .slice At x.tg.length ct, .slice As x.sh.length cs] 52)
          have hbu : w.heap.size ≤ (wr.alloc (.cells #[.int .i64 x.id, .int .i64 x.bk, .string x.nm, .slice At x.tg.length ct, .slice As x.sh.length cs] 52)).heap.size := by simp; omega
          obtain ⟨wu, hwu⟩ : ∃ V : World, V = wr.alloc (.cells #[.int .i64 x.id, .int .i64 x.bk, .string x.nm, .slice At x.tg.length ct, .slice As x.sh.length cs] 52) := ⟨_, rfl⟩
          obtain ⟨g6, hg6⟩ : ∃ g, wr.heap.size = g := ⟨_, rfl⟩
          change Code.wp _ _ _ _ (wr.alloc (.cells #[.int .i64 x.id, .int .i64 x.bk, .string x.nm, .slice At x.tg.length ct, .slice As x.sh.length cs] 52))
          have hal0 : Below w.heap.size wr (wr.alloc (.cells #[.int .i64 x.id, .int .i64 x.bk, .string x.nm, .slice At x.tg.length ct, .slice As x.sh.length cs] 52)) := (Below.refl _ _).alloc hbr _
          rw [hg6] at B6 ⊢
          rw [← hwu] at B6 HU hbu hal0 ⊢
          clear hwu hg6 y0 y1 y2 y3 y4
          have hal := hal0
          have u0 := B6.cell_ 0
          have u1 := B6.cell_ 1
          have u2 := B6.cell_ 2
          have u3 := B6.cell_ 3
          have u4 := B6.cell_ 4
          simp at u0 u1 u2 u3 u4
          go_wp2_with (go_at_call 27; ((with_reducible refine (lnoteT x At As ct cs w.heap.size _ XX _ HU.row hbu (by omega) HXS.out (hAt2.below hal) (hAs2.below hal)).mono ?_); rintro e' w9 ⟨v1, rfl, HN⟩; skip))
          go_roundw
          case rel => exact ⟨k + 1, by omega, by go_num, by rw [HFT.out, ← List.append_assoc, HXX.out]; exact HU.step HN⟩
          case measure => simp [intOf]; omega
        · obtain rfl : M = k := by omega
          rw [List.take_of_length_le (by have := HMM.out; omega)] at HR lR
          clear hlt
          have HTn := HT.step HR
          obtain ⟨X7, hX7⟩ : ∃ X, X6 ++ s.ts.flatMap ntL = X := ⟨_, rfl⟩
          rw [hX7] at HTn
          go_wp2_with fail
          go_ret2
          refine ⟨_, rfl, ?_, hbw⟩
          have e : shL s = X7 := by
            unfold shL
            rw [← hX7, ← HX6.out, ← HX5.out, ← HX4.out, ← HX3.out, ← HX2.out, ← HX1.out, ← HX0.out, HL.out, HMM.out]
            simp [List.append_assoc]
          rw [e]
          exact HTn.row
theorem size_any (s : Sf) (v : Value) (w : World) (hS : ShR w w.heap.size v s) (hT : Tabs w) (N : Nat) (hN0 : (cond (mayS s) (shL s) []).length = N) :
    Calls Tryd.prog 14 #[v] w fun e' w' => e' = .returned (.int .i64 (N : Int)) ∧ Below w.heap.size w w' := by
  obtain ⟨M, hM⟩ : ∃ M, mayS s = M := ⟨_, rfl⟩
  rw [hM] at hN0
  have hS0 := hS
  obtain ⟨Ab, cb, An, cn, rfl, hB, hN, hcb, hmb, hcn, hmn⟩ := hS.ex
  clear hS
  have HB : Below w.heap.size w (w.alloc (.cells #[.int .i64 s.nb, .int .i64 s.nn, .int .i64 s.ns, .slice Ab s.bs.length cb, .slice An s.ts.length cn] 25)) := ((Below.refl w.heap.size w).alloc (Nat.le_refl _) _)
  have B1 : Blk (w.alloc (.cells #[.int .i64 s.nb, .int .i64 s.nn, .int .i64 s.ns, .slice Ab s.bs.length cb, .slice An s.ts.length cn] 25)) w.heap.size 25 #[.int .i64 s.nb, .int .i64 s.nn, .int .i64 s.ns, .slice Ab s.bs.length cb, .slice An s.ts.length cn] := Blk.new_ w 25 #[.int .i64 s.nb, .int .i64 s.nn, .int .i64 s.ns, .slice Ab s.bs.length cb, .slice An s.ts.length cn]
  have S1 : ShR (w.alloc (.cells #[.int .i64 s.nb, .int .i64 s.nn, .int .i64 s.ns, .slice Ab s.bs.length cb, .slice An s.ts.length cn] 25)) ((w.alloc (.cells #[.int .i64 s.nb, .int .i64 s.nn, .int .i64 s.ns, .slice Ab s.bs.length cb, .slice An s.ts.length cn] 25))).heap.size (.agg #[.int .i64 s.nb, .int .i64 s.nn, .int .i64 s.ns, .slice Ab s.bs.length cb, .slice An s.ts.length cn]) s := hS0.next HB
  have T1 := hT.next HB
  cases M
  · have HM := Lib.hid hM
    have hn : N = 0 := hN0.symm
    subst hn
    clear hM hN0 hS0 hT hB hN hcb hmb hcn hmn
    go_enter Tryd.func14, Tryd.ntmps14
    go_wp2_with (go_at_call 10; ((with_reducible refine (lay_no s _ _ S1 T1 HM.out).mono ?_); rintro e' w3 ⟨rfl, bx⟩; have HB := btr HB HB.size bx))
    go_ret
    exact ⟨rfl, HB⟩
  · have HF := Lib.hid (mayF_of hM)
    have HN := Lib.hid hN0
    clear hM hN0 hS0 hT hB hN hcb hmb hcn hmn
    go_enter Tryd.func14, Tryd.ntmps14
    go_wp2_with (go_at_call 10; ((with_reducible refine (lay_yes s _ _ S1 T1 HF.out).mono ?_); rintro e' w3 ⟨v1, rfl, hr, bx⟩; (obtain ⟨A, c, rfl, -, -⟩ := own_shape hr); rw [show (shL s).length = N from HN.out]; have HB := btr HB HB.size bx; clear hr))
    go_ret
    exact ⟨rfl, HB⟩
end Go.Proofs.YtllnfociddodcaaDoor
namespace Go.Proofs.YtllnfociddodcaaDoor
open Go.ChangeShapes Go.WideShapes Go.ChangeAt Go.RowKit
attribute [local go_sem ↓] Go.wp_at_zero Go.wp_at_succ
theorem ret_nat {a b : Nat} (h : a = b) : Ending.returned (.int .i64 (a : Int)) = Ending.returned (.int .i64 (b : Int)) := by rw [h]
theorem numB_bd {bs : List Nat} (h8 : Bytes8 bs) (hl : bs.length ≤ 4) (k : Nat) (hk : k ≤ bs.length) : numB (bs.take k) < 4294967296 := by
  have h := numB_lt (k := k) h8 hk
  have : 256 ^ k ≤ 256 ^ 4 := Nat.pow_le_pow_right (by omega) (by omega)
  omega
theorem orByte (a b : Nat) (ha : a < 4294967296) (hb : b < 256) : bits .or .i64 ((a : Int) * 256) (b : Int) = ((a * 256 + b : Nat) : Int) := by
  have e : (a : Int) * 256 = ((a * 256 : Nat) : Int) := by omega
  have h : a * 256 ||| b = a * 256 + b := by
    have := Nat.shiftLeft_add_eq_or_of_lt (i := 8) (b := b) (by omega) a
    simp only [Nat.shiftLeft_eq, Nat.reducePow] at this
    exact this.symm
  rw [e]
  show IntKind.i64.wrap ((BitVec.ofInt 64 ((a * 256 : Nat) : Int) ||| BitVec.ofInt 64 (b : Int)).toNat : Int) = _
  rw [BitVec.toNat_or, BitVec.ofInt_natCast, BitVec.ofInt_natCast, BitVec.toNat_ofNat, BitVec.toNat_ofNat, Nat.mod_eq_of_lt (by omega), Nat.mod_eq_of_lt (by omega), h]
  exact IntWalk.i64_in _ (by omega)
theorem number_any (bs : List Nat) (A : Option Addr) (c : Nat) (w : World) (h1 : Sl w w.heap.size A (bs.map byteV)) (h8 : Bytes8 bs) (n1 : bs.length ≤ 4) :
    Calls Tryd.prog 44 #[.slice A bs.length c] w fun e w' => e = .returned (.int .i64 (numB bs)) ∧ w = w' := by
  go_enter Tryd.func44, Tryd.ntmps44
  go_wp2
  go_loop [3, 8] (fun v i => ∃ k : Nat, k ≤ bs.length ∧ i = .int .i64 k ∧ v = .int .i64 (numB (bs.take k))) (fun _ i => bs.length - (intOf i).toNat)
  case atStart => exact ⟨0, Nat.zero_le _, rfl, rfl⟩
  case round =>
    obtain ⟨k, hk, rfl, rfl⟩ := hrel
    by_cases hlt : k < bs.length
    · obtain ⟨b1, o1, rfl, l1, q1⟩ := h1.at_ (by simpa using (by omega : 0 < bs.length))
      have hb := h8 bs[k] (List.getElem_mem hlt)
      have hr := numB_next hlt
      have hnb := numB_bd h8 n1 k hk
      obtain ⟨x, hx⟩ : ∃ x, bs[k] = x := ⟨_, rfl⟩
      rw [hx] at hb hr
      have x1 : w.cell? ⟨b1, o1 + k, none⟩ = some (.int .u8 (x : Int)) := by rw [← hx]; exact q1 k _ (by simp [hlt, byteV])
      obtain ⟨N, hN⟩ : ∃ N, numB (bs.take k) = N := ⟨_, rfl⟩
      rw [hN] at hnb hr ⊢
      have HR := Lib.hid hr
      have ho := orByte N x hnb hb
      have s1 : (0 : Int) ≤ (N : Int) := by omega
      have s2 : (N : Int) < 4294967296 := by omega
      have s3 : (x : Int) < 256 := by omega
      have i0 : (0 : Int) ≤ (k : Int) := by omega
      have i1 : (k : Int) < (bs.length : Int) := by omega
      clear q1 hx hN hr
      go_wp2
      go_round
      case rel =>
        exact ⟨k + 1, by omega, by go_num, by rw [HR.out]; exact congrArg (Value.int .i64) (by omega)⟩
      case measure => simp [intOf]; omega
    · go_wp2
      have hkk : k = bs.length := by omega
      subst hkk
      go_ret
      exact ⟨ret_nat (by rw [List.take_length]), rfl⟩
def withinT (x hi : Int) : Bool := decide (0 ≤ x) && decide (x ≤ hi)
def mayDataB (n : Int) : Bool := decide (24 ≤ n) && decide (n ≤ 64)
def tagB (k p s e : Int) : Bool := !decide (k < 1) && (!decide (3 < k) && (!((k == 3) && (p != 0)) && (withinT p 65535 && (withinT s 4294967295 && withinT e 16777215))))
def blankB (bs : List Nat) : Bool := bs.all fun b => b == 255
end Go.Proofs.YtllnfociddodcaaDoor
namespace Go.Proofs.YtllnfociddodcaaDoor
open Go.ChangeShapes Go.WideShapes Go.ChangeAt Go.RowKit
attribute [local go_sem ↓] Go.wp_at_zero Go.wp_at_succ
structure RdP (w : World) (B g : Nat) (r : Rr) : Prop where
  ex : ∃ (A : Option Addr) (c : Nat), Blk w g 59 #[.slice A r.1.length c, .bool r.2] ∧ Sl w B A (r.1.map byteV) ∧ r.1.length ≤ c ∧ c ≤ maxLen ∧ (A = none → c = 0)
  b8 : Bytes8 r.1
  ln : r.1.length ≤ 100000
theorem tk_len (n : Nat) (r : Rr) : (tkR n r).1.length ≤ n := by
  obtain ⟨b, s⟩ := r
  unfold tkR
  cases s
  · by_cases h : b.length < n
    · simp [h]
    · simp [h, Nat.min_le_left]
  · simp
theorem tk_8 {n : Nat} {r : Rr} (h : Bytes8 r.1) : Bytes8 (tkR n r).1 ∧ Bytes8 (tkR n r).2.1 := by
  obtain ⟨b, s⟩ := r
  unfold tkR
  have h0 : Bytes8 ([] : List Nat) := fun x hx => by simp at hx
  cases s
  · by_cases hl : b.length < n
    · simp only [hl, decide_true, cond_true, cond_false]
      exact ⟨h0, h⟩
    · simp only [hl, decide_false, cond_false]
      exact ⟨fun x hx => h x (List.mem_of_mem_take hx), fun x hx => h x (List.mem_of_mem_drop hx)⟩
  · exact ⟨h0, h⟩
theorem RdP.below {w w' : World} {B g : Nat} {r : Rr} (h : RdP w B g r) (hb : Below w.heap.size w w') (hB : B ≤ w.heap.size) : RdP w' B g r := by
  obtain ⟨A, c, h1, h2, h3⟩ := h.ex
  exact ⟨⟨A, c, h1.below hb h1.lt, h2.below (hb.mono hB), h3⟩, h.b8, h.ln⟩
theorem conv_str (bs : List Nat) (n : Nat) (A : Option Addr) (c B : Nat) (w : World) (hn : bs.length = n) (h : Sl w B A (bs.map byteV)) :
    (convert 28 9 (.slice A n c)).run Tryd.prog w = .ok (.string (strN bs)) w := by
  rcases h with h | ⟨b, o, rfl, _, hc⟩
  · obtain rfl : bs = [] := by simpa using h
    obtain rfl : n = 0 := by simpa using hn.symm
    cases A with
    | none =>
      rw [run_convert_bytes_nil w 28 5 (by kernel_rfl) (by kernel_rfl) 0 c 9 (by kernel_rfl)]
      rfl
    | some ad =>
      obtain ⟨b, o, p⟩ := ad
      rw [run_convert_bytes_string w _ _ 5 _ 0 c (by kernel_rfl) (by kernel_rfl) (by kernel_rfl), run_bytesToString w _ 0 c [] (by rfl)]
      rfl
  · have e := run_convert_bytes_arg (P := Tryd.prog) w 28 5 (by kernel_rfl) (by kernel_rfl) b o n c (bs.map fun (b : Nat) => (b : Int)) (by simpa using hn) (fun i hi => by
      have hi2 : i < bs.length := by omega
      have := hc i (byteV bs[i]) (by simp [hi2])
      rw [this]
      simp [byteV, List.getD, hi2]) 9 (by kernel_rfl)
    rw [e]
    unfold strOfNums strN
    rw [List.map_map]
    rfl
theorem rtake_any (n : Nat) (r : Rr) (B g : Nat) (w : World) (hR : RdP w B g r) (hB : B ≤ g) (hn : n ≤ 100000) :
    Calls Tryd.prog 45 #[.pointer (some ⟨g, 0, none⟩), .int .i64 (n : Int)] w fun e' w' => ∃ A c, e' = .returned (.slice A (tkR n r).1.length c) ∧ Sl w' B A ((tkR n r).1.map byteV) ∧ RdP w' B g (tkR n r).2 ∧ w.grownBy w' (some g) := by
  obtain ⟨b, sh⟩ := r
  obtain ⟨A, c, B1, hS, hlc, hcm, hA0⟩ := hR.ex
  have h8 := hR.b8
  have hln := hR.ln
  change b.length ≤ c at hlc
  change Sl w B A (b.map byteV) at hS
  change b.length ≤ 100000 at hln
  change Blk w g 59 #[.slice A b.length c, .bool sh] at B1
  have H8 := Lib.hid h8
  have HS := Lib.hid hS
  obtain ⟨L, hL⟩ : ∃ L, b.length = L := ⟨_, rfl⟩
  rw [hL] at hlc hln B1
  have HL := Lib.hid hL
  have k0 := B1.cell_ 0
  have k1 := B1.cell_ 1
  have t0 := B1.free 0
  have t1 := B1.free 1
  simp at k0 k1
  have fin : ∀ W : World, W = w.setCell ⟨g, 1, none⟩ (.bool true) → tkR n (b, sh) = ([], (b, true)) → ∃ A' c', (.returned (.slice none 0 0) : Ending) = .returned (.slice A' (tkR n (b, sh)).1.length c') ∧ Sl W B A' ((tkR n (b, sh)).1.map byteV) ∧ RdP W B g (tkR n (b, sh)).2 ∧ w.grownBy W (some g) := by
    rintro W rfl e
    rw [e]
    have hg := set1_grown w g 1 (.bool true)
    have B2 := B1.set_ 1 (.bool true)
    simp at B2
    refine ⟨none, 0, rfl, Or.inl rfl, ⟨⟨A, c, ?_, HS.out.below (below_grown (Below.refl _ _) hg hB (Nat.le_trans hB (Nat.le_of_lt B1.lt))), by show b.length ≤ c; rw [HL.out]; exact hlc, hcm, hA0⟩, H8.out, by show b.length ≤ 100000; rw [HL.out]; exact hln⟩, hg⟩
    show Blk _ g 59 #[.slice A b.length c, .bool true]
    rw [HL.out]
    exact B2
  have FIN := Lib.hid fin
  clear hR h8 hS hL fin
  cases sh
  · by_cases hlt : L < n
    · have i0 : (L : Int) < (n : Int) := by omega
      have HE : Hid (tkR n (b, false) = ([], (b, true))) := Lib.hid (by unfold tkR; simp [HL.out, hlt])
      clear hlt
      go_enter Tryd.func45, Tryd.ntmps45
      go_wp2_with fail
      go_ret
      obtain ⟨A', c', e1, e2, e3, e4⟩ := FIN.out _ rfl HE.out
      exact ⟨A', ⟨c', e1⟩, e2, e3, e4⟩
    · have i0 : ¬ (L : Int) < (n : Int) := by omega
      have i1 : (0 : Int) ≤ (n : Int) := by omega
      have i2 : (n : Int) ≤ (c : Int) := by omega
      have i3 : (n : Int) ≤ (L : Int) := by omega
      have HE : Hid (tkR n (b, false) = (b.take n, (b.drop n, false))) := Lib.hid (by unfold tkR; simp [HL.out, hlt])
      have hnL : n ≤ L := by omega
      clear hlt
      have fin2 : ∀ (W : World) (A2 : Option Addr) (c2 : Nat) (e' : Ending) (A1 : Option Addr) (c1 : Nat), e' = .returned (.slice A1 n c1) → W = w.setCell ⟨g, 0, none⟩ (.slice A2 (L - n) c2) → (Sl w B A1 ((b.take n).map byteV)) → (Sl w B A2 ((b.drop n).map byteV)) → L - n ≤ c2 → c2 ≤ maxLen → (A2 = none → c2 = 0) → ∃ A' c', e' = .returned (.slice A' (tkR n (b, false)).1.length c') ∧ Sl W B A' ((tkR n (b, false)).1.map byteV) ∧ RdP W B g (tkR n (b, false)).2 ∧ w.grownBy W (some g) := by
        rintro W A2 c2 e' A1 c1 rfl rfl s1 s2 l2 m2 z2
        rw [HE.out]
        have hg := set1_grown w g 0 (.slice A2 (L - n) c2)
        have B2 := B1.set_ 0 (.slice A2 (L - n) c2)
        simp at B2
        have hbg := below_grown (Below.refl B w) hg hB (Nat.le_trans hB (Nat.le_of_lt B1.lt))
        have ed : (b.drop n).length = L - n := by rw [List.length_drop, HL.out]
        refine ⟨A1, c1, by rw [show (b.take n).length = n by rw [List.length_take, HL.out]; omega], s1.below hbg, ⟨⟨A2, c2, ?_, s2.below hbg, by show (b.drop n).length ≤ c2; rw [ed]; exact l2, m2, z2⟩, fun x hx => H8.out x (List.mem_of_mem_drop hx), by show (b.drop n).length ≤ 100000; rw [ed]; omega⟩, hg⟩
        show Blk _ g 59 #[.slice A2 (b.drop n).length c2, .bool false]
        rw [ed]
        exact B2
      have FIN2 := Lib.hid fin2
      clear fin2
      cases A with
      | none =>
        have hc0 : c = 0 := hA0 rfl
        subst hc0
        have hL0 : L = 0 := by omega
        have hn0 : n = 0 := by omega
        subst hL0 hn0
        clear hA0
        go_enter Tryd.func45, Tryd.ntmps45
        go_wp2_with fail
        go_ret
        have hb : b = [] := List.length_eq_zero_iff.1 HL.out
        obtain ⟨A', c', e1, e2, e3, e4⟩ := FIN2.out _ none 0 _ none 0 rfl rfl (by rw [hb]; exact Or.inl rfl) (by rw [hb]; exact Or.inl rfl) (Nat.le_refl _) (by unfold maxLen; omega) (fun _ => rfl)
        exact ⟨A', ⟨c', e1⟩, e2, e3, e4⟩
      | some ad =>
        obtain ⟨b9, o9, p9⟩ := ad
        have hs1 : Sl w B (some ⟨b9, o9, p9⟩) ((b.take n).map byteV) := by
          rcases HS.out with h | ⟨b', o', e, hlt, hc⟩
          · have hb : b = [] := by simpa using h
            rw [hb]
            exact Or.inl (by simp)
          · refine Or.inr ⟨b', o', e, hlt, fun j u hj => hc j u ?_⟩
            rw [List.map_take, List.getElem?_take] at hj
            split at hj
            · exact hj
            · cases hj
        have hs2 : Sl w B (some ((⟨b9, o9, p9⟩ : Addr).add n)) ((b.drop n).map byteV) := by
          rcases HS.out with h | ⟨b', o', e, hlt, hc⟩
          · have hb : b = [] := by simpa using h
            rw [hb]
            exact Or.inl (by simp)
          · cases e
            refine Or.inr ⟨b9, o9 + n, by rw [Addr.add_lit], hlt, fun j u hj => ?_⟩
            rw [List.map_drop, List.getElem?_drop] at hj
            have := hc (n + j) u hj
            rw [← Nat.add_assoc] at this
            exact this
        have HS1 := Lib.hid hs1
        have HS2 := Lib.hid hs2
        clear hs1 hs2 hA0
        by_cases hcn : c = n
        · have hLn : L = n := by omega
          subst hcn hLn
          go_enter Tryd.func45, Tryd.ntmps45
          go_wp2_with fail
          go_ret
          obtain ⟨A', c', e1, e2, e3, e4⟩ := FIN2.out _ (some ⟨b9, o9, p9⟩) 0 _ _ L rfl (by rw [Nat.sub_self]) HS1.out (Or.inl (by rw [List.drop_eq_nil_of_le (by rw [HL.out]; exact Nat.le_refl _)]; rfl)) (by omega) (by omega) (fun h => by cases h)
          exact ⟨A', ⟨c', e1⟩, e2, e3, e4⟩
        · have hcn2 : ¬ c = n := hcn
          have hcn3 : ¬ (c : Int) = (n : Int) := by omega
          clear hcn
          go_enter Tryd.func45, Tryd.ntmps45
          go_wp2_with fail
          go_ret
          obtain ⟨A', c', e1, e2, e3, e4⟩ := FIN2.out _ _ (c - n) _ _ c rfl rfl HS1.out HS2.out (by omega) (by omega) (fun h => by cases h)
          exact ⟨A', ⟨c', e1⟩, e2, e3, e4⟩
  · have HE : Hid (tkR n (b, true) = ([], (b, true))) := Lib.hid rfl
    go_enter Tryd.func45, Tryd.ntmps45
    go_wp2_with fail
    go_ret
    obtain ⟨A', c', e1, e2, e3, e4⟩ := FIN.out _ rfl HE.out
    exact ⟨A', ⟨c', e1⟩, e2, e3, e4⟩
theorem rnumb1 (r : Rr) (B g : Nat) (w : World) (hR : RdP w B g r) (hB : B ≤ g) :
    Calls Tryd.prog 31 #[.pointer (some ⟨g, 0, none⟩), .int .i64 1] w fun e' w' => e' = .returned (.int .i64 ((nmb 1 r).1 : Int)) ∧ RdP w' B g (nmb 1 r).2 ∧ w.grownBy w' (some g) := by
  have H8 := Lib.hid (tk_8 (n := 1) hR.b8).1
  have HLE := Lib.hid (tk_len 1 r)
  have TK1 : Calls Tryd.prog 45 #[.pointer (some ⟨g, 0, none⟩), .int .i64 1] w _ := rtake_any 1 r B g w hR hB (by decide)
  have hw : B ≤ w.heap.size := by obtain ⟨A, c, h1, -⟩ := hR.ex; exact Nat.le_trans hB (Nat.le_of_lt h1.lt)
  go_enter Tryd.func31, Tryd.ntmps31
  go_wp2_with (first | (go_at_call 45; ((with_reducible refine TK1.mono ?_); rintro e' w1 ⟨A, c, rfl, hs, hR1, hg⟩; have hs := hs.mono_ (Nat.le_trans hw hg.size))) | (go_at_call 44; ((with_reducible refine (number_any (tkR 1 r).1 A c _ hs H8.out (Nat.le_trans HLE.out (by decide))).mono ?_); rintro e' w2 ⟨rfl, rfl⟩)))
  go_ret
  exact ⟨rfl, hR1, hg⟩
theorem rnumb2 (r : Rr) (B g : Nat) (w : World) (hR : RdP w B g r) (hB : B ≤ g) :
    Calls Tryd.prog 31 #[.pointer (some ⟨g, 0, none⟩), .int .i64 2] w fun e' w' => e' = .returned (.int .i64 ((nmb 2 r).1 : Int)) ∧ RdP w' B g (nmb 2 r).2 ∧ w.grownBy w' (some g) := by
  have H8 := Lib.hid (tk_8 (n := 2) hR.b8).1
  have HLE := Lib.hid (tk_len 2 r)
  have TK1 : Calls Tryd.prog 45 #[.pointer (some ⟨g, 0, none⟩), .int .i64 2] w _ := rtake_any 2 r B g w hR hB (by decide)
  have hw : B ≤ w.heap.size := by obtain ⟨A, c, h1, -⟩ := hR.ex; exact Nat.le_trans hB (Nat.le_of_lt h1.lt)
  go_enter Tryd.func31, Tryd.ntmps31
  go_wp2_with (first | (go_at_call 45; ((with_reducible refine TK1.mono ?_); rintro e' w1 ⟨A, c, rfl, hs, hR1, hg⟩; have hs := hs.mono_ (Nat.le_trans hw hg.size))) | (go_at_call 44; ((with_reducible refine (number_any (tkR 2 r).1 A c _ hs H8.out (Nat.le_trans HLE.out (by decide))).mono ?_); rintro e' w2 ⟨rfl, rfl⟩)))
  go_ret
  exact ⟨rfl, hR1, hg⟩
theorem rnumb3 (r : Rr) (B g : Nat) (w : World) (hR : RdP w B g r) (hB : B ≤ g) :
    Calls Tryd.prog 31 #[.pointer (some ⟨g, 0, none⟩), .int .i64 3] w fun e' w' => e' = .returned (.int .i64 ((nmb 3 r).1 : Int)) ∧ RdP w' B g (nmb 3 r).2 ∧ w.grownBy w' (some g) := by
  have H8 := Lib.hid (tk_8 (n := 3) hR.b8).1
  have HLE := Lib.hid (tk_len 3 r)
  have TK1 : Calls Tryd.prog 45 #[.pointer (some ⟨g, 0, none⟩), .int .i64 3] w _ := rtake_any 3 r B g w hR hB (by decide)
  have hw : B ≤ w.heap.size := by obtain ⟨A, c, h1, -⟩ := hR.ex; exact Nat.le_trans hB (Nat.le_of_lt h1.lt)
  go_enter Tryd.func31, Tryd.ntmps31
  go_wp2_with (first | (go_at_call 45; ((with_reducible refine TK1.mono ?_); rintro e' w1 ⟨A, c, rfl, hs, hR1, hg⟩; have hs := hs.mono_ (Nat.le_trans hw hg.size))) | (go_at_call 44; ((with_reducible refine (number_any (tkR 3 r).1 A c _ hs H8.out (Nat.le_trans HLE.out (by decide))).mono ?_); rintro e' w2 ⟨rfl, rfl⟩)))
  go_ret
  exact ⟨rfl, hR1, hg⟩
theorem rname_any (r : Rr) (B g : Nat) (w : World) (hR : RdP w B g r) (hB : B ≤ g) :
    Calls Tryd.prog 32 #[.pointer (some ⟨g, 0, none⟩)] w fun e' w' => e' = .returned (.string (txt r).1) ∧ RdP w' B g (txt r).2 ∧ w.grownBy w' (some g) := by
  have hb8 := (tk_8 (n := 1) hR.b8).1
  have hlt : (nmb 1 r).1 < 256 := by
    have h1 := numB_lt hb8 (Nat.le_refl _)
    rw [List.take_of_length_le (Nat.le_refl _)] at h1
    have h2 := tk_len 1 r
    have h3 : 256 ^ (tkR 1 r).1.length ≤ 256 ^ 1 := Nat.pow_le_pow_right (by decide) h2
    exact Nat.lt_of_lt_of_le h1 h3
  have HLT := Lib.hid hlt
  clear hb8 hlt
  go_enter Tryd.func32, Tryd.ntmps32
  go_wp2_with (first | (go_at_call 31; ((with_reducible refine (rnumb1 r B g _ hR hB).mono ?_); rintro e' w1 ⟨rfl, hR1, hg⟩)) | (go_at_call 45; ((with_reducible refine (rtake_any (nmb 1 r).1 (nmb 1 r).2 B g _ hR1 hB (by have := HLT.out; omega)).mono ?_); rintro e' w2 ⟨A, c, rfl, hs, hR2, hg2⟩; have hcv := conv_str (tkR (nmb 1 r).1 (nmb 1 r).2).1 _ A c B w2 rfl hs)))
  go_ret
  exact ⟨rfl, hR2, ⟨by rw [hg2.os, hg.os], by rw [hg2.tape, hg.tape], by rw [hg2.output, hg.output], Nat.le_trans hg.size hg2.size, fun k hk hne => (hg2.block k (Nat.lt_of_lt_of_le hk hg.size) hne).trans (hg.block k hk hne)⟩⟩
end Go.Proofs.YtllnfociddodcaaDoor
namespace Go.Proofs.YtllnfociddodcaaDoor
open Go.ChangeShapes Go.WideShapes Go.ChangeAt Go.RowKit
attribute [local go_sem ↓] Go.wp_at_zero Go.wp_at_succ
def conN (j : Nat) (s : Sf) (r : Rr) : Sf × Rr := ({ s with ts := (rNt j s.ts r).1 }, (rNt j s.ts r).2)
def conB (k : Nat) (s : Sf) (r : Rr) : Sf × Rr := conN (nmb 1 (rBk k s.bs r).2).1 { s with bs := (rBk k s.bs r).1 } (nmb 1 (rBk k s.bs r).2).2
def conS (j : Nat) (s : Sf) (h : Nt) (k : Nat) (r : Rr) : Sf × Rr := conN j { s with ts := s.ts ++ [{ h with sh := (rSh k h.sh r).1 }] } (rSh k h.sh r).2
def conT (j : Nat) (s : Sf) (h : Nt) (k : Nat) (r : Rr) : Sf × Rr := conS j s { h with tg := (rTg k h.tg r).1 } (nmb 1 (rTg k h.tg r).2).1 (nmb 1 (rTg k h.tg r).2).2
theorem conB_0 (s : Sf) (r : Rr) : conB 0 s r = conN (nmb 1 r).1 s (nmb 1 r).2 := rfl
theorem conN_1 (j : Nat) (s : Sf) (r : Rr) : conN (j + 1) s r = conT j s (rH1 r).1 (nmb 1 (rH1 r).2).1 (nmb 1 (rH1 r).2).2 := rfl
theorem conT_0 (j : Nat) (s : Sf) (h : Nt) (r : Rr) : conT j s h 0 r = conS j s h (nmb 1 r).1 (nmb 1 r).2 := rfl
theorem conB_all (b : List Nat) : rAll b = conB (nmb 1 (nmb 3 (nmb 3 (nmb 3 (b, false)).2).2).2).1 ⟨((nmb 3 (b, false)).1 : Int), ((nmb 3 (nmb 3 (b, false)).2).1 : Int), ((nmb 3 (nmb 3 (nmb 3 (b, false)).2).2).1 : Int), [], []⟩ (nmb 1 (nmb 3 (nmb 3 (nmb 3 (b, false)).2).2).2).2 := rfl
def Off (es : List (List Value)) (row : Option Nat) : Prop := ∀ e ∈ es, ∀ u ∈ e, u.ownBlock = none ∨ u.ownBlock ≠ row
theorem RdP.row {w w' : World} {B g : Nat} {r : Rr} {row : Option Nat} (h : RdP w B g r) (hg : w.grownBy w' row) (hB : B ≤ g) (hr : ∀ k, row = some k → B ≤ k) (hne : row ≠ some g) : RdP w' B g r := by
  obtain ⟨A, c, h1, h2, h3⟩ := h.ex
  exact ⟨⟨A, c, h1.grownR hg hne, h2.below ((Below.refl B w).grown hg (Nat.le_trans hB (Nat.le_of_lt h1.lt)) hr), h3⟩, h.b8, h.ln⟩
structure RdM (w0 wr : World) (s : Sf) (vb vn : Value) (es : List (List Value)) (r : Rr) : Prop where
  hB : Below w0.heap.size w0 wr
  zb : Blk wr w0.heap.size 25 #[.int .i64 0, .int .i64 0, .int .i64 0, .slice none 0 0, .slice none 0 0]
  sb : Blk wr (w0.heap.size + 1) 25 #[.int .i64 s.nb, .int .i64 s.nn, .int .i64 s.ns, vb, vn]
  rp : RdP wr w0.heap.size (w0.heap.size + 3) r
  bk : BksW wr (w0.heap.size + 4) vb s.bs
  el : es.length = s.ts.length
  on : wr.ownsRow (w0.heap.size + 4) 52 5 vn s.ts.length es.flatten
  nt : ∀ (k : Nat) (n : Nt) (e : List Value), s.ts[k]? = some n → es[k]? = some e → NtW wr (w0.heap.size + 4) n e
structure NbM (w0 wr : World) (h : Nt) (vt vs : Value) (es : List (List Value)) : Prop where
  nb : Blk wr (w0.heap.size + 2) 52 #[.int .i64 h.id, .int .i64 h.bk, .string h.nm, vt, vs]
  tg : wr.ownsRow (w0.heap.size + 4) 9 1 vt h.tg.length (h.tg.map strV)
  sh : wr.ownsRow (w0.heap.size + 4) 3 1 vs h.sh.length (h.sh.map (Value.int .i64))
  at_ : Off es vt.ownBlock
  as_ : Off es vs.ownBlock
theorem NtW.rowR {w w' : World} {base : Nat} {n : Nt} {e : List Value} {row : Option Nat} (h : NtW w base n e) (hg : w.grownBy w' row) (ho : ∀ u ∈ e, u.ownBlock = none ∨ u.ownBlock ≠ row) : NtW w' base n e := by
  obtain ⟨vt, vs, rfl, h1, h2⟩ := h
  exact ⟨vt, vs, rfl, h1.kept hg (ho vt (by simp [ntC])), h2.kept hg (ho vs (by simp [ntC]))⟩
theorem NtW.blk {w : World} {base : Nat} {n : Nt} {e : List Value} (h : NtW w base n e) : ∀ u ∈ e, ∀ g, u.ownBlock = some g → base ≤ g ∧ g < w.heap.size := by
  obtain ⟨vt, vs, rfl, h1, h2⟩ := h
  intro u hu g hg
  simp [ntC] at hu
  rcases hu with rfl | rfl | rfl | rfl | rfl
  · cases hg
  · cases hg
  · cases hg
  · exact h1.lt g hg
  · exact h2.lt g hg
theorem Off.nil (es : List (List Value)) : Off es none := fun e _ u _ => by
  cases h : u.ownBlock with
  | none => exact Or.inl rfl
  | some g => exact Or.inr (by simp)
theorem RdM.size {w0 wr : World} {s : Sf} {vb vn : Value} {es : List (List Value)} {r : Rr} (h : RdM w0 wr s vb vn es r) : w0.heap.size + 4 ≤ wr.heap.size := by
  obtain ⟨A, c, h1, -⟩ := h.rp.ex
  exact h1.lt
theorem RdM.cells {w0 wr : World} {s : Sf} {vb vn : Value} {es : List (List Value)} {r : Rr} (h : RdM w0 wr s vb vn es r) : ∀ e ∈ es, ∀ u ∈ e, ∀ g, u.ownBlock = some g → w0.heap.size + 4 ≤ g ∧ g < wr.heap.size := by
  intro e he
  obtain ⟨k, hk⟩ := List.getElem?_of_mem he
  have hlt : k < s.ts.length := by
    rw [← h.el]
    exact (List.getElem?_eq_some_iff.1 hk).1
  exact (h.nt k _ e (List.getElem?_eq_getElem hlt) hk).blk
theorem RdM.far {w0 wr : World} {s : Sf} {vb vn : Value} {es : List (List Value)} {r : Rr} {g : Nat} (h : RdM w0 wr s vb vn es r) (hg : g < w0.heap.size + 4) : Off es (some g) := by
  intro e he u hu
  cases hu2 : u.ownBlock with
  | none => exact Or.inl rfl
  | some k =>
    have := h.cells e he u hu k hu2
    exact Or.inr (fun hc => by cases hc; omega)
theorem RdM.keep {w0 wr w' : World} {s : Sf} {vb vn : Value} {es : List (List Value)} {r : Rr} {row : Option Nat} (h : RdM w0 wr s vb vn es r) (hg : wr.grownBy w' row) (hr : ∀ k, row = some k → w0.heap.size ≤ k)
    (h0 : row ≠ some w0.heap.size) (h1 : row ≠ some (w0.heap.size + 1)) (h3 : row ≠ some (w0.heap.size + 3)) (hb : vb.ownBlock = none ∨ vb.ownBlock ≠ row) (hn : vn.ownBlock = none ∨ vn.ownBlock ≠ row) (ho : Off es row) : RdM w0 w' s vb vn es r :=
  ⟨h.hB.grown hg (Nat.le_trans (Nat.le_add_right _ 4) h.size) hr, h.zb.grownR hg h0, h.sb.grownR hg h1, h.rp.row hg (Nat.le_add_right _ 3) hr h3, World.ownsRow.kept h.bk hg hb, h.el, World.ownsRow.kept h.on hg hn, fun k n e a c => (h.nt k n e a c).rowR hg (ho e (List.mem_of_getElem? c))⟩
theorem RdM.below {w0 wr w' : World} {s : Sf} {vb vn : Value} {es : List (List Value)} {r : Rr} (h : RdM w0 wr s vb vn es r) (hb : Below wr.heap.size wr w') : RdM w0 w' s vb vn es r :=
  ⟨btr h.hB (Nat.le_trans (Nat.le_add_right _ 4) h.size) hb, h.zb.below hb h.zb.lt, h.sb.below hb h.sb.lt, h.rp.below hb (Nat.le_trans (Nat.le_add_right _ 4) h.size), h.bk.below hb, h.el, own_belowW h.on hb, fun k n e a c => (h.nt k n e a c).below hb⟩
theorem RdM.call {w0 wr w' : World} {s : Sf} {vb vn : Value} {es : List (List Value)} {r r2 : Rr} (h : RdM w0 wr s vb vn es r) (hg : wr.grownBy w' (some (w0.heap.size + 3))) (hp : RdP w' w0.heap.size (w0.heap.size + 3) r2) : RdM w0 w' s vb vn es r2 := by
  have hlt : w0.heap.size + 3 < w0.heap.size + 4 := Nat.lt_succ_self _
  exact ⟨h.hB.grown hg (Nat.le_trans (Nat.le_add_right _ 4) h.size) (fun k e => by cases e; omega), h.zb.grownR hg (fun e => by injection e; omega), h.sb.grownR hg (fun e => by injection e; omega), hp, h.bk.far hg hlt, h.el, World.ownsRow.kept h.on hg (own_off h.on hlt), fun k n e a c => (h.nt k n e a c).rowR hg (h.far hlt e (List.mem_of_getElem? c))⟩
theorem NbM.call {w0 wr w' : World} {h : Nt} {vt vs : Value} {es : List (List Value)} (hn : NbM w0 wr h vt vs es) (hg : wr.grownBy w' (some (w0.heap.size + 3))) : NbM w0 w' h vt vs es := by
  have hlt : w0.heap.size + 3 < w0.heap.size + 4 := Nat.lt_succ_self _
  exact ⟨hn.nb.grownR hg (fun e => by injection e; omega), World.ownsRow.kept hn.tg hg (own_off hn.tg hlt), World.ownsRow.kept hn.sh hg (own_off hn.sh hlt), hn.at_, hn.as_⟩
theorem NbM.below {w0 wr w' : World} {h : Nt} {vt vs : Value} {es : List (List Value)} (hn : NbM w0 wr h vt vs es) (hb : Below wr.heap.size wr w') : NbM w0 w' h vt vs es := ⟨hn.nb.below hb hn.nb.lt, own_belowW hn.tg hb, own_belowW hn.sh hb, hn.at_, hn.as_⟩
theorem RdM.nbox {w0 wr w' : World} {s : Sf} {vb vn : Value} {es : List (List Value)} {r : Rr} (h : RdM w0 wr s vb vn es r) (hg : wr.grownBy w' (some (w0.heap.size + 2))) : RdM w0 w' s vb vn es r := by
  have hlt : w0.heap.size + 2 < w0.heap.size + 4 := by omega
  exact h.keep hg (fun k e => by cases e; omega) (fun e => by injection e; omega) (fun e => by injection e; omega) (fun e => by injection e; omega) (own_off h.bk hlt) (own_off h.on hlt) (h.far hlt)
theorem RdM.book {w0 wr w' : World} {s : Sf} {vb vn vb' : Value} {es : List (List Value)} {r : Rr} {n : Nat} (h : RdM w0 wr s vb vn es r) (b : Bk) (hn : s.bs.length = n) (ho : w'.ownsRow (w0.heap.size + 4) 48 2 vb' (n + 1) ((s.bs.map bkC).flatten ++ bkC b)) (hg : wr.grownBy w' vb.ownBlock) :
    RdM w0 (w'.setCell ⟨w0.heap.size + 1, 3, none⟩ vb') { s with bs := s.bs ++ [b] } vb' vn es r := by
  have hne : ∀ k, k < w0.heap.size + 4 → vb.ownBlock ≠ some k := fun k hk e => by have := World.ownsRow.lt h.bk k e; omega
  have hg2 := set1_grown w' (w0.heap.size + 1) 3 vb'
  have hlt : w0.heap.size + 1 < w0.heap.size + 4 := by omega
  have hof : Off es vb.ownBlock := fun e he u hu => by
    obtain ⟨k, hk⟩ := List.getElem?_of_mem he
    have hlt : k < s.ts.length := by
      rw [← h.el]
      exact (List.getElem?_eq_some_iff.1 hk).1
    obtain ⟨vt, vs, rfl, h1, h2⟩ := h.nt k _ e (List.getElem?_eq_getElem hlt) hk
    simp [ntC] at hu
    rcases hu with rfl | rfl | rfl | rfl | rfl
    · exact Or.inl rfl
    · exact Or.inl rfl
    · exact Or.inl rfl
    · exact own_apart h1 h.bk (by decide)
    · exact own_apart h2 h.bk (by decide)
  have hon := World.ownsRow.kept h.on hg (own_apart h.on h.bk (by decide))
  have hsz : w0.heap.size + 4 ≤ w'.heap.size := Nat.le_trans h.size hg.size
  have hbo : BksW w' (w0.heap.size + 4) vb' (s.bs ++ [b]) := by
    show w'.ownsRow _ _ _ _ (s.bs ++ [b]).length ((s.bs ++ [b]).map bkC).flatten
    rw [bk_snoc, List.length_append, hn]
    exact ho
  have B1 := (h.sb.grownR hg (hne _ (by omega))).set_ 3 vb'
  simp at B1
  have hX : Off es (some (w0.heap.size + 1)) := h.far hlt
  exact ⟨(h.hB.grown hg (Nat.le_trans (Nat.le_add_right _ 4) h.size) (fun k e => by have := World.ownsRow.lt h.bk k e; omega)).grown hg2 (Nat.le_trans (Nat.le_add_right _ 4) hsz) (fun k e => by cases e; omega),
    (h.zb.grownR hg (hne _ (by omega))).grownR hg2 (fun e => by injection e; omega), B1,
    (h.rp.row hg (Nat.le_add_right _ 3) (fun k e => by have := World.ownsRow.lt h.bk k e; omega) (hne _ (by omega))).row hg2 (Nat.le_add_right _ 3) (fun k e => by cases e; omega) (fun e => by injection e; omega),
    hbo.far hg2 hlt, h.el, World.ownsRow.kept hon hg2 (own_off hon hlt), fun k n e a c => ((h.nt k n e a c).rowR hg (hof e (List.mem_of_getElem? c))).rowR hg2 (hX e (List.mem_of_getElem? c))⟩
theorem Off.next {w0 wr : World} {s : Sf} {vb vn : Value} {es : List (List Value)} {r : Rr} {v v' : Value} (h : RdM w0 wr s vb vn es r) (ho : Off es v.ownBlock) (hv : v'.ownBlock = v.ownBlock ∨ v'.ownBlock = some wr.heap.size) : Off es v'.ownBlock := by
  rcases hv with hv | hv
  · rw [hv]
    exact ho
  · rw [hv]
    intro e he u hu
    cases hu2 : u.ownBlock with
    | none => exact Or.inl rfl
    | some k =>
      have := h.cells e he u hu k hu2
      exact Or.inr (fun hc => by cases hc; omega)
theorem set_boxN {w : World} {g : Nat} {t : TypeId} {a b c v1 v2 u : Value} (h : Blk w g t #[a, b, c, v1, v2]) : Blk (w.setCell ⟨g, 3, none⟩ u) g t #[a, b, c, u, v2] ∧ Blk (w.setCell ⟨g, 4, none⟩ u) g t #[a, b, c, v1, u] := by
  have h3 := h.set_ 3 u
  have h4 := h.set_ 4 u
  simp at h3 h4
  exact ⟨h3, h4⟩
theorem RdM.tag {w0 wr w' : World} {s : Sf} {vb vn vt vs vt' : Value} {es : List (List Value)} {r : Rr} {h : Nt} {n : Nat} (hM : RdM w0 wr s vb vn es r) (hN : NbM w0 wr h vt vs es) (x : ByteArray) (hn : h.tg.length = n) (ho : w'.ownsRow (w0.heap.size + 4) 9 1 vt' (n + 1) (h.tg.map strV ++ [strV x])) (hg : wr.grownBy w' vt.ownBlock) (hv : vt'.ownBlock = vt.ownBlock ∨ vt'.ownBlock = some wr.heap.size) :
    RdM w0 (w'.setCell ⟨w0.heap.size + 2, 3, none⟩ vt') s vb vn es r ∧ NbM w0 (w'.setCell ⟨w0.heap.size + 2, 3, none⟩ vt') { h with tg := h.tg ++ [x] } vt' vs es := by
  have hne : ∀ k, k < w0.heap.size + 4 → vt.ownBlock ≠ some k := fun k hk e => by have := World.ownsRow.lt hN.tg k e; omega
  have hg2 := set1_grown w' (w0.heap.size + 2) 3 vt'
  have hlt : w0.heap.size + 2 < w0.heap.size + 4 := by omega
  refine ⟨(hM.keep hg (fun k e => by have := World.ownsRow.lt hN.tg k e; omega) (hne _ (by omega)) (hne _ (by omega)) (hne _ (by omega)) (own_apart hM.bk hN.tg (by decide)) (own_apart hM.on hN.tg (by decide)) hN.at_).nbox hg2, (set_boxN (hN.nb.grownR hg (hne _ hlt))).1, ?_, World.ownsRow.kept (World.ownsRow.kept hN.sh hg (own_apart hN.sh hN.tg (by decide))) hg2 (own_off hN.sh hlt), Off.next hM hN.at_ hv, hN.as_⟩
  have ho2 := World.ownsRow.kept ho hg2 (own_off ho hlt)
  show World.ownsRow _ _ _ _ _ (h.tg ++ [x]).length ((h.tg ++ [x]).map strV)
  rw [List.length_append, hn, List.map_append]
  exact ho2
theorem RdM.sheet {w0 wr w' : World} {s : Sf} {vb vn vt vs vs' : Value} {es : List (List Value)} {r : Rr} {h : Nt} {n : Nat} (hM : RdM w0 wr s vb vn es r) (hN : NbM w0 wr h vt vs es) (x : Int) (hn : h.sh.length = n) (ho : w'.ownsRow (w0.heap.size + 4) 3 1 vs' (n + 1) (h.sh.map (Value.int .i64) ++ [.int .i64 x])) (hg : wr.grownBy w' vs.ownBlock) (hv : vs'.ownBlock = vs.ownBlock ∨ vs'.ownBlock = some wr.heap.size) :
    RdM w0 (w'.setCell ⟨w0.heap.size + 2, 4, none⟩ vs') s vb vn es r ∧ NbM w0 (w'.setCell ⟨w0.heap.size + 2, 4, none⟩ vs') { h with sh := h.sh ++ [x] } vt vs' es := by
  have hne : ∀ k, k < w0.heap.size + 4 → vs.ownBlock ≠ some k := fun k hk e => by have := World.ownsRow.lt hN.sh k e; omega
  have hg2 := set1_grown w' (w0.heap.size + 2) 4 vs'
  have hlt : w0.heap.size + 2 < w0.heap.size + 4 := by omega
  refine ⟨(hM.keep hg (fun k e => by have := World.ownsRow.lt hN.sh k e; omega) (hne _ (by omega)) (hne _ (by omega)) (hne _ (by omega)) (own_apart hM.bk hN.sh (by decide)) (own_apart hM.on hN.sh (by decide)) hN.as_).nbox hg2, (set_boxN (hN.nb.grownR hg (hne _ hlt))).2, World.ownsRow.kept (World.ownsRow.kept hN.tg hg (own_apart hN.tg hN.sh (by decide))) hg2 (own_off hN.tg hlt), ?_, hN.at_, Off.next hM hN.as_ hv⟩
  have ho2 := World.ownsRow.kept ho hg2 (own_off ho hlt)
  show World.ownsRow _ _ _ _ _ (h.sh ++ [x]).length ((h.sh ++ [x]).map (Value.int .i64))
  rw [List.length_append, hn, List.map_append]
  exact ho2
theorem RdM.note {w0 wr w' : World} {s : Sf} {vb vn vt vs vn' : Value} {es : List (List Value)} {r : Rr} {h : Nt} {n : Nat} (hM : RdM w0 wr s vb vn es r) (hN : NbM w0 wr h vt vs es) (hn : s.ts.length = n) (ho : w'.ownsRow (w0.heap.size + 4) 52 5 vn' (n + 1) (es.flatten ++ ntC h vt vs)) (hg : wr.grownBy w' vn.ownBlock) :
    RdM w0 (w'.setCell ⟨w0.heap.size + 1, 4, none⟩ vn') { s with ts := s.ts ++ [h] } vb vn' (es ++ [ntC h vt vs]) r ∧ Blk (w'.setCell ⟨w0.heap.size + 1, 4, none⟩ vn') (w0.heap.size + 2) 52 #[.int .i64 h.id, .int .i64 h.bk, .string h.nm, vt, vs] := by
  have hne : ∀ k, k < w0.heap.size + 4 → vn.ownBlock ≠ some k := fun k hk e => by have := World.ownsRow.lt hM.on k e; omega
  have hg2 := set1_grown w' (w0.heap.size + 1) 4 vn'
  have hlt : w0.heap.size + 1 < w0.heap.size + 4 := by omega
  have hsz : w0.heap.size + 4 ≤ w'.heap.size := Nat.le_trans hM.size hg.size
  have hbo := World.ownsRow.kept hM.bk hg (own_apart hM.bk hM.on (by decide))
  have hnw : ∀ (m : Nt) (e : List Value), NtW wr (w0.heap.size + 4) m e → NtW (w'.setCell ⟨w0.heap.size + 1, 4, none⟩ vn') (w0.heap.size + 4) m e := by
    rintro m e ⟨a1, a2, rfl, h1, h2⟩
    have k1 := World.ownsRow.kept h1 hg (own_apart h1 hM.on (by decide))
    have k2 := World.ownsRow.kept h2 hg (own_apart h2 hM.on (by decide))
    exact ⟨a1, a2, rfl, World.ownsRow.kept k1 hg2 (own_off k1 hlt), World.ownsRow.kept k2 hg2 (own_off k2 hlt)⟩
  refine ⟨⟨(hM.hB.grown hg (Nat.le_trans (Nat.le_add_right _ 4) hM.size) (fun k e => by have := World.ownsRow.lt hM.on k e; omega)).grown hg2 (Nat.le_trans (Nat.le_add_right _ 4) hsz) (fun k e => by cases e; omega),
    (hM.zb.grownR hg (hne _ (by omega))).grownR hg2 (fun e => by injection e; omega), (set_boxN (hM.sb.grownR hg (hne _ (by omega)))).2,
    (hM.rp.row hg (Nat.le_add_right _ 3) (fun k e => by have := World.ownsRow.lt hM.on k e; omega) (hne _ (by omega))).row hg2 (Nat.le_add_right _ 3) (fun k e => by cases e; omega) (fun e => by injection e; omega),
    World.ownsRow.kept hbo hg2 (own_off hbo hlt), by simp [hM.el], ?_, fun k m e a c => ?_⟩, (hN.nb.grownR hg (hne _ (by omega))).grownR hg2 (fun e => by injection e; omega)⟩
  · have ho2 := World.ownsRow.kept ho hg2 (own_off ho hlt)
    show World.ownsRow _ _ _ _ _ (s.ts ++ [h]).length (es ++ [ntC h vt vs]).flatten
    rw [List.flatten_append, List.length_append, hn]
    simpa using ho2
  · change (s.ts ++ [h])[k]? = some m at a
    rw [List.getElem?_append] at a c
    rw [hM.el] at c
    split at a
    · rename_i hk
      rw [if_pos hk] at c
      exact hnw m e (hM.nt k m e a c)
    · rename_i hk
      rw [if_neg hk] at c
      cases hj : k - s.ts.length with
      | zero =>
        rw [hj] at a c
        cases a
        cases c
        exact hnw h _ ⟨vt, vs, rfl, hN.tg, hN.sh⟩
      | succ j =>
        rw [hj] at a
        simp at a
theorem NbM.fresh {w0 w' : World} (es : List (List Value)) (a c : Int) (x : ByteArray) (h : Blk w' (w0.heap.size + 2) 52 #[.int .i64 a, .int .i64 c, .string x, .slice none 0 0, .slice none 0 0]) : NbM w0 w' ⟨a, c, x, [], []⟩ (.slice none 0 0) (.slice none 0 0) es :=
  ⟨h, World.ownsRow_nil _ _ _ _, World.ownsRow_nil _ _ _ _, Off.nil _, Off.nil _⟩
theorem RdM.toW {w0 wr : World} {s : Sf} {vb vn : Value} {es : List (List Value)} {r : Rr} (h : RdM w0 wr s vb vn es r) : ShW wr (w0.heap.size + 4) (.agg #[.int .i64 s.nb, .int .i64 s.nn, .int .i64 s.ns, vb, vn]) s := ShW.make h.bk ⟨es, h.el, h.on, h.nt⟩
end Go.Proofs.YtllnfociddodcaaDoor
namespace Go.Proofs.YtllnfociddodcaaDoor
open Go.ChangeShapes Go.WideShapes Go.ChangeAt Go.RowKit
def jumpsQ (J : Nat → Act → World → Prop) (Q : Exit → Act → World → Prop) : Exit → Act → World → Prop
  | .goto l, a, w => J l a w
  | e, a, w => Q e a w
theorem jumpsQ_mono {J J' : Nat → Act → World → Prop} {Q : Exit → Act → World → Prop} (h : ∀ l a w, J l a w → J' l a w) : ∀ e a w, jumpsQ J Q e a w → jumpsQ J' Q e a w := by
  intro e a w hq
  cases e with
  | goto l => exact h l a w hq
  | normal => exact hq
  | exit id => exact hq
  | ret => exact hq
  | panic ch => exact hq
  | outgrown => exact hq
theorem wp_to {P : Program} {c : Code} {a : Act} {w : World} {Q Q' : Exit → Act → World → Prop} (h : c.wp P Q a w) (hq : ∀ e a w, Q e a w → Q' e a w) : c.wp P Q' a w := by
  intro b k cs
  obtain ⟨e, a1, w1, h1, h2⟩ := h b k cs
  exact ⟨e, a1, w1, hq _ _ _ h1, h2⟩
theorem wp_scope_many {P : Program} {c : Code} {a : Act} {w : World} {Q : Exit → Act → World → Prop} (J : Nat → Nat → Act → World → Prop)
    (pass : ∀ l n a' w', J l n a' w' → (∀ l' m a1 w1, m < n → J l' m a1 w1 → ∀ rest, findLabel c l' = some (.seq .skip rest) → rest.wp P (jumpsQ (fun l a w => ∃ m, m < n ∧ J l m a w) Q) a1 w1) → ∃ rest, findLabel c l = some (.seq .skip rest) ∧ rest.wp P (jumpsQ (fun l a w => ∃ m, m < n ∧ J l m a w) Q) a' w')
    (first : (∀ l n a' w', J l n a' w' → ∀ rest, findLabel c l = some (.seq .skip rest) → rest.wp P (jumpsQ (fun l a w => ∃ n, J l n a w) Q) a' w') → c.wp P (jumpsQ (fun l a w => ∃ n, J l n a w) Q) a w) : (Code.scope c).wp P Q a w := by
  have step : ∀ n l a w, J l n a w → ∃ rest, findLabel c l = some (.seq .skip rest) ∧ rest.wp P (jumpsQ (fun l a w => ∃ m, m < n ∧ J l m a w) Q) a w := by
    intro n
    induction n using Nat.strongRecOn with
    | _ n ih =>
      intro l a w h
      refine pass l n a w h (fun l' m a1 w1 hm hJ rest hr => ?_)
      obtain ⟨rest', hr', hw⟩ := ih m hm l' a1 w1 hJ
      rw [hr] at hr'
      cases hr'
      exact wp_to hw (jumpsQ_mono fun l a w ⟨k, hk, h⟩ => ⟨k, by omega, h⟩)
  have hfirst := first (fun l n a' w' hJ rest hr => by
    obtain ⟨rest', hr', hw⟩ := step n l a' w' hJ
    rw [hr] at hr'
    cases hr'
    exact wp_to hw (jumpsQ_mono fun l a w ⟨k, hk, h⟩ => ⟨k, h⟩))
  intro b k cs
  have key : ∀ n l a w, J l n a w → ∃ rest, findLabel c l = some rest ∧ ∃ e a' w', Q e a' w' ∧ Arrives P (lone (b.at a (.code rest :: .inScope c :: k)) cs w) b k cs e a' w' := by
    intro n
    induction n using Nat.strongRecOn with
    | _ n ih =>
      intro l a w hJ
      obtain ⟨rest, hr, hw⟩ := step n l a w hJ
      replace hw := wp_seq (x := .skip) (wp_skip hw)
      refine ⟨_, hr, ?_⟩
      obtain ⟨e, a₁, w₁, hq, harr⟩ := hw b (.inScope c :: k) cs
      cases e with
      | normal => exact ⟨.normal, a₁, w₁, hq, Steps.trans harr (.one step_inScope)⟩
      | exit id => exact ⟨.exit id, a₁, w₁, hq, fun k' hk => harr k' (by simp [exitTo, hk])⟩
      | goto l' =>
        obtain ⟨m, hlt, hJ'⟩ := hq
        obtain ⟨rest2, hr2, e₂, a₂, w₂, hq₂, harr₂⟩ := ih m hlt l' a₁ w₁ hJ'
        have hg : gotoIn l' (.inScope c :: k) = some (.code rest2 :: .inScope c :: k) := by simp [gotoIn, hr2]
        exact ⟨e₂, a₂, w₂, hq₂, .of_steps (harr _ hg) harr₂⟩
      | ret => exact ⟨_, a₁, w₁, hq, harr⟩
      | panic ch => exact ⟨_, a₁, w₁, hq, harr⟩
      | outgrown => exact ⟨_, a₁, w₁, hq, harr⟩
  obtain ⟨e, a₁, w₁, hq, harr⟩ := hfirst b (.inScope c :: k) cs
  cases e with
  | normal => exact ⟨.normal, a₁, w₁, hq, .head step_scope (Steps.trans harr (.one step_inScope))⟩
  | exit id => exact ⟨.exit id, a₁, w₁, hq, fun k' hk => .head step_scope (harr k' (by simp [exitTo, hk]))⟩
  | goto l' =>
    obtain ⟨m, hJ'⟩ := hq
    obtain ⟨rest2, hr2, e₂, a₂, w₂, hq₂, harr₂⟩ := key m l' a₁ w₁ hJ'
    have hg : gotoIn l' (.inScope c :: k) = some (.code rest2 :: .inScope c :: k) := by simp [gotoIn, hr2]
    exact ⟨e₂, a₂, w₂, hq₂, .of_steps (.head step_scope (harr _ hg)) harr₂⟩
  | ret => exact ⟨_, a₁, w₁, hq, .of_steps (.one step_scope) harr⟩
  | panic ch => exact ⟨_, a₁, w₁, hq, .of_steps (.one step_scope) harr⟩
  | outgrown => exact ⟨_, a₁, w₁, hq, .of_steps (.one step_scope) harr⟩
theorem jumpsQ_ret {J : Nat → Act → World → Prop} {Q : Exit → Act → World → Prop} {a : Act} {w : World} (h : Q .ret a w) : jumpsQ J Q .ret a w := h
end Go.Proofs.YtllnfociddodcaaDoor
