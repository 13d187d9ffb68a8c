/- The laws' own: what is the same. -/
import Derived.Test.YtokhapafpjejaaaDoorLd2
import Derived.Test.YtokhapafpjejaaaDoorLd1
import Derived.Test.YtokhapafpjejaaaDoorRows
import Derived.SevenTiedAt
import Derived.LaidHandle
import Derived.Lib.LaidIn
import Derived.Lib.LaidU8T
import Derived.PinnedBridge
import Derived.ChangeMaps5
set_option linter.unusedSimpArgs false
set_option linter.unusedVariables false
set_option maxRecDepth 100000
set_option maxHeartbeats 16000000
namespace Go.Proofs.YtokhapafpjejaaaDoor
open Go.ChangeShapes Go.WideShapes Go.ChangeAt Go.RowKit
attribute [local go_sem ↓] Go.wp_at_zero Go.wp_at_succ
theorem below_dr (w : World) : Below w.heap.size w w.drew := below_dn (Below.refl w.heap.size w) 1
theorem sameBooks_yes (L : List Bk) (A B : Option Addr) (c d : Nat) (w : World) (n1 : L.length ≤ 1000000) (h1 : BksIn w w.heap.size A L) (h2 : BksIn w w.heap.size B L) : Calls Tryd.prog 33 #[.slice A L.length c, .slice B L.length d] w fun e' w' => e' = .returned (.bool true) ∧ Below w.heap.size w w' := by
  obtain ⟨n, hn⟩ : ∃ n, L.length = n := ⟨_, rfl⟩
  rw [hn] at n1 ⊢
  have HN := Lib.hid hn
  have H1 := Lib.hid h1
  have H2 := Lib.hid h2
  clear hn h1 h2
  go_enter Tryd.func33, Tryd.ntmps33
  go_wp2_with fail
  go_loopw [5] (fun s5 wr => ∃ k : Nat, k ≤ n ∧ s5 = .int .i64 (k : Int) ∧ Below w.heap.size w wr) (fun s5 _ => n - (intOf s5).toNat)
  case atStart => exact ⟨0, Nat.zero_le _, rfl, Below.refl _ _⟩
  case round =>
    obtain ⟨k, hk, rfl, hB⟩ := hrel
    by_cases hlt : k < n
    · have hlx : k < L.length := by have := HN.out; omega
      obtain ⟨b1, o1, rfl, l1, q1⟩ := (SlE.below H1.out hB).at_ (by rw [List.length_map]; omega)
      obtain ⟨b2, o2, rfl, l2, q2⟩ := (SlE.below H2.out hB).at_ (by rw [List.length_map]; omega)
      obtain ⟨x, hx⟩ : ∃ x, L[k]? = some x := ⟨_, List.getElem?_eq_getElem hlx⟩
      have he : (L.map bkC)[k]? = some (bkC x) := by rw [List.getElem?_map, hx]; rfl
      have x0 := q1 k _ he 0 _ rfl
      have x1 := q1 k _ he 1 _ rfl
      have y0 := q2 k _ he 0 _ rfl
      have y1 := q2 k _ he 1 _ rfl
      simp only [Nat.add_zero] at x0 y0
      clear he
      have k0 : (0 : Int) ≤ (k : Int) := by omega
      have k1 : (k : Int) < (n : Int) := by omega
      clear hx q1 q2 hlx
      go_upto_region 6 with fail
      refine wp_region_noPanic ?_
      refine wp_region_held_drew (S := (fun w_ => w_.cell? ⟨b1, o1 + k * 2, none⟩ = some (.int .i64 x.id) ∧ w_.cell? ⟨b1, o1 + k * 2 + 1, none⟩ = some (.string x.nm) ∧ w_.cell? ⟨b2, o2 + k * 2, none⟩ = some (.int .i64 x.id) ∧ w_.cell? ⟨b2, o2 + k * 2 + 1, none⟩ = some (.string x.nm))) (by kernel_rfl) ?_ (fun hHeld => ?_)
      · (first | exact ⟨x0, x1, y0, y1⟩ | assumption)
      refine tk 0 ⟨some 17, .move (.tmp 0), 22, "same.go:127", #[], none⟩ ?_; try simp only [Act.put, pz1, pz2, pz3]
      refine tk 1 ⟨some 18, .move (.tmp 5), 3, "same.go:127", #[], none⟩ ?_; try simp only [Act.put, pz1, pz2, pz3]
      refine tk 2 ⟨some 19, .indexAddr 22 (.tmp 17) (.tmp 18), 0, "same.go:127", #[⟨0, .data⟩, ⟨1, .data⟩], none⟩ ?_; try simp only [Act.put, pz1, pz2, pz3]
      refine tk 3 ⟨some 20, .load 50 (.tmp 19), 50, "same.go:127", #[⟨2, .data⟩], none⟩ ?_; try simp only [Act.put, pz1, pz2, pz3]
      refine tk 4 ⟨some 21, .move (.tmp 1), 22, "same.go:127", #[], none⟩ ?_; try simp only [Act.put, pz1, pz2, pz3]
      refine tk 5 ⟨some 22, .move (.tmp 5), 3, "same.go:127", #[], none⟩ ?_; try simp only [Act.put, pz1, pz2, pz3]
      refine tk 6 ⟨some 23, .indexAddr 22 (.tmp 21) (.tmp 22), 0, "same.go:127", #[⟨4, .data⟩, ⟨5, .data⟩], none⟩ ?_; try simp only [Act.put, pz1, pz2, pz3]
      refine tk 7 ⟨some 24, .load 50 (.tmp 23), 50, "same.go:127", #[⟨6, .data⟩], none⟩ ?_; try simp only [Act.put, pz1, pz2, pz3]
      refine tk 8 ⟨some 25, .binOp .neq 50 (.tmp 20) (.tmp 24) 50, 4, "same.go:127", #[⟨3, .data⟩, ⟨7, .data⟩], none⟩ ?_; try simp only [Act.put, pz1, pz2, pz3]
      refine wpAnyH_done (by kernel_rfl) ?_ _
      refine NoPanic.normal ?_
      go_wp2_with fail
      go_roundw
      case rel => exact ⟨k + 1, by omega, by go_num, (by first | exact hB | exact drew_below hB)⟩
      case measure => simp [intOf]; omega
    · obtain rfl : k = n := by omega
      go_wp2_with fail
      go_ret
      exact ⟨rfl, hB⟩
theorem sameTexts_yes (L : List ByteArray) (A B : Option Addr) (c d : Nat) (w : World) (n1 : L.length ≤ 1000000) (h1 : Sl w w.heap.size A (L.map strV)) (h2 : Sl w w.heap.size B (L.map strV)) : Calls Tryd.prog 52 #[.slice A L.length c, .slice B L.length d] w fun e' w' => e' = .returned (.bool true) ∧ Below w.heap.size w w' := by
  obtain ⟨n, hn⟩ : ∃ n, L.length = n := ⟨_, rfl⟩
  rw [hn] at n1 ⊢
  have HN := Lib.hid hn
  have H1 := Lib.hid h1
  have H2 := Lib.hid h2
  clear hn h1 h2
  go_enter Tryd.func52, Tryd.ntmps52
  go_wp2_with fail
  go_loopw [5] (fun s5 wr => ∃ k : Nat, k ≤ n ∧ s5 = .int .i64 (k : Int) ∧ Below w.heap.size w wr) (fun s5 _ => n - (intOf s5).toNat)
  case atStart => exact ⟨0, Nat.zero_le _, rfl, Below.refl _ _⟩
  case round =>
    obtain ⟨k, hk, rfl, hB⟩ := hrel
    by_cases hlt : k < n
    · have hlx : k < L.length := by have := HN.out; omega
      obtain ⟨b1, o1, rfl, l1, q1⟩ := (Sl.below H1.out hB).at_ (by rw [List.length_map]; omega)
      obtain ⟨b2, o2, rfl, l2, q2⟩ := (Sl.below H2.out hB).at_ (by rw [List.length_map]; omega)
      obtain ⟨x, hx⟩ : ∃ x, L[k]? = some x := ⟨_, List.getElem?_eq_getElem hlx⟩
      have x0 := q1 k (.string x) (by rw [List.getElem?_map, hx]; rfl)
      have y0 := q2 k (.string x) (by rw [List.getElem?_map, hx]; rfl)
      have k0 : (0 : Int) ≤ (k : Int) := by omega
      have k1 : (k : Int) < (n : Int) := by omega
      clear hx q1 q2 hlx
      go_upto_region 6 with fail
      refine wp_region_noPanic ?_
      refine wp_region_held_drew (S := (fun w_ => w_.cell? ⟨b1, o1 + k, none⟩ = some (.string x) ∧ w_.cell? ⟨b2, o2 + k, none⟩ = some (.string x))) (by kernel_rfl) ?_ (fun hHeld => ?_)
      · (first | exact ⟨x0, y0⟩ | assumption)
      refine tk 0 ⟨some 17, .move (.tmp 0), 35, "same.go:64", #[], none⟩ ?_; try simp only [Act.put, pz1, pz2, pz3]
      refine tk 1 ⟨some 18, .move (.tmp 5), 3, "same.go:64", #[], none⟩ ?_; try simp only [Act.put, pz1, pz2, pz3]
      refine tk 2 ⟨some 19, .indexAddr 35 (.tmp 17) (.tmp 18), 0, "same.go:64", #[⟨0, .data⟩, ⟨1, .data⟩], none⟩ ?_; try simp only [Act.put, pz1, pz2, pz3]
      refine tk 3 ⟨some 20, .load 9 (.tmp 19), 9, "same.go:64", #[⟨2, .data⟩], none⟩ ?_; try simp only [Act.put, pz1, pz2, pz3]
      refine tk 4 ⟨some 21, .move (.tmp 1), 35, "same.go:64", #[], none⟩ ?_; try simp only [Act.put, pz1, pz2, pz3]
      refine tk 5 ⟨some 22, .move (.tmp 5), 3, "same.go:64", #[], none⟩ ?_; try simp only [Act.put, pz1, pz2, pz3]
      refine tk 6 ⟨some 23, .indexAddr 35 (.tmp 21) (.tmp 22), 0, "same.go:64", #[⟨4, .data⟩, ⟨5, .data⟩], none⟩ ?_; try simp only [Act.put, pz1, pz2, pz3]
      refine tk 7 ⟨some 24, .load 9 (.tmp 23), 9, "same.go:64", #[⟨6, .data⟩], none⟩ ?_; try simp only [Act.put, pz1, pz2, pz3]
      refine tk 8 ⟨some 25, .binOp .neq 9 (.tmp 20) (.tmp 24) 9, 4, "same.go:64", #[⟨3, .data⟩, ⟨7, .data⟩], none⟩ ?_; try simp only [Act.put, pz1, pz2, pz3]
      refine wpAnyH_done (by kernel_rfl) ?_ _
      refine NoPanic.normal ?_
      go_wp2_with fail
      go_roundw
      case rel => exact ⟨k + 1, by omega, by go_num, (by first | exact hB | exact drew_below hB)⟩
      case measure => simp [intOf]; omega
    · obtain rfl : k = n := by omega
      go_wp2_with fail
      go_ret
      exact ⟨rfl, hB⟩
theorem sameInts_yes (L : List Int) (A B : Option Addr) (c d : Nat) (w : World) (n1 : L.length ≤ 1000000) (h1 : Sl w w.heap.size A (L.map (Value.int .i64))) (h2 : Sl w w.heap.size B (L.map (Value.int .i64))) : Calls Tryd.prog 53 #[.slice A L.length c, .slice B L.length d] w fun e' w' => e' = .returned (.bool true) ∧ Below w.heap.size w w' := by
  obtain ⟨n, hn⟩ : ∃ n, L.length = n := ⟨_, rfl⟩
  rw [hn] at n1 ⊢
  have HN := Lib.hid hn
  have H1 := Lib.hid h1
  have H2 := Lib.hid h2
  clear hn h1 h2
  go_enter Tryd.func53, Tryd.ntmps53
  go_wp2_with fail
  go_loopw [5] (fun s5 wr => ∃ k : Nat, k ≤ n ∧ s5 = .int .i64 (k : Int) ∧ Below w.heap.size w wr) (fun s5 _ => n - (intOf s5).toNat)
  case atStart => exact ⟨0, Nat.zero_le _, rfl, Below.refl _ _⟩
  case round =>
    obtain ⟨k, hk, rfl, hB⟩ := hrel
    by_cases hlt : k < n
    · have hlx : k < L.length := by have := HN.out; omega
      obtain ⟨b1, o1, rfl, l1, q1⟩ := (Sl.below H1.out hB).at_ (by rw [List.length_map]; omega)
      obtain ⟨b2, o2, rfl, l2, q2⟩ := (Sl.below H2.out hB).at_ (by rw [List.length_map]; omega)
      obtain ⟨x, hx⟩ : ∃ x, L[k]? = some x := ⟨_, List.getElem?_eq_getElem hlx⟩
      have x0 := q1 k (.int .i64 x) (by rw [List.getElem?_map, hx]; rfl)
      have y0 := q2 k (.int .i64 x) (by rw [List.getElem?_map, hx]; rfl)
      have k0 : (0 : Int) ≤ (k : Int) := by omega
      have k1 : (k : Int) < (n : Int) := by omega
      clear hx q1 q2 hlx
      go_upto_region 6 with fail
      refine wp_region_noPanic ?_
      refine wp_region_held_drew (S := (fun w_ => w_.cell? ⟨b1, o1 + k, none⟩ = some (.int .i64 x) ∧ w_.cell? ⟨b2, o2 + k, none⟩ = some (.int .i64 x))) (by kernel_rfl) ?_ (fun hHeld => ?_)
      · (first | exact ⟨x0, y0⟩ | assumption)
      refine tk 0 ⟨some 17, .move (.tmp 0), 36, "same.go:22", #[], none⟩ ?_; try simp only [Act.put, pz1, pz2, pz3]
      refine tk 1 ⟨some 18, .move (.tmp 5), 3, "same.go:22", #[], none⟩ ?_; try simp only [Act.put, pz1, pz2, pz3]
      refine tk 2 ⟨some 19, .indexAddr 36 (.tmp 17) (.tmp 18), 0, "same.go:22", #[⟨0, .data⟩, ⟨1, .data⟩], none⟩ ?_; try simp only [Act.put, pz1, pz2, pz3]
      refine tk 3 ⟨some 20, .load 3 (.tmp 19), 3, "same.go:22", #[⟨2, .data⟩], none⟩ ?_; try simp only [Act.put, pz1, pz2, pz3]
      refine tk 4 ⟨some 21, .move (.tmp 1), 36, "same.go:22", #[], none⟩ ?_; try simp only [Act.put, pz1, pz2, pz3]
      refine tk 5 ⟨some 22, .move (.tmp 5), 3, "same.go:22", #[], none⟩ ?_; try simp only [Act.put, pz1, pz2, pz3]
      refine tk 6 ⟨some 23, .indexAddr 36 (.tmp 21) (.tmp 22), 0, "same.go:22", #[⟨4, .data⟩, ⟨5, .data⟩], none⟩ ?_; try simp only [Act.put, pz1, pz2, pz3]
      refine tk 7 ⟨some 24, .load 3 (.tmp 23), 3, "same.go:22", #[⟨6, .data⟩], none⟩ ?_; try simp only [Act.put, pz1, pz2, pz3]
      refine tk 8 ⟨some 25, .binOp .neq 3 (.tmp 20) (.tmp 24) 3, 4, "same.go:22", #[⟨3, .data⟩, ⟨7, .data⟩], none⟩ ?_; try simp only [Act.put, pz1, pz2, pz3]
      refine wpAnyH_done (by kernel_rfl) ?_ _
      refine NoPanic.normal ?_
      go_wp2_with fail
      go_roundw
      case rel => exact ⟨k + 1, by omega, by go_num, (by first | exact hB | exact drew_below hB)⟩
      case measure => simp [intOf]; omega
    · obtain rfl : k = n := by omega
      go_wp2_with fail
      go_ret
      exact ⟨rfl, hB⟩
theorem sameNote_yes (n : Nt) (A1 A2 A3 A4 : Option Addr) (c1 c2 c3 c4 : Nat) (w : World) (h1 : Sl w w.heap.size A1 (n.tg.map strV)) (h2 : Sl w w.heap.size A2 (n.sh.map (Value.int .i64))) (h3 : Sl w w.heap.size A3 (n.tg.map strV)) (h4 : Sl w w.heap.size A4 (n.sh.map (Value.int .i64))) (m1 : n.tg.length ≤ 100000) (m2 : n.sh.length ≤ 100000) : Calls Tryd.prog 34 #[.agg #[.int .i64 n.id, .int .i64 n.bk, .string n.nm, .slice A1 n.tg.length c1, .slice A2 n.sh.length c2], .agg #[.int .i64 n.id, .int .i64 n.bk, .string n.nm, .slice A3 n.tg.length c3, .slice A4 n.sh.length c4]] w fun e' w' => e' = .returned (.bool true) ∧ Below w.heap.size w w' := by
  have HB : Below w.heap.size w ((w.alloc (.cells #[.int .i64 n.id, .int .i64 n.bk, .string n.nm, .slice A1 n.tg.length c1, .slice A2 n.sh.length c2] 38)).alloc (.cells #[.int .i64 n.id, .int .i64 n.bk, .string n.nm, .slice A3 n.tg.length c3, .slice A4 n.sh.length c4] 38)) := (((Below.refl w.heap.size w).alloc (by first | (simp; done) | (simp; omega)) _).alloc (by first | (simp; done) | (simp; omega)) _)
  have B1 : Blk ((w.alloc (.cells #[.int .i64 n.id, .int .i64 n.bk, .string n.nm, .slice A1 n.tg.length c1, .slice A2 n.sh.length c2] 38)).alloc (.cells #[.int .i64 n.id, .int .i64 n.bk, .string n.nm, .slice A3 n.tg.length c3, .slice A4 n.sh.length c4] 38)) w.heap.size 38 #[.int .i64 n.id, .int .i64 n.bk, .string n.nm, .slice A1 n.tg.length c1, .slice A2 n.sh.length c2] := (Blk.new_ w 38 #[.int .i64 n.id, .int .i64 n.bk, .string n.nm, .slice A1 n.tg.length c1, .slice A2 n.sh.length c2]).alloc_ _
  have B2 : Blk ((w.alloc (.cells #[.int .i64 n.id, .int .i64 n.bk, .string n.nm, .slice A1 n.tg.length c1, .slice A2 n.sh.length c2] 38)).alloc (.cells #[.int .i64 n.id, .int .i64 n.bk, .string n.nm, .slice A3 n.tg.length c3, .slice A4 n.sh.length c4] 38)) (w.heap.size + 1) 38 #[.int .i64 n.id, .int .i64 n.bk, .string n.nm, .slice A3 n.tg.length c3, .slice A4 n.sh.length c4] := by
    have := Blk.new_ (w.alloc (.cells #[.int .i64 n.id, .int .i64 n.bk, .string n.nm, .slice A1 n.tg.length c1, .slice A2 n.sh.length c2] 38)) 38 #[.int .i64 n.id, .int .i64 n.bk, .string n.nm, .slice A3 n.tg.length c3, .slice A4 n.sh.length c4]
    first | (simp; done) | simpa using this
  have S1 := h1.next HB
  have S2 := h2.next HB
  have S3 := h3.next HB
  have S4 := h4.next HB
  clear h1 h2 h3 h4
  go_enter Tryd.func34, Tryd.ntmps34
  go_wp2_with (first | (go_at_call 52; ((with_reducible refine (sameTexts_yes n.tg _ _ _ _ _ (by omega) S1 S3).mono ?_); rintro e' w3 ⟨rfl, bx⟩; have B1 := B1.below bx B1.lt; have B2 := B2.below bx B2.lt; have HB := btr HB HB.size bx; have S2 := S2.next bx; have S4 := S4.next bx; have S1 := S1.next bx; have S3 := S3.next bx; (try clear k0 k1 k2 k3 k4 r0 r1 r2 r3 r4); have k0 := B1.cell_ 0; have r0 := B2.cell_ 0; have k1 := B1.cell_ 1; have r1 := B2.cell_ 1; have k2 := B1.cell_ 2; have r2 := B2.cell_ 2; have k3 := B1.cell_ 3; have r3 := B2.cell_ 3; have k4 := B1.cell_ 4; have r4 := B2.cell_ 4; simp at k0 k1 k2 k3 k4 r0 r1 r2 r3 r4; clear bx)) | (go_at_call 53; ((with_reducible refine (sameInts_yes n.sh _ _ _ _ _ (by omega) S2 S4).mono ?_); rintro e' w4 ⟨rfl, bx⟩; have HB := btr HB HB.size bx)))
  go_ret
  exact ⟨rfl, HB⟩
theorem sameShelf_yes (s : Sf) (v1 v2 : Value) (w : World) (h1 : ShR w w.heap.size v1 s) (h2 : ShR w w.heap.size v2 s) (m0 : s.bs.length ≤ 100000) (m1 : s.ts.length ≤ 100000) (m2 : ∀ n ∈ s.ts, n.tg.length ≤ 100000 ∧ n.sh.length ≤ 100000) : Calls Tryd.prog 12 #[v1, v2] w fun e' w' => e' = .returned (.bool true) ∧ Below w.heap.size w w' := by
  obtain ⟨Ab, cb, An, cn, rfl, hB, hN, hcb, hmb, hcn, hmn⟩ := h1.ex
  obtain ⟨Ab2, cb2, An2, cn2, rfl, hB2, hN2, hcb2, hmb2, hcn2, hmn2⟩ := h2.ex
  obtain ⟨es, hel, hse, hnt⟩ := hN.ex
  obtain ⟨es2, hel2, hse2, hnt2⟩ := hN2.ex
  have HB : Below w.heap.size w ((w.alloc (.cells #[.int .i64 s.nb, .int .i64 s.nn, .int .i64 s.ns, .slice Ab s.bs.length cb, .slice An s.ts.length cn] 25)).alloc (.cells #[.int .i64 s.nb, .int .i64 s.nn, .int .i64 s.ns, .slice Ab2 s.bs.length cb2, .slice An2 s.ts.length cn2] 25)) := (((Below.refl w.heap.size w).alloc (by first | (simp; done) | (simp; omega)) _).alloc (by first | (simp; done) | (simp; omega)) _)
  have B1 : Blk ((w.alloc (.cells #[.int .i64 s.nb, .int .i64 s.nn, .int .i64 s.ns, .slice Ab s.bs.length cb, .slice An s.ts.length cn] 25)).alloc (.cells #[.int .i64 s.nb, .int .i64 s.nn, .int .i64 s.ns, .slice Ab2 s.bs.length cb2, .slice An2 s.ts.length cn2] 25)) w.heap.size 25 #[.int .i64 s.nb, .int .i64 s.nn, .int .i64 s.ns, .slice Ab s.bs.length cb, .slice An s.ts.length cn] := (Blk.new_ w 25 #[.int .i64 s.nb, .int .i64 s.nn, .int .i64 s.ns, .slice Ab s.bs.length cb, .slice An s.ts.length cn]).alloc_ _
  have B2 : Blk ((w.alloc (.cells #[.int .i64 s.nb, .int .i64 s.nn, .int .i64 s.ns, .slice Ab s.bs.length cb, .slice An s.ts.length cn] 25)).alloc (.cells #[.int .i64 s.nb, .int .i64 s.nn, .int .i64 s.ns, .slice Ab2 s.bs.length cb2, .slice An2 s.ts.length cn2] 25)) (w.heap.size + 1) 25 #[.int .i64 s.nb, .int .i64 s.nn, .int .i64 s.ns, .slice Ab2 s.bs.length cb2, .slice An2 s.ts.length cn2] := by
    have := Blk.new_ (w.alloc (.cells #[.int .i64 s.nb, .int .i64 s.nn, .int .i64 s.ns, .slice Ab s.bs.length cb, .slice An s.ts.length cn] 25)) 25 #[.int .i64 s.nb, .int .i64 s.nn, .int .i64 s.ns, .slice Ab2 s.bs.length cb2, .slice An2 s.ts.length cn2]
    first | (simp; done) | simpa using this
  have R1 : BksIn ((w.alloc (.cells #[.int .i64 s.nb, .int .i64 s.nn, .int .i64 s.ns, .slice Ab s.bs.length cb, .slice An s.ts.length cn] 25)).alloc (.cells #[.int .i64 s.nb, .int .i64 s.nn, .int .i64 s.ns, .slice Ab2 s.bs.length cb2, .slice An2 s.ts.length cn2] 25)) (((w.alloc (.cells #[.int .i64 s.nb, .int .i64 s.nn, .int .i64 s.ns, .slice Ab s.bs.length cb, .slice An s.ts.length cn] 25)).alloc (.cells #[.int .i64 s.nb, .int .i64 s.nn, .int .i64 s.ns, .slice Ab2 s.bs.length cb2, .slice An2 s.ts.length cn2] 25))).heap.size Ab s.bs := SlE.next hB HB
  have R2 : BksIn ((w.alloc (.cells #[.int .i64 s.nb, .int .i64 s.nn, .int .i64 s.ns, .slice Ab s.bs.length cb, .slice An s.ts.length cn] 25)).alloc (.cells #[.int .i64 s.nb, .int .i64 s.nn, .int .i64 s.ns, .slice Ab2 s.bs.length cb2, .slice An2 s.ts.length cn2] 25)) (((w.alloc (.cells #[.int .i64 s.nb, .int .i64 s.nn, .int .i64 s.ns, .slice Ab s.bs.length cb, .slice An s.ts.length cn] 25)).alloc (.cells #[.int .i64 s.nb, .int .i64 s.nn, .int .i64 s.ns, .slice Ab2 s.bs.length cb2, .slice An2 s.ts.length cn2] 25))).heap.size Ab2 s.bs := SlE.next hB2 HB
  have HM := Lib.hid m2
  have HEL := Lib.hid hel
  have HEL2 := Lib.hid hel2
  have HNT := Lib.hid hnt
  have HNT2 := Lib.hid hnt2
  clear h1 h2 hN hN2 hB hB2 hcb hmb hcn hmn hcb2 hmb2 hcn2 hmn2 m2 hel hel2 hnt hnt2
  go_enter Tryd.func12, Tryd.ntmps12
  go_wp2_with (go_at_call 33; ((with_reducible refine (sameBooks_yes s.bs _ _ _ _ _ (by omega) R1 R2).mono ?_); rintro e' w3 ⟨rfl, bx⟩; have B1 := B1.below bx B1.lt; have B2 := B2.below bx B2.lt; have HB := btr HB HB.size bx; (try clear k0 k1 k2 k3 k4 r0 r1 r2 r3 r4); have k0 := B1.cell_ 0; have r0 := B2.cell_ 0; have k1 := B1.cell_ 1; have r1 := B2.cell_ 1; have k2 := B1.cell_ 2; have r2 := B2.cell_ 2; have k3 := B1.cell_ 3; have r3 := B2.cell_ 3; have k4 := B1.cell_ 4; have r4 := B2.cell_ 4; simp at k0 k1 k2 k3 k4 r0 r1 r2 r3 r4; clear bx))
  go_loopw [5] (fun s5 wr => ∃ k : Nat, k ≤ s.ts.length ∧ s5 = .int .i64 (k : Int) ∧ Below w3.heap.size w3 wr) (fun s5 _ => s.ts.length - (intOf s5).toNat)
  case atStart => exact ⟨0, Nat.zero_le _, rfl, Below.refl _ _⟩
  case round =>
    obtain ⟨k, hk, rfl, hbr⟩ := hrel
    have HBr := btr HB HB.size hbr
    have C1 := B1.below hbr B1.lt
    have C2 := B2.below hbr B2.lt
    clear k0 k1 k2 k3 k4 r0 r1 r2 r3 r4 B1 B2 HB R1 R2
    have k4 := C1.cell_ 4
    have r4 := C2.cell_ 4
    simp at k4 r4
    by_cases hlt : k < s.ts.length
    · obtain ⟨n, hn⟩ : ∃ n, s.ts[k]? = some n := ⟨_, List.getElem?_eq_getElem hlt⟩
      obtain ⟨e1, he1⟩ : ∃ e, es[k]? = some e := ⟨_, List.getElem?_eq_getElem (by have := HEL.out; omega)⟩
      obtain ⟨e2, he2⟩ : ∃ e, es2[k]? = some e := ⟨_, List.getElem?_eq_getElem (by have := HEL2.out; omega)⟩
      obtain ⟨A1, c1, A2, c2, rfl, p1, p2, -⟩ := (HNT.out k n e1 hn he1).ex
      obtain ⟨A3, c3, A4, c4, rfl, p3, p4, -⟩ := (HNT2.out k n e2 hn he2).ex
      obtain ⟨b1, o1, rfl, l1, q1⟩ := hse.at_ (by have := HEL.out; omega)
      obtain ⟨b2, o2, rfl, l2, q2⟩ := hse2.at_ (by have := HEL2.out; omega)
      have x0 : wr.cell? ⟨b1, o1 + k * 5 + 0, none⟩ = some (.int .i64 n.id) := (HBr.cell (p := ⟨b1, _, none⟩) l1).trans (q1 k _ he1 0 _ rfl)
      have x1 : wr.cell? ⟨b1, o1 + k * 5 + 1, none⟩ = some (.int .i64 n.bk) := (HBr.cell (p := ⟨b1, _, none⟩) l1).trans (q1 k _ he1 1 _ rfl)
      have x2 : wr.cell? ⟨b1, o1 + k * 5 + 2, none⟩ = some (.string n.nm) := (HBr.cell (p := ⟨b1, _, none⟩) l1).trans (q1 k _ he1 2 _ rfl)
      have x3 : wr.cell? ⟨b1, o1 + k * 5 + 3, none⟩ = some (.slice A1 n.tg.length c1) := (HBr.cell (p := ⟨b1, _, none⟩) l1).trans (q1 k _ he1 3 _ rfl)
      have x4 : wr.cell? ⟨b1, o1 + k * 5 + 4, none⟩ = some (.slice A2 n.sh.length c2) := (HBr.cell (p := ⟨b1, _, none⟩) l1).trans (q1 k _ he1 4 _ rfl)
      have y0 : wr.cell? ⟨b2, o2 + k * 5 + 0, none⟩ = some (.int .i64 n.id) := (HBr.cell (p := ⟨b2, _, none⟩) l2).trans (q2 k _ he2 0 _ rfl)
      have y1 : wr.cell? ⟨b2, o2 + k * 5 + 1, none⟩ = some (.int .i64 n.bk) := (HBr.cell (p := ⟨b2, _, none⟩) l2).trans (q2 k _ he2 1 _ rfl)
      have y2 : wr.cell? ⟨b2, o2 + k * 5 + 2, none⟩ = some (.string n.nm) := (HBr.cell (p := ⟨b2, _, none⟩) l2).trans (q2 k _ he2 2 _ rfl)
      have y3 : wr.cell? ⟨b2, o2 + k * 5 + 3, none⟩ = some (.slice A3 n.tg.length c3) := (HBr.cell (p := ⟨b2, _, none⟩) l2).trans (q2 k _ he2 3 _ rfl)
      have y4 : wr.cell? ⟨b2, o2 + k * 5 + 4, none⟩ = some (.slice A4 n.sh.length c4) := (HBr.cell (p := ⟨b2, _, none⟩) l2).trans (q2 k _ he2 4 _ rfl)
      simp only [Nat.add_zero] at x0 y0
      have hm := HM.out n (List.mem_of_getElem? hn)
      have hm1 := hm.1
      have hm2 := hm.2
      have k0 : (0 : Int) ≤ (k : Int) := by omega
      have k1 : (k : Int) < (s.ts.length : Int) := by omega
      have D := below_dr wr
      have P1 := (((p1.below HBr).mono_ HBr.size).next D)
      have P2 := (((p2.below HBr).mono_ HBr.size).next D)
      have P3 := (((p3.below HBr).mono_ HBr.size).next D)
      have P4 := (((p4.below HBr).mono_ HBr.size).next D)
      have HBd := btr HBr HBr.size D
      have hbd := btr hbr hbr.size D
      clear hn he1 he2 q1 q2 hm p1 p2 p3 p4 D
      go_upto_region 6 with fail
      go_still_tail 10, (by kernel_rfl)
      change wpList _ _ _ _ _ wr.drew
      obtain ⟨wd, hwd⟩ : ∃ V : World, V = wr.drew := ⟨_, rfl⟩
      rw [← hwd] at P1 P2 P3 P4 HBd hbd ⊢
      clear hwd
      go_wp2_with (go_at_call 34; ((with_reducible refine (sameNote_yes n _ _ _ _ _ _ _ _ _ P1 P2 P3 P4 hm1 hm2).mono ?_); rintro e' w5 ⟨rfl, bx⟩; have hbe := btr hbd hbd.size bx; clear bx))
      go_roundw
      case rel => exact ⟨k + 1, by omega, by go_num, hbe⟩
      case measure => simp [intOf]; omega
    · obtain rfl : k = s.ts.length := by omega
      go_wp2_with fail
      go_ret
      exact ⟨rfl, HBr⟩
end Go.Proofs.YtokhapafpjejaaaDoor
namespace Go.Proofs.YtokhapafpjejaaaDoor
open Go.ChangeShapes Go.WideShapes Go.ChangeAt Go.RowKit
attribute [local go_sem ↓] Go.wp_at_zero Go.wp_at_succ
theorem inI_of {x lo hi : Int} (h1 : lo ≤ x) (h2 : x ≤ hi) : inI x lo hi = true := by
  unfold inI
  rw [decide_eq_true h1, decide_eq_true h2]
  rfl
theorem books_conv {s : Sf} : ∀ (l : List Bk) (bf : Int), (∀ b ∈ l, bf < b.id ∧ b.id ≤ s.nb - 1 ∧ mayN b.nm = true ∧ bookTk s b.nm b.id = false) → (l.Pairwise fun a b => a.id < b.id) → booksFrom s bf l = true
  | [], _, _, _ => rfl
  | x :: l, bf, h, hp => by
    obtain ⟨h1, h2, h3, h4⟩ := h x (by simp)
    rw [List.pairwise_cons] at hp
    show (inI x.id (bf + 1) (s.nb - 1) && (mayN x.nm && (!bookTk s x.nm x.id && booksFrom s x.id l))) = true
    rw [inI_of (by omega) h2, h3, h4, books_conv l x.id (fun b hb => ⟨hp.1 b hb, (h b (by simp [hb])).2⟩) hp.2]
    rfl
theorem notes_conv {s : Sf} : ∀ (l : List Nt) (bf : Int), (∀ b ∈ l, bf < b.id ∧ b.id ≤ s.nn - 1 ∧ mayNt s b = true) → (l.Pairwise fun a b => a.id < b.id) → notesFrom s bf l = true
  | [], _, _, _ => rfl
  | x :: l, bf, h, hp => by
    obtain ⟨h1, h2, h3⟩ := h x (by simp)
    rw [List.pairwise_cons] at hp
    show (inI x.id (bf + 1) (s.nn - 1) && (mayNt s x && notesFrom s x.id l)) = true
    rw [inI_of (by omega) h2, h3, notes_conv l x.id (fun b hb => ⟨hp.1 b hb, (h b (by simp [hb])).2⟩) hp.2]
    rfl
theorem shIn_iff (ns : Int) : ∀ (l seen : List Int), sheetsIn ns seen l = true ↔ (∀ x ∈ l, inI x 1 (ns - 1) = true ∧ x ∉ seen) ∧ l.Nodup
  | [], seen => by simp [sheetsIn]
  | x :: l, seen => by
    have ih := shIn_iff ns l (x :: seen)
    show (inI x 1 (ns - 1) && (!seen.contains x && sheetsIn ns (x :: seen) l)) = true ↔ _
    rw [Bool.and_eq_true, Bool.and_eq_true, ih, List.nodup_cons]
    simp only [Bool.not_eq_true', List.contains_eq_mem, decide_eq_false_iff_not, List.mem_cons, not_or]
    constructor
    · rintro ⟨h1, h2, h3, h4⟩
      refine ⟨fun y hy => ?_, fun hx => (h3 x hx).2.1 rfl, h4⟩
      rcases hy with rfl | hy
      · exact ⟨h1, h2⟩
      · exact ⟨(h3 y hy).1, (h3 y hy).2.2⟩
    · rintro ⟨h1, h2, h3⟩
      refine ⟨(h1 x (Or.inl rfl)).1, (h1 x (Or.inl rfl)).2, fun y hy => ⟨(h1 y (Or.inr hy)).1, fun e => h2 (e ▸ hy), (h1 y (Or.inr hy)).2⟩, h3⟩
theorem sh_iff (ns : Int) : ∀ (l : List Nt) (seen : List Int), sheetsFrom ns seen l = true ↔ (∀ n ∈ l, n.sh.length ≤ 8) ∧ (∀ x ∈ l.flatMap Nt.sh, inI x 1 (ns - 1) = true ∧ x ∉ seen) ∧ (l.flatMap Nt.sh).Nodup
  | [], seen => by simp [sheetsFrom]
  | n :: l, seen => by
    have ih := sh_iff ns l (n.sh.reverse ++ seen)
    show (decide (n.sh.length ≤ 8) && (sheetsIn ns seen n.sh && sheetsFrom ns (n.sh.reverse ++ seen) l)) = true ↔ _
    rw [Bool.and_eq_true, Bool.and_eq_true, ih, shIn_iff, List.flatMap_cons, List.nodup_append]
    simp only [decide_eq_true_eq, List.mem_cons, List.mem_append, List.mem_reverse, not_or]
    constructor
    · rintro ⟨h1, ⟨h2, h3⟩, h4, h5, h6⟩
      refine ⟨fun m hm => ?_, fun x hx => ?_, h3, h6, fun a ha b hb e => ?_⟩
      · rcases hm with rfl | hm
        · exact h1
        · exact h4 m hm
      · rcases hx with hx | hx
        · exact h2 x hx
        · exact ⟨(h5 x hx).1, (h5 x hx).2.2⟩
      · subst e
        exact (h5 a hb).2.1 ha
    · rintro ⟨h1, h2, h3, h4, h5⟩
      exact ⟨h1 n (Or.inl rfl), ⟨fun x hx => h2 x (Or.inl hx), h3⟩, fun m hm => h1 m (Or.inr hm), fun x hx => ⟨(h2 x (Or.inr hx)).1, fun hx2 => h5 x hx2 x hx rfl, (h2 x (Or.inr hx)).2⟩, h4⟩
theorem flat_sub {α β : Type} {f : α → List β} {a b : List α} (h : a.Sublist b) : (a.flatMap f).Sublist (b.flatMap f) := by
  induction h with
  | slnil => exact List.Sublist.refl _
  | cons x _ ih => rw [List.flatMap_cons]; exact ih.trans (List.sublist_append_right _ _)
  | cons_cons x _ ih => rw [List.flatMap_cons, List.flatMap_cons]; exact (List.Sublist.refl _).append ih
theorem mayS_conv {s : Sf} (h : MayF s) : mayS s = true := by
  unfold mayS
  rw [inI_of h.nb.1 h.nb.2, inI_of h.nn.1 h.nn.2, inI_of h.ns.1 h.ns.2, decide_eq_true h.bl, decide_eq_true h.tl, books_conv s.bs 0 h.bs h.bo, notes_conv s.ts 0 h.ts h.tord, h.sh]
  rfl
theorem tk_sub {ts ts' : List Nt} (hs : ts'.Sublist ts) {p : Nt → Bool} (h : ts.any p = false) : ts'.any p = false := by
  rw [List.any_eq_false] at h ⊢
  exact fun x hx => h x (hs.subset hx)
theorem mayNt_sub {s : Sf} {ts' : List Nt} (hs : ts'.Sublist s.ts) {n : Nt} (h : mayNt s n = true) : mayNt { s with ts := ts' } n = true := by
  unfold mayNt at h ⊢
  simp only [Bool.and_eq_true, Bool.not_eq_true'] at h ⊢
  exact ⟨h.1, h.2.1, tk_sub hs h.2.2.1, h.2.2.2⟩
theorem MayF.sub {s : Sf} (h : MayF s) {ts' : List Nt} (hs : ts'.Sublist s.ts) : MayF { s with ts := ts' } := by
  obtain ⟨q1, q2, q3⟩ := (sh_iff _ _ _).1 h.sh
  exact ⟨h.nb, h.nn, h.ns, h.bl, Nat.le_trans hs.length_le h.tl, h.bs, h.bo, fun n hn => ⟨(h.ts n (hs.subset hn)).1, (h.ts n (hs.subset hn)).2.1, mayNt_sub hs (h.ts n (hs.subset hn)).2.2⟩, h.tord.sublist hs,
    (sh_iff _ _ _).2 ⟨fun n hn => q1 n (hs.subset hn), fun x hx => q2 x ((flat_sub hs).subset hx), q3.sublist (flat_sub hs)⟩⟩
def discL (s : Sf) (L : List Int) : Sf := { s with ts := s.ts.filter fun n => !L.contains n.id }
theorem discL_nil (s : Sf) : discL s [] = s := by
  have : (s.ts.filter fun n => !([] : List Int).contains n.id) = s.ts := by
    rw [List.filter_eq_self]
    intro n _
    rfl
  unfold discL
  rw [this]
theorem discL_next (s : Sf) (L : List Int) (x : Int) : discS (discL s L) x = discL s (L ++ [x]) := by
  unfold discS discL
  congr 1
  rw [List.filter_filter]
  apply List.filter_congr
  intro n _
  simp only [List.contains_eq_mem, List.mem_append, List.mem_singleton]
  by_cases h1 : n.id ∈ L <;> by_cases h2 : n.id = x <;> simp [h1, h2]
theorem note_is {s : Sf} (x : Int) : (0 ≤ noteAt s x) ↔ ∃ b ∈ s.ts, b.id = x := by
  have := idxP_ge (fun b : Nt => b.id == x) s.ts
  unfold noteAt
  constructor
  · intro h
    rw [decide_eq_true h] at this
    obtain ⟨b, hb, he⟩ := List.any_eq_true.1 this.symm
    exact ⟨b, hb, by simpa using he⟩
  · rintro ⟨b, hb, rfl⟩
    rw [List.any_eq_true.2 ⟨b, hb, by simp⟩] at this
    exact of_decide_eq_true this
theorem MayF.idinj {s : Sf} (h : MayF s) {a b : Nt} (ha : a ∈ s.ts) (hb : b ∈ s.ts) (he : a.id = b.id) : a = b := by
  obtain ⟨i, hi, rfl⟩ := List.mem_iff_getElem.1 ha
  obtain ⟨j, hj, rfl⟩ := List.mem_iff_getElem.1 hb
  rcases Nat.lt_trichotomy i j with hij | rfl | hij
  · have := List.pairwise_iff_getElem.1 h.tord i j hi hj hij
    omega
  · rfl
  · have := List.pairwise_iff_getElem.1 h.tord j i hj hi hij
    omega
structure DrpF (s : Sf) (x : Int) (its : List It) : Prop where
  disc : ∀ (i : Nat) (y : It), its[i]? = some y → discC (discL s ((its.map It.id).take i)) y.id = 0
  step : ∀ (i : Nat) (y : It), its[i]? = some y → discS (discL s ((its.map It.id).take i)) y.id = discL s ((its.map It.id).take (i + 1))
  last : dropC (discL s (its.map It.id)) x = 0
  same : dropS (discL s (its.map It.id)) x = dropS s x
  notes : ((dropS s x).ts.length : Int) = (s.ts.length : Int) - (its.length : Int)
  books : ((dropS s x).bs.length : Int) = (s.bs.length : Int) - 1
theorem filt_len {α : Type} (l : List α) (p : α → Bool) : (l.filter fun x => !p x).length + (l.filter p).length = l.length := by
  induction l with
  | nil => rfl
  | cons x l ih =>
    rw [List.filter_cons, List.filter_cons]
    cases p x <;> simp <;> omega
theorem one_of {l : List Bk} (hp : l.Pairwise fun a b => a.id < b.id) {b : Bk} (hb : b ∈ l) : (l.filter fun y => y.id == b.id).length = 1 := by
  induction l with
  | nil => simp at hb
  | cons y l ih =>
    rw [List.pairwise_cons] at hp
    rw [List.filter_cons]
    rcases List.mem_cons.1 hb with rfl | hb
    · have : (l.filter fun y => y.id == b.id) = [] := by
        rw [List.filter_eq_nil_iff]
        intro z hz
        have := hp.1 z hz
        simp only [beq_iff_eq]
        omega
      simp [this]
    · have := hp.1 b hb
      have hne : (y.id == b.id) = false := by
        rw [beq_eq_false_iff_ne]
        omega
      rw [hne]
      exact ih hp.2 hb
theorem drpF_of {s : Sf} (hF : MayF s) {x : Int} (hx : 0 ≤ bookAt s x) {its : List It} (hp : its.Perm ((ofBook s x).map ntIt)) : DrpF s x its := by
  have hids : (its.map It.id).Perm ((ofBook s x).map Nt.id) := by
    have := hp.map It.id
    rwa [List.map_map] at this
  have hnd : (its.map It.id).Nodup := by
    rw [hids.nodup_iff]
    refine nodup_map ?_
    refine (hF.tord.filter _).imp ?_
    intro a b h he
    omega
  have hmay : ∀ L, mayS (discL s L) = true := fun L => mayS_conv (hF.sub (List.filter_sublist))
  have hmem : ∀ n ∈ s.ts, (n.id ∈ its.map It.id ↔ n.bk = x) := by
    intro n hn
    rw [hids.mem_iff]
    constructor
    · intro h
      obtain ⟨m, hm, he⟩ := List.mem_map.1 h
      have hm2 := List.mem_filter.1 hm
      have := hF.idinj hm2.1 hn he
      subst this
      simpa using hm2.2
    · intro h
      exact List.mem_map.2 ⟨n, List.mem_filter.2 ⟨hn, by simpa using h⟩, rfl⟩
  refine ⟨fun i y hy => ?_, fun i y hy => ?_, ?_, ?_, ?_, ?_⟩
  · have hyi : y.id ∈ its.map It.id := List.mem_map_of_mem (List.mem_of_getElem? hy)
    rw [hids.mem_iff] at hyi
    obtain ⟨m, hm, he⟩ := List.mem_map.1 hyi
    have h0 : 0 ≤ noteAt (discL s ((its.map It.id).take i)) y.id := by
      refine (note_is _).2 ⟨m, List.mem_filter.2 ⟨(List.mem_filter.1 hm).1, ?_⟩, he⟩
      rw [he]
      simp only [List.contains_eq_mem, Bool.not_eq_true', decide_eq_false_iff_not]
      intro hin
      obtain ⟨j, hj, hje⟩ := List.mem_take_iff_getElem.1 hin
      have hil := (List.getElem?_eq_some_iff.1 hy).1
      have hye := (List.getElem?_eq_some_iff.1 hy).2
      have := List.pairwise_iff_getElem.1 hnd j i (by simp at hj ⊢; omega) (by simpa using hil) (by omega)
      apply this
      rw [hje, List.getElem_map, hye]
    unfold discC
    rw [hmay, decide_eq_false (by omega)]
    rfl
  · rw [discL_next, List.take_add_one, List.getElem?_map, hy]
    rfl
  · have : bookAt (discL s (its.map It.id)) x = bookAt s x := rfl
    unfold dropC
    rw [hmay, this, decide_eq_false (by omega)]
    rfl
  · unfold dropS discL
    congr 1
    rw [List.filter_filter]
    apply List.filter_congr
    intro n hn
    have := hmem n hn
    simp only [List.contains_eq_mem]
    by_cases h : n.bk = x
    · simp [h]
    · have h2 : ¬ n.id ∈ its.map It.id := fun h3 => h (this.1 h3)
      simp [h, h2]
  · have h1 := filt_len s.ts (fun n => n.bk == x)
    have h2 := hp.length_eq
    rw [List.length_map] at h2
    have h3 : (ofBook s x).length = (s.ts.filter fun n => n.bk == x).length := rfl
    show ((s.ts.filter fun n => !(n.bk == x)).length : Int) = _
    omega
  · obtain ⟨b, hb, rfl⟩ := (book_is _).1 hx
    have h1 := filt_len s.bs (fun y => y.id == b.id)
    have h2 := one_of hF.bo hb
    show ((s.bs.filter fun y => !(y.id == b.id)).length : Int) = _
    omega
end Go.Proofs.YtokhapafpjejaaaDoor
namespace Go.Proofs.YtokhapafpjejaaaDoor
open Go.ChangeShapes Go.WideShapes Go.ChangeAt Go.RowKit
attribute [local go_sem ↓] Go.wp_at_zero Go.wp_at_succ
theorem BksW.base_ {w : World} {B B' : Nat} {v : Value} {bs : List Bk} (h : BksW w B v bs) (hB : B' ≤ B) : BksW w B' v bs := own_base h hB
theorem NtsW.base_ {w : World} {B B' : Nat} {v : Value} {ts : List Nt} (h : NtsW w B v ts) (hB : B' ≤ B) : NtsW w B' v ts := by
  obtain ⟨es, h1, h2, h3⟩ := h
  refine ⟨es, h1, own_base h2 hB, fun k n e a b => ?_⟩
  obtain ⟨vt, vs, r, q1, q2⟩ := h3 k n e a b
  exact ⟨vt, vs, r, own_base q1 hB, own_base q2 hB⟩
theorem keepQ {w w' : World} {g b o : Nat} {v0 v1 v2 v3 v4 u : Value} (h : w.cell? ⟨g, 0, none⟩ = some v0 ∧ w.cell? ⟨g, 1, none⟩ = some v1 ∧ w.cell? ⟨g, 2, none⟩ = some v2 ∧ w.cell? ⟨g, 3, none⟩ = some v3 ∧ w.cell? ⟨g, 4, none⟩ = some v4 ∧ w.cell? ⟨b, o, none⟩ = some u) (hb : Below w.heap.size w w') (hg : g < w.heap.size) (hl : b < w.heap.size) :
    w'.cell? ⟨g, 0, none⟩ = some v0 ∧ w'.cell? ⟨g, 1, none⟩ = some v1 ∧ w'.cell? ⟨g, 2, none⟩ = some v2 ∧ w'.cell? ⟨g, 3, none⟩ = some v3 ∧ w'.cell? ⟨g, 4, none⟩ = some v4 ∧ w'.cell? ⟨b, o, none⟩ = some u :=
  ⟨(hb.cell (p := ⟨g, 0, none⟩) hg).trans h.1, (hb.cell (p := ⟨g, 1, none⟩) hg).trans h.2.1, (hb.cell (p := ⟨g, 2, none⟩) hg).trans h.2.2.1, (hb.cell (p := ⟨g, 3, none⟩) hg).trans h.2.2.2.1, (hb.cell (p := ⟨g, 4, none⟩) hg).trans h.2.2.2.2.1, (hb.cell (p := ⟨b, o, none⟩) hl).trans h.2.2.2.2.2⟩
theorem drops_walk (s : Sf) (v : Value) (x : Int) (w : World) (hS : ShR w w.heap.size v s) (hx : i64in x) (hT : Tabs w) :
    Calls Tryd.prog 5 #[v, .int .i64 x] w fun e' w' => e' = .returned (.bool true) ∧ Below w.heap.size w w' := by
  have hS0 := hS
  obtain ⟨Ab, cb, An, cn, rfl, hB, hN, hcb, hmb, hcn, hmn⟩ := hS.ex
  clear hS
  have HB : Below w.heap.size w (w.alloc (.cells #[.int .i64 s.nb, .int .i64 s.nn, .int .i64 s.ns, .slice Ab s.bs.length cb, .slice An s.ts.length cn] 25)) := ((Below.refl w.heap.size w).alloc (by first | (simp; done) | (simp; omega)) _)
  have B1 : Blk (w.alloc (.cells #[.int .i64 s.nb, .int .i64 s.nn, .int .i64 s.ns, .slice Ab s.bs.length cb, .slice An s.ts.length cn] 25)) w.heap.size 25 #[.int .i64 s.nb, .int .i64 s.nn, .int .i64 s.ns, .slice Ab s.bs.length cb, .slice An s.ts.length cn] := Blk.new_ w 25 #[.int .i64 s.nb, .int .i64 s.nn, .int .i64 s.ns, .slice Ab s.bs.length cb, .slice An s.ts.length cn]
  have S1 : ShR (w.alloc (.cells #[.int .i64 s.nb, .int .i64 s.nn, .int .i64 s.ns, .slice Ab s.bs.length cb, .slice An s.ts.length cn] 25)) ((w.alloc (.cells #[.int .i64 s.nb, .int .i64 s.nn, .int .i64 s.ns, .slice Ab s.bs.length cb, .slice An s.ts.length cn] 25))).heap.size (.agg #[.int .i64 s.nb, .int .i64 s.nn, .int .i64 s.ns, .slice Ab s.bs.length cb, .slice An s.ts.length cn]) s := hS0.next HB
  have T1 := hT.next HB
  obtain ⟨G, hG⟩ : ∃ G, greatS s = G := ⟨_, rfl⟩
  obtain ⟨M, hM⟩ : ∃ M, mayS s = M := ⟨_, rfl⟩
  have HG := Lib.hid hG
  have HM := Lib.hid hM
  clear hG hM hS0 hT hB hN hcb hmb hcn hmn
  cases G
  · cases M
    · skip
      go_enter Tryd.func5, Tryd.ntmps5
      go_wp2_with (first | (go_at_call 6; ((with_reducible refine (greatShelf_any s _ _ S1 _ HG.out).mono ?_); rintro e' w2 ⟨rfl, bx⟩; have S1 := S1.next bx; have T1 := T1.next bx; have B1 := B1.below bx B1.lt; have HB := btr HB HB.size bx; (try clear k0 k1 k2 k3 k4); have k0 := B1.cell_ 0; have k1 := B1.cell_ 1; have k2 := B1.cell_ 2; have k3 := B1.cell_ 3; have k4 := B1.cell_ 4; simp at k0 k1 k2 k3 k4; clear bx)) | (go_at_call 7; ((with_reducible refine (smay_any s _ _ S1 T1 _ HM.out).mono ?_); rintro e' w3 ⟨rfl, bx⟩; have S1 := S1.next bx; have T1 := T1.next bx; have B1 := B1.below bx B1.lt; have HB := btr HB HB.size bx; (try clear k0 k1 k2 k3 k4); have k0 := B1.cell_ 0; have k1 := B1.cell_ 1; have k2 := B1.cell_ 2; have k3 := B1.cell_ 3; have k4 := B1.cell_ 4; simp at k0 k1 k2 k3 k4; clear bx)) | (go_at_call 8; ((with_reducible refine (awake_any _ T1).mono ?_); rintro e' wA ⟨rfl, bx⟩; have HB := btr HB HB.size bx)))
      go_ret
      exact ⟨rfl, HB⟩
    · have HMF := Lib.hid (mayF_of HM.out)
      by_cases hI : bookAt s x < 0
      · have HI := Lib.hid hI
        have HDC : Hid (dropC s x = 4) := Lib.hid (by unfold dropC; rw [HM.out, decide_eq_true hI]; rfl)
        clear hI
        go_enter Tryd.func5, Tryd.ntmps5
        go_wp2_with (first | (go_at_call 6; ((with_reducible refine (greatShelf_any s _ _ S1 _ HG.out).mono ?_); rintro e' w2 ⟨rfl, bx⟩; have S1 := S1.next bx; have T1 := T1.next bx; have B1 := B1.below bx B1.lt; have HB := btr HB HB.size bx; (try clear k0 k1 k2 k3 k4); have k0 := B1.cell_ 0; have k1 := B1.cell_ 1; have k2 := B1.cell_ 2; have k3 := B1.cell_ 3; have k4 := B1.cell_ 4; simp at k0 k1 k2 k3 k4; clear bx)) | (go_at_call 7; ((with_reducible refine (smay_any s _ _ S1 T1 _ HM.out).mono ?_); rintro e' w3 ⟨rfl, bx⟩; have S1 := S1.next bx; have T1 := T1.next bx; have B1 := B1.below bx B1.lt; have HB := btr HB HB.size bx; (try clear k0 k1 k2 k3 k4); have k0 := B1.cell_ 0; have k1 := B1.cell_ 1; have k2 := B1.cell_ 2; have k3 := B1.cell_ 3; have k4 := B1.cell_ 4; simp at k0 k1 k2 k3 k4; clear bx)) | (go_at_call 10; ((with_reducible refine (drop_no s _ x _ S1 T1 4 HDC.out (by decide)).mono ?_); rintro e' w4 ⟨rfl, b4⟩; have bx := (b4.trans (Below.mono ((Below.refl w4.heap.size w4).alloc (Nat.le_refl _) (.cells #[.int .i64 0, .int .i64 0, .int .i64 0, .slice none 0 0, .slice none 0 0] 25)) b4.size)); have S1 := S1.next bx; have T1 := T1.next bx; have B1 := B1.below bx B1.lt; have HB := btr HB HB.size bx; (try clear k0 k1 k2 k3 k4); have k0 := B1.cell_ 0; have k1 := B1.cell_ 1; have k2 := B1.cell_ 2; have k3 := B1.cell_ 3; have k4 := B1.cell_ 4; simp at k0 k1 k2 k3 k4; clear bx)) | (go_at_call 16; ((with_reducible refine (notes_none s _ x _ S1 T1 HM.out HI.out).mono ?_); rintro e' w5 ⟨rfl, bx⟩; have S1 := S1.next bx; have T1 := T1.next bx; have B1 := B1.below bx B1.lt; have HB := btr HB HB.size bx; (try clear k0 k1 k2 k3 k4); have k0 := B1.cell_ 0; have k1 := B1.cell_ 1; have k2 := B1.cell_ 2; have k3 := B1.cell_ 3; have k4 := B1.cell_ 4; simp at k0 k1 k2 k3 k4; clear bx)) | (go_at_call 8; ((with_reducible refine (awake_any _ T1).mono ?_); rintro e' wA ⟨rfl, bx⟩; have HB := btr HB HB.size bx)))
        go_ret
        exact ⟨rfl, HB⟩
      · have HBA : Hid (0 ≤ bookAt s x) := Lib.hid (by omega)
        have HDC : Hid (dropC s x = 0) := Lib.hid (by unfold dropC; rw [HM.out, decide_eq_false hI]; rfl)
        obtain ⟨sd, hsd⟩ : ∃ t, dropS s x = t := ⟨_, rfl⟩
        have HSD := Lib.hid hsd
        clear hI hsd
        go_enter Tryd.func5, Tryd.ntmps5
        go_upto_region 4 with (first | (go_at_call 6; ((with_reducible refine (greatShelf_any s _ _ S1 _ HG.out).mono ?_); rintro e' w2 ⟨rfl, bx⟩; have S1 := S1.next bx; have T1 := T1.next bx; have B1 := B1.below bx B1.lt; have HB := btr HB HB.size bx; (try clear k0 k1 k2 k3 k4); have k0 := B1.cell_ 0; have k1 := B1.cell_ 1; have k2 := B1.cell_ 2; have k3 := B1.cell_ 3; have k4 := B1.cell_ 4; simp at k0 k1 k2 k3 k4; clear bx)) | (go_at_call 7; ((with_reducible refine (smay_any s _ _ S1 T1 _ HM.out).mono ?_); rintro e' w3 ⟨rfl, bx⟩; have S1 := S1.next bx; have T1 := T1.next bx; have B1 := B1.below bx B1.lt; have HB := btr HB HB.size bx; (try clear k0 k1 k2 k3 k4); have k0 := B1.cell_ 0; have k1 := B1.cell_ 1; have k2 := B1.cell_ 2; have k3 := B1.cell_ 3; have k4 := B1.cell_ 4; simp at k0 k1 k2 k3 k4; clear bx)) | (go_at_call 10; ((with_reducible refine (drop_yes s _ x _ S1 T1 HDC.out).mono ?_); rintro e' w4 ⟨va, rfl, hQa, b4⟩; rw [HSD.out] at hQa; have SA := hQa.toR; (obtain ⟨Aa, ca, Ab_, cb_, rfl, -, -, -, -, -, -⟩ := hQa.parts); have SA := SA.next ((Below.refl _ w4).alloc (Nat.le_refl _) (.cells #[.int .i64 sd.nb, .int .i64 sd.nn, .int .i64 sd.ns, .slice Aa sd.bs.length ca, .slice Ab_ sd.ts.length cb_] 25)); have B5 : Blk (w4.alloc (.cells #[.int .i64 sd.nb, .int .i64 sd.nn, .int .i64 sd.ns, .slice Aa sd.bs.length ca, .slice Ab_ sd.ts.length cb_] 25)) w4.heap.size 25 #[.int .i64 sd.nb, .int .i64 sd.nn, .int .i64 sd.ns, .slice Aa sd.bs.length ca, .slice Ab_ sd.ts.length cb_] := Blk.new_ w4 25 #[.int .i64 sd.nb, .int .i64 sd.nn, .int .i64 sd.ns, .slice Aa sd.bs.length ca, .slice Ab_ sd.ts.length cb_]; (obtain ⟨g5, hg5⟩ : ∃ g, g = w4.heap.size := ⟨_, rfl⟩); have HG5 := Lib.hid hg5; clear hg5; have bx := (b4.trans (Below.mono ((Below.refl w4.heap.size w4).alloc (Nat.le_refl _) (.cells #[.int .i64 sd.nb, .int .i64 sd.nn, .int .i64 sd.ns, .slice Aa sd.bs.length ca, .slice Ab_ sd.ts.length cb_] 25)) b4.size)); clear hQa; have S1 := S1.next bx; have T1 := T1.next bx; have B1 := B1.below bx B1.lt; have HB := btr HB HB.size bx; (try clear k0 k1 k2 k3 k4); have k0 := B1.cell_ 0; have k1 := B1.cell_ 1; have k2 := B1.cell_ 2; have k3 := B1.cell_ 3; have k4 := B1.cell_ 4; simp at k0 k1 k2 k3 k4; clear bx)))
        go_upto_region 5 with (go_at_call 16; ((with_reducible refine (notes_any s _ x _ S1 T1 HM.out HBA.out (by have := HMF.out.tl; omega)).mono ?_); rintro e' w5 ⟨A2, c2, its, rfl, hp2, ho2, hrow2, hlc2, hcm2, bx⟩; have SA := SA.next bx; have B5 := B5.below bx B5.lt; have S1 := S1.next bx; have T1 := T1.next bx; have B1 := B1.below bx B1.lt; have HB := btr HB HB.size bx; (try clear k0 k1 k2 k3 k4); have k0 := B1.cell_ 0; have k1 := B1.cell_ 1; have k2 := B1.cell_ 2; have k3 := B1.cell_ 3; have k4 := B1.cell_ 4; simp at k0 k1 k2 k3 k4; clear bx))
        have hD := drpF_of HMF.out HBA.out hp2
        obtain ⟨l, hl⟩ : ∃ l, its.length = l := ⟨_, rfl⟩
        rw [hl] at hlc2 ⊢
        have HLL := Lib.hid hl
        have HD := Lib.hid hD
        have HROW := Lib.hid hrow2
        have hl12 : l ≤ 12 := by
          have h1 := hp2.length_eq
          rw [List.length_map] at h1
          have h2 : (ofBook s x).length ≤ s.ts.length := List.length_filter_le _ _
          have h3 := HMF.out.tl
          omega
        clear hp2 ho2 hD hl hrow2 hlc2 hcm2
        go_upto_region 8 with fail
        have B9 : Blk (w5.alloc (.cells #[.int .i64 s.nb, .int .i64 s.nn, .int .i64 s.ns, .slice Ab s.bs.length cb, .slice An s.ts.length cn] 25)) w5.heap.size 25 #[.int .i64 s.nb, .int .i64 s.nn, .int .i64 s.ns, .slice Ab s.bs.length cb, .slice An s.ts.length cn] := Blk.new_ w5 25 #[.int .i64 s.nb, .int .i64 s.nn, .int .i64 s.ns, .slice Ab s.bs.length cb, .slice An s.ts.length cn]
        have hb5 : Below w5.heap.size w5 (w5.alloc (.cells #[.int .i64 s.nb, .int .i64 s.nn, .int .i64 s.ns, .slice Ab s.bs.length cb, .slice An s.ts.length cn] 25)) := (Below.refl _ _).alloc (Nat.le_refl _) _
        have SB : ShR (w5.alloc (.cells #[.int .i64 s.nb, .int .i64 s.nn, .int .i64 s.ns, .slice Ab s.bs.length cb, .slice An s.ts.length cn] 25)) (w5.alloc (.cells #[.int .i64 s.nb, .int .i64 s.nn, .int .i64 s.ns, .slice Ab s.bs.length cb, .slice An s.ts.length cn] 25)).heap.size (.agg #[.int .i64 s.nb, .int .i64 s.nn, .int .i64 s.ns, .slice Ab s.bs.length cb, .slice An s.ts.length cn]) s := S1.next hb5
        clear k0 k1 k2 k3 k4
        go_wp2_with fail
        go_loopw [10] (fun iv wr => ∃ (i : Nat) (bi : Sf) (A9 : Option Addr) (c9 : Nat) (A8 : Option Addr) (c8 : Nat), i ≤ l ∧ iv = .int .i64 i ∧ Hid (bi = discL s ((its.map It.id).take i)) ∧ Blk wr w5.heap.size 25 #[.int .i64 bi.nb, .int .i64 bi.nn, .int .i64 bi.ns, .slice A9 bi.bs.length c9, .slice A8 bi.ts.length c8] ∧ ShR wr wr.heap.size (.agg #[.int .i64 bi.nb, .int .i64 bi.nn, .int .i64 bi.ns, .slice A9 bi.bs.length c9, .slice A8 bi.ts.length c8]) bi ∧ Below w5.heap.size w5 wr) (fun iv _ => l - (intOf iv).toNat)
        case atStart => exact ⟨0, s, Ab, cb, An, cn, by omega, rfl, Lib.hid (by rw [List.take_zero]; exact (discL_nil s).symm), B9, SB, hb5⟩
        case round =>
          clear B9 hb5 SB
          obtain ⟨i, bi, A9, c9, A8, c8, hi, rfl, HBI, B9, SB, hbr⟩ := hrel
          have k0 := B9.cell_ 0
          have k1 := B9.cell_ 1
          have k2 := B9.cell_ 2
          have k3 := B9.cell_ 3
          have k4 := B9.cell_ 4
          simp at k0 k1 k2 k3 k4
          by_cases hlt : i < l
          · have hlx : i < its.length := by have := HLL.out; omega
            obtain ⟨y, hy⟩ : ∃ y, its[i]? = some y := ⟨_, List.getElem?_eq_getElem hlx⟩
            obtain ⟨b1, o1, rfl, l1, q1⟩ := HROW.out.at_ (by rw [List.length_map]; omega)
            have he : (its.map itC)[i]? = some (itC y) := by rw [List.getElem?_map, hy]; rfl
            have y0 : wr.cell? ⟨b1, o1 + i * 2, none⟩ = some (.int .i64 y.id) := (hbr.cell (p := ⟨b1, _, none⟩) l1).trans (q1 i _ he 0 _ rfl)
            have l2 : b1 < wr.heap.size := Nat.lt_of_lt_of_le l1 hbr.size
            have i0 : (0 : Int) ≤ (i : Int) := by omega
            have i1 : (i : Int) < (l : Int) := by omega
            have HDI : Hid (discC bi y.id = 0) := Lib.hid (by rw [HBI.out]; exact HD.out.disc i y hy)
            obtain ⟨bj, hbj⟩ : ∃ t, discS bi y.id = t := ⟨_, rfl⟩
            have HBJ := Lib.hid hbj
            have HNX : Hid (bj = discL s ((its.map It.id).take (i + 1))) := Lib.hid (by rw [← hbj, HBI.out]; exact HD.out.step i y hy)
            have TB := T1.next hbr
            clear he hlx hy q1 hbj l1
            go_upto_region 11 with fail
            have SQ := SB.next (below_dr wr)
            have TQ := TB.next (below_dr wr)
            have SQ2 := SQ.next ((Below.refl _ _).alloc (Nat.le_refl _) (.cells #[.int .i64 0, .int .i64 0, .int .i64 0, .slice none 0 0, .slice none 0 0] 25))
            have TQ2 := TQ.next ((Below.refl _ _).alloc (Nat.le_refl _) (.cells #[.int .i64 0, .int .i64 0, .int .i64 0, .slice none 0 0, .slice none 0 0] 25))
            have hAL : Below wr.heap.size wr (wr.alloc (.cells #[.int .i64 0, .int .i64 0, .int .i64 0, .slice none 0 0, .slice none 0 0] 25)).drew := drew_below ((Below.refl _ _).alloc (Nat.le_refl _) _)
            have SQ3 := SB.next hAL
            have TQ3 := TB.next hAL
            have HZ2 : Below wr.heap.size wr (wr.drew.alloc (.cells #[.int .i64 0, .int .i64 0, .int .i64 0, .slice none 0 0, .slice none 0 0] 25)) := (below_dr wr).alloc (Nat.le_refl _) _
            have BZ2 : Blk (wr.drew.alloc (.cells #[.int .i64 0, .int .i64 0, .int .i64 0, .slice none 0 0, .slice none 0 0] 25)) wr.heap.size 25 #[.int .i64 0, .int .i64 0, .int .i64 0, .slice none 0 0, .slice none 0 0] := Blk.new_ wr.drew 25 #[.int .i64 0, .int .i64 0, .int .i64 0, .slice none 0 0, .slice none 0 0]
            have BZ3 : Blk (wr.alloc (.cells #[.int .i64 0, .int .i64 0, .int .i64 0, .slice none 0 0, .slice none 0 0] 25)).drew wr.heap.size 25 #[.int .i64 0, .int .i64 0, .int .i64 0, .slice none 0 0, .slice none 0 0] := drew_blk (Blk.new_ wr 25 #[.int .i64 0, .int .i64 0, .int .i64 0, .slice none 0 0, .slice none 0 0])
            have QP : wr.cell? ⟨w5.heap.size, 0, none⟩ = some (.int .i64 bi.nb) ∧ wr.cell? ⟨w5.heap.size, 1, none⟩ = some (.int .i64 bi.nn) ∧ wr.cell? ⟨w5.heap.size, 2, none⟩ = some (.int .i64 bi.ns) ∧ wr.cell? ⟨w5.heap.size, 3, none⟩ = some (.slice A9 bi.bs.length c9) ∧ wr.cell? ⟨w5.heap.size, 4, none⟩ = some (.slice A8 bi.ts.length c8) ∧ wr.cell? ⟨b1, o1 + i * 2, none⟩ = some (.int .i64 y.id) := ⟨k0, k1, k2, k3, k4, y0⟩
            have QA := keepQ QP (below_dr wr) B9.lt l2
            have QB := keepQ QA ((Below.refl wr.drew.heap.size wr.drew).alloc (Nat.le_refl _) (.cells #[.int .i64 0, .int .i64 0, .int .i64 0, .slice none 0 0, .slice none 0 0] 25)) B9.lt l2
            have QC := keepQ QP hAL B9.lt l2
            clear k0 k1 k2 k3 k4 y0 TB
            refine wp_region_noPanic ?_
            refine wp_region_held_drew (S := (fun w_ => w_.cell? ⟨w5.heap.size, 0, none⟩ = some (.int .i64 bi.nb) ∧ w_.cell? ⟨w5.heap.size, 1, none⟩ = some (.int .i64 bi.nn) ∧ w_.cell? ⟨w5.heap.size, 2, none⟩ = some (.int .i64 bi.ns) ∧ w_.cell? ⟨w5.heap.size, 3, none⟩ = some (.slice A9 bi.bs.length c9) ∧ w_.cell? ⟨w5.heap.size, 4, none⟩ = some (.slice A8 bi.ts.length c8) ∧ w_.cell? ⟨b1, o1 + i * 2, none⟩ = some (.int .i64 y.id))) (by kernel_rfl) ?_ (fun hHeld => ?_)
            · (first | with_reducible exact QA | with_reducible exact QB | with_reducible exact QC | with_reducible exact QD | with_reducible exact QE | with_reducible exact QF | exact QG)
            refine tk 0 ⟨some 59, .load 25 (.tmp 9), 25, "law.go:205", #[], none⟩ ?_; try simp only [Act.put, pz1, pz2, pz3]
            refine tk 1 ⟨some 60, .move (.tmp 7), 43, "law.go:205", #[], none⟩ ?_; try simp only [Act.put, pz1, pz2, pz3]
            refine tk 2 ⟨some 61, .move (.tmp 10), 3, "law.go:205", #[], none⟩ ?_; try simp only [Act.put, pz1, pz2, pz3]
            refine tk 3 ⟨some 62, .indexAddr 43 (.tmp 60) (.tmp 61), 0, "law.go:205", #[⟨1, .data⟩, ⟨2, .data⟩], none⟩ ?_; try simp only [Act.put, pz1, pz2, pz3]
            refine tk 4 ⟨some 63, .fieldAddr 48 (.tmp 62) 0, 0, "law.go:205", #[⟨3, .data⟩], none⟩ ?_; try simp only [Act.put, pz1, pz2, pz3]
            refine tk 5 ⟨some 64, .load 3 (.tmp 63), 3, "law.go:205", #[⟨4, .data⟩], none⟩ ?_; try simp only [Act.put, pz1, pz2, pz3]
            refine wpAnyH_ready (rs := [6, 10]) (by kernel_rfl) (by simp) ?_
            refine (AllReadyH.cons (o := ⟨some 65, .call { callee := .value (.func 17), args := #[.tmp 59, .tmp 64], argTypes := #[25, 3] }, 31, "law.go:205", #[⟨0, .data⟩, ⟨5, .data⟩], none⟩) rfl (fun K hK => ?_) (AllReadyH.cons (o := ⟨some 11, .alloc 25, 0, "law.go:205", #[], none⟩) rfl (fun K hK => ?_) AllReadyH.nil))
            · go_simp
              (go_at_call 17; (first | (with_reducible refine (disc_yes bi _ y.id _ SQ TQ HDI.out).mono ?_) | (with_reducible refine (disc_yes bi _ y.id _ SQ2 TQ2 HDI.out).mono ?_) | (with_reducible refine (disc_yes bi _ y.id _ SQ3 TQ3 HDI.out).mono ?_)); rintro e' w7 ⟨vj, rfl, hQj, b7⟩; rw [HBJ.out] at hQj; (obtain ⟨Aj, cj, Bj, dj, rfl, hBj, hNj, -, -, -, -⟩ := hQj.parts); first | ((have QD := keepQ QA b7 B9.lt l2); (have QE := keepQ QD ((Below.refl w7.heap.size w7).alloc (Nat.le_refl _) (.cells #[.int .i64 0, .int .i64 0, .int .i64 0, .slice none 0 0, .slice none 0 0] 25)) (Nat.lt_of_lt_of_le B9.lt b7.size) (Nat.lt_of_lt_of_le l2 b7.size)); (have QF := keepQ QD ((Below.refl w7.heap.size w7).alloc (Nat.le_refl _) (.cells #[.int .i64 bj.nb, .int .i64 bj.nn, .int .i64 bj.ns, .slice Aj bj.bs.length cj, .slice Bj bj.ts.length dj] 25)) (Nat.lt_of_lt_of_le B9.lt b7.size) (Nat.lt_of_lt_of_le l2 b7.size))) | ((have QD := keepQ QB b7 (by have := B9.lt; simp; omega) (by simp; omega)); (have B11 := BZ2.below b7 BZ2.lt); (have hb7 := (HZ2.trans (b7.mono HZ2.size))); (have r0 := B11.cell_ 0); (have t0 := B11.free 0); (have r1 := B11.cell_ 1); (have t1 := B11.free 1); (have r2 := B11.cell_ 2); (have t2 := B11.free 2); (have r3 := B11.cell_ 3); (have t3 := B11.free 3); (have r4 := B11.cell_ 4); (have t4 := B11.free 4); simp at r0 r1 r2 r3 r4; (have hbf := st5_below hb7 (Nat.le_refl wr.heap.size) 0 (.int .i64 bj.nb) (.int .i64 bj.nn) (.int .i64 bj.ns) (.slice Aj bj.bs.length cj) (.slice Bj bj.ts.length dj) hb7.size); (have QG := keepQ QP hbf B9.lt l2)) | ((have QD := keepQ QC b7 (by have := B9.lt; simp; omega) (by simp; omega)); (have B11 := BZ3.below b7 BZ3.lt); (have hb7 := (hAL.trans (b7.mono hAL.size))); (have r0 := B11.cell_ 0); (have t0 := B11.free 0); (have r1 := B11.cell_ 1); (have t1 := B11.free 1); (have r2 := B11.cell_ 2); (have t2 := B11.free 2); (have r3 := B11.cell_ 3); (have t3 := B11.free 3); (have r4 := B11.cell_ 4); (have t4 := B11.free 4); simp at r0 r1 r2 r3 r4; (have hbf := st5_below hb7 (Nat.le_refl wr.heap.size) 0 (.int .i64 bj.nb) (.int .i64 bj.nn) (.int .i64 bj.ns) (.slice Aj bj.bs.length cj) (.slice Bj bj.ts.length dj) hb7.size); (have QG := keepQ QP hbf B9.lt l2)))
              go_wp2_with fail
              refine hK.out _ _ ?_ (fun hNew => ?_)
              · (first | with_reducible exact QA | with_reducible exact QB | with_reducible exact QC | with_reducible exact QD | with_reducible exact QE | with_reducible exact QF | exact QG)
              clear hK K hHeld
              have hHeld := hNew
              clear hNew
              try simp only [Act.put, pz1, pz2, pz3]
              refine tk 7 ⟨some 58, .move (.tmp 65), 31, "law.go:205", #[⟨6, .data⟩], none⟩ ?_; try simp only [Act.put, pz1, pz2, pz3]
              refine tk 8 ⟨some 66, .extract (.tmp 58) 0, 25, "law.go:205", #[⟨7, .data⟩], none⟩ ?_; try simp only [Act.put, pz1, pz2, pz3]
              refine tk 9 ⟨some 67, .extract (.tmp 58) 1, 28, "law.go:205", #[⟨7, .data⟩, { on := 11, ground := Ground.gcOnly Departure.lateStores }], none⟩ ?_; try simp only [Act.put, pz1, pz2, pz3]
              refine wpAnyH_ready (rs := [10]) (by kernel_rfl) (by simp) ?_
              refine AllReadyH.cons (o := ⟨some 11, .alloc 25, 0, "law.go:205", #[], none⟩) rfl (fun K hK => ?_) AllReadyH.nil
              go_simp
              refine hK.out _ _ ?_ (fun hNew => ?_)
              · (first | with_reducible exact QA | with_reducible exact QB | with_reducible exact QC | with_reducible exact QD | with_reducible exact QE | with_reducible exact QF | exact QG)
              clear hK K hHeld
              have hHeld := hNew
              clear hNew
              try simp only [Act.put, pz1, pz2, pz3]
              refine wpAnyH_ready (rs := [11]) (by kernel_rfl) (by simp) ?_
              refine AllReadyH.cons (o := ⟨none, .store 25 (.tmp 11) (.tmp 66), 0, "law.go:205", #[⟨10, .data⟩, ⟨8, .data⟩, ⟨6, .chain⟩, ⟨0, .phase⟩, ⟨1, .phase⟩, ⟨2, .phase⟩, ⟨3, .phase⟩, ⟨4, .phase⟩, ⟨5, .phase⟩, ⟨6, .phase⟩, ⟨7, .phase⟩, ⟨8, .phase⟩, { on := 9, ground := Ground.textOnly Departure.lateStores }, ⟨10, .phase⟩], none⟩) rfl (fun K hK => ?_) AllReadyH.nil
              go_simp
              refine hK.out _ _ ?_ (fun hNew => ?_)
              · (first | with_reducible exact QA | with_reducible exact QB | with_reducible exact QC | with_reducible exact QD | with_reducible exact QE | with_reducible exact QF | exact QG)
              clear hK K hHeld
              have hHeld := hNew
              clear hNew
              try simp only [Act.put, pz1, pz2, pz3]
              refine tk 12 ⟨some 12, .assign (.tmp 67), 28, "law.go:205", #[⟨9, .data⟩, ⟨11, .chain⟩, ⟨0, .phase⟩, ⟨1, .phase⟩, ⟨2, .phase⟩, ⟨3, .phase⟩, ⟨4, .phase⟩, ⟨5, .phase⟩, ⟨6, .phase⟩, ⟨7, .phase⟩, ⟨8, .phase⟩, ⟨9, .phase⟩, ⟨10, .phase⟩, ⟨11, .phase⟩], none⟩ ?_; try simp only [Act.put, pz1, pz2, pz3]
              refine wpAnyH_done (by kernel_rfl) ?_ _
              refine NoPanic.normal ?_
              go_upto_region 12 with fail
              have hAJ : Below w7.heap.size w7 (w7.alloc (.cells #[.int .i64 bj.nb, .int .i64 bj.nn, .int .i64 bj.ns, .slice Aj bj.bs.length cj, .slice Bj bj.ts.length dj] 25)) := (Below.refl _ _).alloc (Nat.le_refl _) _
              have B11 : Blk (w7.alloc (.cells #[.int .i64 bj.nb, .int .i64 bj.nn, .int .i64 bj.ns, .slice Aj bj.bs.length cj, .slice Bj bj.ts.length dj] 25)) w7.heap.size 25 #[.int .i64 bj.nb, .int .i64 bj.nn, .int .i64 bj.ns, .slice Aj bj.bs.length cj, .slice Bj bj.ts.length dj] := Blk.new_ w7 25 #[.int .i64 bj.nb, .int .i64 bj.nn, .int .i64 bj.ns, .slice Aj bj.bs.length cj, .slice Bj bj.ts.length dj]
              have hbf : Below wr.heap.size wr (w7.alloc (.cells #[.int .i64 bj.nb, .int .i64 bj.nn, .int .i64 bj.ns, .slice Aj bj.bs.length cj, .slice Bj bj.ts.length dj] 25)) := (btr (below_dr wr) (below_dr wr).size b7).alloc (btr (below_dr wr) (below_dr wr).size b7).size _
              have hBf := hBj.below hAJ
              have hNf := hNj.below hAJ
              obtain ⟨wf, hwf⟩ : ∃ V : World, V = w7.alloc (.cells #[.int .i64 bj.nb, .int .i64 bj.nn, .int .i64 bj.ns, .slice Aj bj.bs.length cj, .slice Bj bj.ts.length dj] 25) := ⟨_, rfl⟩
              obtain ⟨g11, hg11⟩ : ∃ V : Nat, V = w7.heap.size := ⟨_, rfl⟩
              obtain ⟨gb, hgb⟩ : ∃ V : Nat, V = wr.drew.heap.size := ⟨_, rfl⟩
              have hlb : w5.heap.size < gb := by rw [hgb]; exact B9.lt
              have hl9 : w5.heap.size < g11 := by rw [hg11]; exact Nat.lt_of_lt_of_le B9.lt b7.size
              rw [← hwf, ← hg11] at B11
              rw [← hwf] at hbf
              rw [← hwf, ← hgb] at hBf hNf
              rw [← hwf, ← hg11]
              clear hwf hg11 hgb QP QA QB QC QD QE QF hHeld b7 SQ TQ SQ2 TQ2 SQ3 TQ3 hAL HZ2 BZ2 BZ3 hAJ hQj hBj hNj
              have hbw := btr hbr hbr.size hbf
              have B9f := B9.below hbf B9.lt
              have x0 := B11.cell_ 0
              have x1 := B11.cell_ 1
              have x2 := B11.cell_ 2
              have x3 := B11.cell_ 3
              have x4 := B11.cell_ 4
              have z0 := B9f.cell_ 0
              have z1 := B9f.cell_ 1
              have z2 := B9f.cell_ 2
              have z3 := B9f.cell_ 3
              have z4 := B9f.cell_ 4
              simp at x0 x1 x2 x3 x4 z0 z1 z2 z3 z4
              have t0 := B9f.free 0
              have t1 := B9f.free 1
              have t2 := B9f.free 2
              have t3 := B9f.free 3
              have t4 := B9f.free 4
              have hgW := st5_grown wf w5.heap.size 0 (.int .i64 bj.nb) (.int .i64 bj.nn) (.int .i64 bj.ns) (.slice Aj bj.bs.length cj) (.slice Bj bj.ts.length dj)
              have B9w := B9f.st5_ (.int .i64 bj.nb) (.int .i64 bj.nn) (.int .i64 bj.ns) (.slice Aj bj.bs.length cj) (.slice Bj bj.ts.length dj)
              have hBw := BksW.far hBf hgW hlb
              have hNw := hNf.far hgW hlb
              have hbW := below_grown hbw hgW (Nat.le_refl _) hbw.size
              have SW := (ShW.make hBw hNw).toR
              have HOUT : Hid (Blk (st5 wf w5.heap.size 0 (.int .i64 bj.nb) (.int .i64 bj.nn) (.int .i64 bj.ns) (.slice Aj bj.bs.length cj) (.slice Bj bj.ts.length dj)) w5.heap.size 25 #[.int .i64 bj.nb, .int .i64 bj.nn, .int .i64 bj.ns, .slice Aj bj.bs.length cj, .slice Bj bj.ts.length dj] ∧ ShR (st5 wf w5.heap.size 0 (.int .i64 bj.nb) (.int .i64 bj.nn) (.int .i64 bj.ns) (.slice Aj bj.bs.length cj) (.slice Bj bj.ts.length dj)) (st5 wf w5.heap.size 0 (.int .i64 bj.nb) (.int .i64 bj.nn) (.int .i64 bj.ns) (.slice Aj bj.bs.length cj) (.slice Bj bj.ts.length dj)).heap.size (.agg #[.int .i64 bj.nb, .int .i64 bj.nn, .int .i64 bj.ns, .slice Aj bj.bs.length cj, .slice Bj bj.ts.length dj]) bj ∧ Below w5.heap.size w5 (st5 wf w5.heap.size 0 (.int .i64 bj.nb) (.int .i64 bj.nn) (.int .i64 bj.ns) (.slice Aj bj.bs.length cj) (.slice Bj bj.ts.length dj))) := Lib.hid ⟨B9w, SW, hbW⟩
              clear hgW B9w hBw hNw hbW SW hBf hNf B9f B11 hbf hbw B9 SB hbr
              go_wp2_with fail
              go_roundw
              case rel => exact ⟨i + 1, bj, Aj, cj, Bj, dj, by omega, by go_num, HNX, HOUT.out.1, HOUT.out.2.1, HOUT.out.2.2⟩
              case measure => simp [intOf]; omega
            · go_simp
              refine hK.out _ _ ?_ (fun hNew => ?_)
              · (first | with_reducible exact QA | with_reducible exact QB | with_reducible exact QC | with_reducible exact QD | with_reducible exact QE | with_reducible exact QF | exact QG)
              clear hK K hHeld
              have hHeld := hNew
              clear hNew
              try simp only [Act.put, pz1, pz2, pz3]
              refine wpAnyH_ready (rs := [6]) (by kernel_rfl) (by simp) ?_
              refine AllReadyH.cons (o := ⟨some 65, .call { callee := .value (.func 17), args := #[.tmp 59, .tmp 64], argTypes := #[25, 3] }, 31, "law.go:205", #[⟨0, .data⟩, ⟨5, .data⟩], none⟩) rfl (fun K hK => ?_) AllReadyH.nil
              go_simp
              (go_at_call 17; (first | (with_reducible refine (disc_yes bi _ y.id _ SQ TQ HDI.out).mono ?_) | (with_reducible refine (disc_yes bi _ y.id _ SQ2 TQ2 HDI.out).mono ?_) | (with_reducible refine (disc_yes bi _ y.id _ SQ3 TQ3 HDI.out).mono ?_)); rintro e' w7 ⟨vj, rfl, hQj, b7⟩; rw [HBJ.out] at hQj; (obtain ⟨Aj, cj, Bj, dj, rfl, hBj, hNj, -, -, -, -⟩ := hQj.parts); first | ((have QD := keepQ QA b7 B9.lt l2); (have QE := keepQ QD ((Below.refl w7.heap.size w7).alloc (Nat.le_refl _) (.cells #[.int .i64 0, .int .i64 0, .int .i64 0, .slice none 0 0, .slice none 0 0] 25)) (Nat.lt_of_lt_of_le B9.lt b7.size) (Nat.lt_of_lt_of_le l2 b7.size)); (have QF := keepQ QD ((Below.refl w7.heap.size w7).alloc (Nat.le_refl _) (.cells #[.int .i64 bj.nb, .int .i64 bj.nn, .int .i64 bj.ns, .slice Aj bj.bs.length cj, .slice Bj bj.ts.length dj] 25)) (Nat.lt_of_lt_of_le B9.lt b7.size) (Nat.lt_of_lt_of_le l2 b7.size))) | ((have QD := keepQ QB b7 (by have := B9.lt; simp; omega) (by simp; omega)); (have B11 := BZ2.below b7 BZ2.lt); (have hb7 := (HZ2.trans (b7.mono HZ2.size))); (have r0 := B11.cell_ 0); (have t0 := B11.free 0); (have r1 := B11.cell_ 1); (have t1 := B11.free 1); (have r2 := B11.cell_ 2); (have t2 := B11.free 2); (have r3 := B11.cell_ 3); (have t3 := B11.free 3); (have r4 := B11.cell_ 4); (have t4 := B11.free 4); simp at r0 r1 r2 r3 r4; (have hbf := st5_below hb7 (Nat.le_refl wr.heap.size) 0 (.int .i64 bj.nb) (.int .i64 bj.nn) (.int .i64 bj.ns) (.slice Aj bj.bs.length cj) (.slice Bj bj.ts.length dj) hb7.size); (have QG := keepQ QP hbf B9.lt l2)) | ((have QD := keepQ QC b7 (by have := B9.lt; simp; omega) (by simp; omega)); (have B11 := BZ3.below b7 BZ3.lt); (have hb7 := (hAL.trans (b7.mono hAL.size))); (have r0 := B11.cell_ 0); (have t0 := B11.free 0); (have r1 := B11.cell_ 1); (have t1 := B11.free 1); (have r2 := B11.cell_ 2); (have t2 := B11.free 2); (have r3 := B11.cell_ 3); (have t3 := B11.free 3); (have r4 := B11.cell_ 4); (have t4 := B11.free 4); simp at r0 r1 r2 r3 r4; (have hbf := st5_below hb7 (Nat.le_refl wr.heap.size) 0 (.int .i64 bj.nb) (.int .i64 bj.nn) (.int .i64 bj.ns) (.slice Aj bj.bs.length cj) (.slice Bj bj.ts.length dj) hb7.size); (have QG := keepQ QP hbf B9.lt l2)))
              go_wp2_with fail
              refine hK.out _ _ ?_ (fun hNew => ?_)
              · (first | with_reducible exact QA | with_reducible exact QB | with_reducible exact QC | with_reducible exact QD | with_reducible exact QE | with_reducible exact QF | exact QG)
              clear hK K hHeld
              have hHeld := hNew
              clear hNew
              try simp only [Act.put, pz1, pz2, pz3]
              refine tk 7 ⟨some 58, .move (.tmp 65), 31, "law.go:205", #[⟨6, .data⟩], none⟩ ?_; try simp only [Act.put, pz1, pz2, pz3]
              refine tk 8 ⟨some 66, .extract (.tmp 58) 0, 25, "law.go:205", #[⟨7, .data⟩], none⟩ ?_; try simp only [Act.put, pz1, pz2, pz3]
              refine tk 9 ⟨some 67, .extract (.tmp 58) 1, 28, "law.go:205", #[⟨7, .data⟩, { on := 11, ground := Ground.gcOnly Departure.lateStores }], none⟩ ?_; try simp only [Act.put, pz1, pz2, pz3]
              refine wpAnyH_ready (rs := [11]) (by kernel_rfl) (by simp) ?_
              refine AllReadyH.cons (o := ⟨none, .store 25 (.tmp 11) (.tmp 66), 0, "law.go:205", #[⟨10, .data⟩, ⟨8, .data⟩, ⟨6, .chain⟩, ⟨0, .phase⟩, ⟨1, .phase⟩, ⟨2, .phase⟩, ⟨3, .phase⟩, ⟨4, .phase⟩, ⟨5, .phase⟩, ⟨6, .phase⟩, ⟨7, .phase⟩, ⟨8, .phase⟩, { on := 9, ground := Ground.textOnly Departure.lateStores }, ⟨10, .phase⟩], none⟩) rfl (fun K hK => ?_) AllReadyH.nil
              go_simp
              refine hK.out _ _ ?_ (fun hNew => ?_)
              · (first | with_reducible exact QA | with_reducible exact QB | with_reducible exact QC | with_reducible exact QD | with_reducible exact QE | with_reducible exact QF | exact QG)
              clear hK K hHeld
              have hHeld := hNew
              clear hNew
              try simp only [Act.put, pz1, pz2, pz3]
              refine tk 12 ⟨some 12, .assign (.tmp 67), 28, "law.go:205", #[⟨9, .data⟩, ⟨11, .chain⟩, ⟨0, .phase⟩, ⟨1, .phase⟩, ⟨2, .phase⟩, ⟨3, .phase⟩, ⟨4, .phase⟩, ⟨5, .phase⟩, ⟨6, .phase⟩, ⟨7, .phase⟩, ⟨8, .phase⟩, ⟨9, .phase⟩, ⟨10, .phase⟩, ⟨11, .phase⟩], none⟩ ?_; try simp only [Act.put, pz1, pz2, pz3]
              refine wpAnyH_done (by kernel_rfl) ?_ _
              refine NoPanic.normal ?_
              go_upto_region 12 with fail
              have B11f := B11.st5_ (.int .i64 bj.nb) (.int .i64 bj.nn) (.int .i64 bj.ns) (.slice Aj bj.bs.length cj) (.slice Bj bj.ts.length dj)
              have hgS := st5_grown w7 wr.heap.size 0 (.int .i64 bj.nb) (.int .i64 bj.nn) (.int .i64 bj.ns) (.slice Aj bj.bs.length cj) (.slice Bj bj.ts.length dj)
              have hBf : BksW (st5 w7 wr.heap.size 0 (.int .i64 bj.nb) (.int .i64 bj.nn) (.int .i64 bj.ns) (.slice Aj bj.bs.length cj) (.slice Bj bj.ts.length dj)) (wr.heap.size + 1) (.slice Aj bj.bs.length cj) bj.bs := BksW.far (BksW.base_ hBj (by simp)) hgS (Nat.lt_succ_self _)
              have hNf : NtsW (st5 w7 wr.heap.size 0 (.int .i64 bj.nb) (.int .i64 bj.nn) (.int .i64 bj.ns) (.slice Aj bj.bs.length cj) (.slice Bj bj.ts.length dj)) (wr.heap.size + 1) (.slice Bj bj.ts.length dj) bj.ts := NtsW.far (NtsW.base_ hNj (by simp)) hgS (Nat.lt_succ_self _)
              change Code.wp _ _ _ _ (st5 w7 wr.heap.size 0 (.int .i64 bj.nb) (.int .i64 bj.nn) (.int .i64 bj.ns) (.slice Aj bj.bs.length cj) (.slice Bj bj.ts.length dj))
              obtain ⟨wf, hwf⟩ : ∃ V : World, V = st5 w7 wr.heap.size 0 (.int .i64 bj.nb) (.int .i64 bj.nn) (.int .i64 bj.ns) (.slice Aj bj.bs.length cj) (.slice Bj bj.ts.length dj) := ⟨_, rfl⟩
              rw [← hwf] at B11f hbf hBf hNf ⊢
              clear B11
              have B11 := B11f
              obtain ⟨gb, hgb⟩ : ∃ V : Nat, V = wr.heap.size + 1 := ⟨_, rfl⟩
              have hlb : w5.heap.size < gb := by rw [hgb]; have := B9.lt; omega
              rw [← hgb] at hBf hNf
              obtain ⟨g11, hg11⟩ : ∃ V : Nat, V = wr.heap.size := ⟨_, rfl⟩
              rw [← hg11] at B11 ⊢
              clear hwf hg11 hgb B11f hgS QP QA QB QC QD QG hHeld b7 SQ TQ SQ2 TQ2 SQ3 TQ3 hAL HZ2 BZ2 BZ3 hQj hBj hNj hb7 r0 r1 r2 r3 r4 t0 t1 t2 t3 t4
              have hbw := btr hbr hbr.size hbf
              have B9f := B9.below hbf B9.lt
              have x0 := B11.cell_ 0
              have x1 := B11.cell_ 1
              have x2 := B11.cell_ 2
              have x3 := B11.cell_ 3
              have x4 := B11.cell_ 4
              have z0 := B9f.cell_ 0
              have z1 := B9f.cell_ 1
              have z2 := B9f.cell_ 2
              have z3 := B9f.cell_ 3
              have z4 := B9f.cell_ 4
              simp at x0 x1 x2 x3 x4 z0 z1 z2 z3 z4
              have t0 := B9f.free 0
              have t1 := B9f.free 1
              have t2 := B9f.free 2
              have t3 := B9f.free 3
              have t4 := B9f.free 4
              have hgW := st5_grown wf w5.heap.size 0 (.int .i64 bj.nb) (.int .i64 bj.nn) (.int .i64 bj.ns) (.slice Aj bj.bs.length cj) (.slice Bj bj.ts.length dj)
              have B9w := B9f.st5_ (.int .i64 bj.nb) (.int .i64 bj.nn) (.int .i64 bj.ns) (.slice Aj bj.bs.length cj) (.slice Bj bj.ts.length dj)
              have hBw := BksW.far hBf hgW hlb
              have hNw := hNf.far hgW hlb
              have hbW := below_grown hbw hgW (Nat.le_refl _) hbw.size
              have SW := (ShW.make hBw hNw).toR
              have HOUT : Hid (Blk (st5 wf w5.heap.size 0 (.int .i64 bj.nb) (.int .i64 bj.nn) (.int .i64 bj.ns) (.slice Aj bj.bs.length cj) (.slice Bj bj.ts.length dj)) w5.heap.size 25 #[.int .i64 bj.nb, .int .i64 bj.nn, .int .i64 bj.ns, .slice Aj bj.bs.length cj, .slice Bj bj.ts.length dj] ∧ ShR (st5 wf w5.heap.size 0 (.int .i64 bj.nb) (.int .i64 bj.nn) (.int .i64 bj.ns) (.slice Aj bj.bs.length cj) (.slice Bj bj.ts.length dj)) (st5 wf w5.heap.size 0 (.int .i64 bj.nb) (.int .i64 bj.nn) (.int .i64 bj.ns) (.slice Aj bj.bs.length cj) (.slice Bj bj.ts.length dj)).heap.size (.agg #[.int .i64 bj.nb, .int .i64 bj.nn, .int .i64 bj.ns, .slice Aj bj.bs.length cj, .slice Bj bj.ts.length dj]) bj ∧ Below w5.heap.size w5 (st5 wf w5.heap.size 0 (.int .i64 bj.nb) (.int .i64 bj.nn) (.int .i64 bj.ns) (.slice Aj bj.bs.length cj) (.slice Bj bj.ts.length dj))) := Lib.hid ⟨B9w, SW, hbW⟩
              clear hgW B9w hBw hNw hbW SW hBf hNf B9f B11 hbf hbw B9 SB hbr
              go_wp2_with fail
              go_roundw
              case rel => exact ⟨i + 1, bj, Aj, cj, Bj, dj, by omega, by go_num, HNX, HOUT.out.1, HOUT.out.2.1, HOUT.out.2.2⟩
              case measure => simp [intOf]; omega
          · have hil : i = l := by omega
            subst hil
            have hall : (its.map It.id).take i = its.map It.id := List.take_of_length_le (by rw [List.length_map, HLL.out]; exact Nat.le_refl _)
            have HDC2 : Hid (dropC bi x = 0) := Lib.hid (by rw [HBI.out, hall]; exact HD.out.last)
            have HSD2 : Hid (dropS bi x = sd) := Lib.hid (by rw [HBI.out, hall, ← HSD.out]; exact HD.out.same)
            have e1 : (s.ts.length : Int) - (i : Int) = (sd.ts.length : Int) := by have := HD.out.notes; rw [HSD.out, HLL.out] at this; omega
            have e2 : (s.bs.length : Int) - 1 = (sd.bs.length : Int) := by have := HD.out.books; rw [HSD.out] at this; omega
            have hsb : sd.bs.length ≤ 6 := by rw [← HSD.out]; exact Nat.le_trans (List.length_filter_le _ _) HMF.out.bl
            have hst : sd.ts.length ≤ 12 := by rw [← HSD.out]; exact Nat.le_trans (List.length_filter_le _ _) HMF.out.tl
            have HSM : Hid (∀ n ∈ sd.ts, n.tg.length ≤ 100000 ∧ n.sh.length ≤ 100000) := Lib.hid (fun n hn => by rw [← HSD.out] at hn; exact HMF.out.small n (List.mem_filter.1 hn).1)
            have TB := T1.next hbr
            have B1 := B1.below hbr B1.lt
            have SA := SA.next hbr
            have B5 := B5.below hbr B5.lt
            have HB := btr HB HB.size hbr
            have j0 := B1.cell_ 0
            have j1 := B1.cell_ 1
            have j2 := B1.cell_ 2
            have j3 := B1.cell_ 3
            have j4 := B1.cell_ 4
            have a0 := B5.cell_ 0
            have a1 := B5.cell_ 1
            have a2 := B5.cell_ 2
            have a3 := B5.cell_ 3
            have a4 := B5.cell_ 4
            simp at j0 j1 j2 j3 j4 a0 a1 a2 a3 a4
            clear hall hbr HBI HROW hl12 hi hlt S1 T1
            go_upto_region 16 with (go_at_call 10; ((with_reducible refine (drop_yes bi _ x _ SB TB HDC2.out).mono ?_); rintro e' w8 ⟨vd, rfl, hQd, b8⟩; rw [HSD2.out] at hQd; have SD := hQd.toR; (obtain ⟨Ad, cd, Bd, dd, rfl, -, -, -, -, -, -⟩ := hQd.parts); have SD := SD.next ((Below.refl _ w8).alloc (Nat.le_refl _) (.cells #[.int .i64 sd.nb, .int .i64 sd.nn, .int .i64 sd.ns, .slice Ad sd.bs.length cd, .slice Bd sd.ts.length dd] 25)); have BD : Blk (w8.alloc (.cells #[.int .i64 sd.nb, .int .i64 sd.nn, .int .i64 sd.ns, .slice Ad sd.bs.length cd, .slice Bd sd.ts.length dd] 25)) w8.heap.size 25 #[.int .i64 sd.nb, .int .i64 sd.nn, .int .i64 sd.ns, .slice Ad sd.bs.length cd, .slice Bd sd.ts.length dd] := Blk.new_ w8 25 #[.int .i64 sd.nb, .int .i64 sd.nn, .int .i64 sd.ns, .slice Ad sd.bs.length cd, .slice Bd sd.ts.length dd]; have bx := (b8.trans (Below.mono ((Below.refl w8.heap.size w8).alloc (Nat.le_refl _) (.cells #[.int .i64 sd.nb, .int .i64 sd.nn, .int .i64 sd.ns, .slice Ad sd.bs.length cd, .slice Bd sd.ts.length dd] 25)) b8.size)); clear hQd b8; have SA := SA.next bx; have TB := TB.next bx; have B1 := B1.below bx B1.lt; have B5 := B5.below bx B5.lt; have HB := btr HB HB.size bx; (try clear j0 j1 j2 j3 j4 a0 a1 a2 a3 a4); have j0 := B1.cell_ 0; have a0 := B5.cell_ 0; have j1 := B1.cell_ 1; have a1 := B5.cell_ 1; have j2 := B1.cell_ 2; have a2 := B5.cell_ 2; have j3 := B1.cell_ 3; have a3 := B5.cell_ 3; have j4 := B1.cell_ 4; have a4 := B5.cell_ 4; simp at j0 j1 j2 j3 j4 a0 a1 a2 a3 a4; clear bx))
            go_wp2_with (first | (go_at_call 12; ((with_reducible refine (sameShelf_yes sd _ _ _ SA SD (by omega) (by omega) HSM.out).mono ?_); rintro e' w9 ⟨rfl, bx⟩; have SA := SA.next bx; have TB := TB.next bx; have B1 := B1.below bx B1.lt; have B5 := B5.below bx B5.lt; have HB := btr HB HB.size bx; (try clear j0 j1 j2 j3 j4 a0 a1 a2 a3 a4); have j0 := B1.cell_ 0; have a0 := B5.cell_ 0; have j1 := B1.cell_ 1; have a1 := B5.cell_ 1; have j2 := B1.cell_ 2; have a2 := B5.cell_ 2; have j3 := B1.cell_ 3; have a3 := B5.cell_ 3; have j4 := B1.cell_ 4; have a4 := B5.cell_ 4; simp at j0 j1 j2 j3 j4 a0 a1 a2 a3 a4; clear bx)) | (go_at_call 8; ((with_reducible refine (awake_any _ TB).mono ?_); rintro e' wA ⟨rfl, bx⟩; have HB := btr HB HB.size bx)))
            go_ret
            exact ⟨rfl, HB⟩
  · skip
    go_enter Tryd.func5, Tryd.ntmps5
    go_wp2_with (first | (go_at_call 6; ((with_reducible refine (greatShelf_any s _ _ S1 _ HG.out).mono ?_); rintro e' w2 ⟨rfl, bx⟩; have S1 := S1.next bx; have T1 := T1.next bx; have B1 := B1.below bx B1.lt; have HB := btr HB HB.size bx; (try clear k0 k1 k2 k3 k4); have k0 := B1.cell_ 0; have k1 := B1.cell_ 1; have k2 := B1.cell_ 2; have k3 := B1.cell_ 3; have k4 := B1.cell_ 4; simp at k0 k1 k2 k3 k4; clear bx)) | (go_at_call 7; ((with_reducible refine (smay_any s _ _ S1 T1 _ HM.out).mono ?_); rintro e' w3 ⟨rfl, bx⟩; have S1 := S1.next bx; have T1 := T1.next bx; have B1 := B1.below bx B1.lt; have HB := btr HB HB.size bx; (try clear k0 k1 k2 k3 k4); have k0 := B1.cell_ 0; have k1 := B1.cell_ 1; have k2 := B1.cell_ 2; have k3 := B1.cell_ 3; have k4 := B1.cell_ 4; simp at k0 k1 k2 k3 k4; clear bx)) | (go_at_call 8; ((with_reducible refine (awake_any _ T1).mono ?_); rintro e' wA ⟨rfl, bx⟩; have HB := btr HB HB.size bx)))
    go_ret
    exact ⟨rfl, HB⟩
end Go.Proofs.YtokhapafpjejaaaDoor
namespace Go.Proofs.YtokhapafpjejaaaDoor
open Go.ChangeShapes Go.WideShapes Go.ChangeAt Go.RowKit
theorem acc_eq : Rows.laid_unicode_utf8_acceptRanges = Lib.acceptData := by kernel_rfl
theorem first_eq : Rows.laid_unicode_utf8_first = Lib.firstData := Pinned.utf8First_eq
def laidTabs : List (String × DataW Unit) := [("unicode/utf8.acceptRanges", Lib.acceptData), ("unicode/utf8.first", Lib.firstData)]
theorem laid_eq : [("unicode/utf8.acceptRanges", Rows.laid_unicode_utf8_acceptRanges), ("unicode/utf8.first", Rows.laid_unicode_utf8_first)] = laidTabs := by rw [acc_eq, first_eq]; rfl
noncomputable def laidWorld (os : Os) : World :=
  let w0 := World.holding Tryd.prog os ⟨#[], #[], []⟩
  let put (h : Array Obj) (g : Nat) (cs : Array Value) : Array Obj := h.modify g fun
    | .cells _ t frozen => .cells cs t frozen
    | o => o
  let h1 := put w0.heap 0 (Lib.firstTab.map fun z => Value.int .u8 z).toArray
  let h2 := put h1 1 ((List.range 16).flatMap fun i => [Value.int .u8 (Lib.accLo i), Value.int .u8 (Lib.accHi i)]).toArray
  { w0 with heap := h2 }
theorem noHandle (w : World) : laidMetH Tryd.prog laidTabs w ↔ laidMet Tryd.prog laidTabs w := by
  have e : (laidTabs.filter fun x => x.2.handleName?.isSome) = [] := by kernel_rfl
  unfold laidMetH
  rw [e]
theorem laid_met (os : Os) (args : Array Value) : laidMetH Tryd.prog [("unicode/utf8.acceptRanges", Rows.laid_unicode_utf8_acceptRanges), ("unicode/utf8.first", Rows.laid_unicode_utf8_first)] ((laidWorld os).forCall (fun _ _ => 0) ⟨#[], args, []⟩).memory := by
  rw [laid_eq, noHandle]
  exact (LaidIn.of_run (l := laidTabs) [0, 1] 8 (by kernel_rfl) (by kernel_rfl) (by kernel_rfl) (by kernel_rfl)).met
theorem tabs_of {W : World} (h : laidMetH Tryd.prog [("unicode/utf8.acceptRanges", Rows.laid_unicode_utf8_acceptRanges), ("unicode/utf8.first", Rows.laid_unicode_utf8_first)] W) : Tabs W := by
  rw [laid_eq, noHandle] at h
  exact utf8Tabs_of_readsT (U8Types.of196 Tryd.laysValid) ⟨by kernel_rfl, by kernel_rfl, by kernel_rfl, by kernel_rfl, by kernel_rfl, by kernel_rfl, by kernel_rfl⟩ (Lib.laidMet.reads h (.tail _ (.head _))) (Lib.laidMet.reads h (.head _))
end Go.Proofs.YtokhapafpjejaaaDoor
