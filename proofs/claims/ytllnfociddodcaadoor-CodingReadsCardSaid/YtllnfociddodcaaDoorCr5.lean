/- Chapter 17's own: may the books be? -/
import Derived.Test.YtllnfociddodcaaDoorCr4
set_option linter.unusedSimpArgs false
set_option linter.unusedVariables false
set_option maxRecDepth 100000
set_option maxHeartbeats 16000000
namespace Go.Proofs.YtllnfociddodcaaDoor
open Go.ChangeShapes Go.WideShapes Go.ChangeAt Go.RowKit
attribute [local go_sem ↓] Go.wp_at_zero Go.wp_at_succ
def prevOk (pre : List Bk) (b : Bk) : Bool := match pre.getLast? with
  | some p => decide (p.id < b.id)
  | none => true
def bkOk (s : Sf) : List Bk → List Bk → Bool
  | _, [] => true
  | pre, b :: l => decide (1 ≤ b.id) && (decide (b.id < s.nb) && (prevOk pre b && (mayN b.nm && (!pre.any (fun c => sameS c.nm b.nm) && bkOk s (pre ++ [b]) l))))
theorem bk_step {s : Sf} {i : Nat} {b : Bk} (h : s.bs[i]? = some b) : bkOk s (s.bs.take i) (s.bs.drop i) = (decide (1 ≤ b.id) && (decide (b.id < s.nb) && (prevOk (s.bs.take i) b && (mayN b.nm && (!(s.bs.take i).any (fun c => sameS c.nm b.nm) && bkOk s (s.bs.take (i + 1)) (s.bs.drop (i + 1))))))) := by
  have h1 : s.bs.take (i + 1) = s.bs.take i ++ [b] := by rw [List.take_add_one, h]; rfl
  rw [drop_next h, h1]
  rfl
theorem bk_end {s : Sf} {q : List Bk} : bkOk s q (s.bs.drop s.bs.length) = true := by
  rw [List.drop_length]
  rfl
theorem prevOk_at {s : Sf} {j : Nat} {p b : Bk} (h : s.bs[j]? = some p) : prevOk (s.bs.take (j + 1)) b = decide (p.id < b.id) := by
  have h1 : s.bs.take (j + 1) = s.bs.take j ++ [p] := by rw [List.take_add_one, h]; rfl
  unfold prevOk
  rw [h1]
  simp
def rbkB (s : Sf) : Bool := decide (s.bs.length ≤ 6) && (inI s.nb 1 65536 && bkOk s [] s.bs)
theorem rbooks_any (s : Sf) (v : Value) (w : World) (hS : ShR w w.heap.size v s) (hsz : ∀ b ∈ s.bs, b.nm.size ≤ 100000) (hlb : s.bs.length ≤ 100000) (T : Bool) (hB0 : rbkB s = T) :
    Calls Tryd.prog 41 #[v] w fun e' w' => e' = .returned (.bool T) ∧ Below w.heap.size w w' := by
  have hS0 := hS
  obtain ⟨Ab, cb, An, cn, rfl, hB, hN, hcb, hmb, hcn, hmn⟩ := hS.ex
  clear hS
  have HB : Below w.heap.size w (w.alloc (.cells #[.int .i64 s.nb, .int .i64 s.nn, .int .i64 s.ns, .slice Ab s.bs.length cb, .slice An s.ts.length cn] 25)) := ((Below.refl w.heap.size w).alloc (by first | (simp; done) | (simp; omega)) _)
  have B1 : Blk (w.alloc (.cells #[.int .i64 s.nb, .int .i64 s.nn, .int .i64 s.ns, .slice Ab s.bs.length cb, .slice An s.ts.length cn] 25)) w.heap.size 25 #[.int .i64 s.nb, .int .i64 s.nn, .int .i64 s.ns, .slice Ab s.bs.length cb, .slice An s.ts.length cn] := Blk.new_ w 25 #[.int .i64 s.nb, .int .i64 s.nn, .int .i64 s.ns, .slice Ab s.bs.length cb, .slice An s.ts.length cn]
  have HTB := Lib.hid hB0
  have HSZ := Lib.hid hsz
  obtain ⟨n, hn⟩ : ∃ n, s.bs.length = n := ⟨_, rfl⟩
  have hu : rbkB s = (decide (n ≤ 6) && (inI s.nb 1 65536 && bkOk s [] s.bs)) := by unfold rbkB; rw [hn]
  have HU := Lib.hid (hu.symm.trans hB0)
  have HN := Lib.hid hn
  rw [hn] at HB B1 hlb ⊢
  clear hN hcb hmb hcn hmn hS0 hB0 hsz hn hu HTB
  by_cases c0 : 6 < n
  · have g0 : (6 : Int) < (n : Int) := by omega
    have HTT : Hid (T = false) := Lib.hid (by rw [← HU.out, decide_eq_false (by omega : ¬ n ≤ 6)]; rfl)
    go_enter Tryd.func41, Tryd.ntmps41
    go_wp2_with fail
    go_ret
    exact ⟨by rw [HTT.out]; rfl, HB⟩
  · have g0 : ¬ (6 : Int) < (n : Int) := by omega
    by_cases c1 : s.nb < 1
    · have HTT : Hid (T = false) := Lib.hid (by rw [← HU.out]; unfold inI; rw [decide_eq_false (by omega : ¬ 1 ≤ s.nb)]; simp)
      go_enter Tryd.func41, Tryd.ntmps41
      go_wp2_with fail
      go_ret
      exact ⟨by rw [HTT.out]; rfl, HB⟩
    · by_cases c2 : 65536 < s.nb
      · have HTT : Hid (T = false) := Lib.hid (by rw [← HU.out]; unfold inI; rw [decide_eq_false (by omega : ¬ s.nb ≤ 65536)]; simp)
        go_enter Tryd.func41, Tryd.ntmps41
        go_wp2_with fail
        go_ret
        exact ⟨by rw [HTT.out]; rfl, HB⟩
      · have HT0 : Hid (bkOk s (s.bs.take 0) (s.bs.drop 0) = T) := Lib.hid (by rw [← HU.out, decide_eq_true (by omega : n ≤ 6), inI_of (by omega) (by omega)]; rfl)
        clear HU
        go_enter Tryd.func41, Tryd.ntmps41
        obtain ⟨W, hW⟩ : ∃ V : World, V = (w.alloc (.cells #[.int .i64 s.nb, .int .i64 s.nn, .int .i64 s.ns, .slice Ab n cb, .slice An s.ts.length cn] 25)) := ⟨_, rfl⟩
        rw [← hW] at HB B1
        go_upto_region 4 with fail
        rw [← hW]
        clear hW
        go_wp2_with fail
        go_loopw [3] (fun iv wr => ∃ i : Nat, i ≤ n ∧ iv = .int .i64 i ∧ Hid (bkOk s (s.bs.take i) (s.bs.drop i) = T) ∧ Below w.heap.size w wr ∧ Blk wr w.heap.size 25 #[.int .i64 s.nb, .int .i64 s.nn, .int .i64 s.ns, .slice Ab n cb, .slice An s.ts.length cn]) (fun iv _ => n - (intOf iv).toNat)
        case atStart => exact ⟨0, by omega, rfl, HT0, HB, B1⟩
        case round =>
          clear HT0 HB B1
          obtain ⟨i, hi, rfl, HI, HBr, C1⟩ := hrel
          obtain ⟨wo, hwo⟩ : ∃ V : World, V = wr := ⟨_, rfl⟩
          subst hwo
          have k0 := C1.cell_ 0
          have k3 := C1.cell_ 3
          simp at k0 k3
          by_cases hlt : i < n
          · have hlx : i < s.bs.length := by have := HN.out; omega
            obtain ⟨b, hx⟩ : ∃ x, s.bs[i]? = some x := ⟨_, List.getElem?_eq_getElem hlx⟩
            obtain ⟨b1, o1, rfl, l1, q1⟩ := SlE.at_ hB (by rw [List.length_map]; omega)
            have he : (s.bs.map bkC)[i]? = some (bkC b) := by rw [List.getElem?_map, hx]; rfl
            have y0 : wo.cell? ⟨b1, o1 + i * 2, none⟩ = some (.int .i64 b.id) := (HBr.cell (p := ⟨b1, _, none⟩) l1).trans (q1 i _ he 0 _ rfl)
            have y1 : wo.cell? ⟨b1, o1 + i * 2 + 1, none⟩ = some (.string b.nm) := (HBr.cell (p := ⟨b1, _, none⟩) l1).trans (q1 i _ he 1 _ rfl)
            have i0 : (0 : Int) ≤ (i : Int) := by omega
            have i1 : (i : Int) < (n : Int) := by omega
            have HST := Lib.hid (bk_step hx)
            have HQ1 := Lib.hid q1
            have HX := Lib.hid hx
            have hbs := HSZ.out b (List.mem_of_getElem? hx)
            have hAL : Below wo.heap.size wo (wo.alloc (.cells #[.int .i64 b.id, .string b.nm] 48)) := (Below.refl _ _).alloc (Nat.le_refl _) _
            have BX : Blk (wo.alloc (.cells #[.int .i64 b.id, .string b.nm] 48)) wo.heap.size 48 #[.int .i64 b.id, .string b.nm] := Blk.new_ wo 48 _
            have C2 := C1.below hAL C1.lt
            have HBa := btr HBr HBr.size hAL
            clear hx he q1 hlx
            go_upto_region 7 with fail
            obtain ⟨wa, hwa⟩ : ∃ V : World, V = wo.alloc (.cells #[.int .i64 b.id, .string b.nm] 48) := ⟨_, rfl⟩
            obtain ⟨gx, hgx⟩ : ∃ V : Nat, V = wo.heap.size := ⟨_, rfl⟩
            rw [← hwa, ← hgx] at BX
            rw [← hwa] at C2 HBa
            rw [← hwa, ← hgx]
            clear hwa hgx hAL y0 y1 k0 k3 C1 HBr
            have x0 := BX.cell_ 0
            have x1 := BX.cell_ 1
            have k0 := C2.cell_ 0
            have k3 := C2.cell_ 3
            simp at x0 x1 k0 k3
            by_cases d1 : b.id < 1
            · have HTT : Hid (T = false) := Lib.hid (by rw [← HI.out, HST.out, decide_eq_false (by omega : ¬ 1 ≤ b.id)]; rfl)
              have QD : wa.drew.cell? ⟨gx, 0, none⟩ = some (.int .i64 b.id) ∧ wa.drew.cell? ⟨gx, 1, none⟩ = some (.string b.nm) ∧ wa.drew.cell? ⟨w.heap.size, 0, none⟩ = some (.int .i64 s.nb) ∧ wa.drew.cell? ⟨w.heap.size, 3, none⟩ = some (.slice (some ⟨b1, o1, none⟩) n cb) := ⟨drew_cell x0, drew_cell x1, drew_cell k0, drew_cell k3⟩
              refine wp_region_noPanic ?_
              refine wp_region_held_drew (S := (fun w_ => w_.cell? ⟨gx, 0, none⟩ = some (.int .i64 b.id) ∧ w_.cell? ⟨gx, 1, none⟩ = some (.string b.nm) ∧ w_.cell? ⟨w.heap.size, 0, none⟩ = some (.int .i64 s.nb) ∧ w_.cell? ⟨w.heap.size, 3, none⟩ = some (.slice (some ⟨b1, o1, none⟩) n cb))) (by kernel_rfl) ?_ (fun hHeld => ?_)
              · (first | with_reducible exact QD | with_reducible assumption)
              refine tk 0 ?_; try simp only [Act.put, pz1, pz2, pz3]
              refine tk 1 ?_; try simp only [Act.put, pz1, pz2, pz3]
              refine tk 2 ?_; try simp only [Act.put, pz1, pz2, pz3]
              refine tk 3 ?_; try simp only [Act.put, pz1, pz2, pz3]
              refine tu 4 ?_
              try simp only [Act.put, pz1, pz2, pz3]
              refine tu 5 ?_
              try simp only [Act.put, pz1, pz2, pz3]
              refine tu 6 ?_
              try simp only [Act.put, pz1, pz2, pz3]
              refine tu 7 ?_
              try simp only [Act.put, pz1, pz2, pz3]
              refine tu 8 ?_
              try simp only [Act.put, pz1, pz2, pz3]
              refine tk 9 ?_; try simp only [Act.put, pz1, pz2, pz3]
              refine tk 10 ?_; try simp only [Act.put, pz1, pz2, pz3]
              refine tu 11 ?_
              try simp only [Act.put, pz1, pz2, pz3]
              refine tu 12 ?_
              try simp only [Act.put, pz1, pz2, pz3]
              refine tu 13 ?_
              try simp only [Act.put, pz1, pz2, pz3]
              refine tu 14 ?_
              try simp only [Act.put, pz1, pz2, pz3]
              refine tu 15 ?_
              try simp only [Act.put, pz1, pz2, pz3]
              refine tu 16 ?_
              try simp only [Act.put, pz1, pz2, pz3]
              refine tu 17 ?_
              try simp only [Act.put, pz1, pz2, pz3]
              refine tu 18 ?_
              try simp only [Act.put, pz1, pz2, pz3]
              refine tu 19 ?_
              try simp only [Act.put, pz1, pz2, pz3]
              refine tu 20 ?_
              try simp only [Act.put, pz1, pz2, pz3]
              refine tu 21 ?_
              try simp only [Act.put, pz1, pz2, pz3]
              refine tu 22 ?_
              try simp only [Act.put, pz1, pz2, pz3]
              refine tu 23 ?_
              try simp only [Act.put, pz1, pz2, pz3]
              refine tu 24 ?_
              try simp only [Act.put, pz1, pz2, pz3]
              refine tk 25 ?_; try simp only [Act.put, pz1, pz2, pz3]
              refine tk 26 ?_; try simp only [Act.put, pz1, pz2, pz3]
              refine tu 27 ?_
              try simp only [Act.put, pz1, pz2, pz3]
              refine tu 28 ?_
              try simp only [Act.put, pz1, pz2, pz3]
              refine tu 29 ?_
              try simp only [Act.put, pz1, pz2, pz3]
              refine tu 30 ?_
              try simp only [Act.put, pz1, pz2, pz3]
              refine tk 31 ?_; try simp only [Act.put, pz1, pz2, pz3]
              refine wpAnyH_done (by kernel_rfl) ?_ _
              refine NoPanic.normal ?_
              go_wp2_with fail
              go_ret
              exact ⟨by rw [HTT.out]; rfl, (by first | exact HBa | exact drew_below HBa)⟩
            · by_cases d2 : s.nb ≤ b.id
              · have HTT : Hid (T = false) := Lib.hid (by rw [← HI.out, HST.out, decide_eq_false (by omega : ¬ b.id < s.nb)]; simp)
                have QD : wa.drew.cell? ⟨gx, 0, none⟩ = some (.int .i64 b.id) ∧ wa.drew.cell? ⟨gx, 1, none⟩ = some (.string b.nm) ∧ wa.drew.cell? ⟨w.heap.size, 0, none⟩ = some (.int .i64 s.nb) ∧ wa.drew.cell? ⟨w.heap.size, 3, none⟩ = some (.slice (some ⟨b1, o1, none⟩) n cb) := ⟨drew_cell x0, drew_cell x1, drew_cell k0, drew_cell k3⟩
                refine wp_region_noPanic ?_
                refine wp_region_held_drew (S := (fun w_ => w_.cell? ⟨gx, 0, none⟩ = some (.int .i64 b.id) ∧ w_.cell? ⟨gx, 1, none⟩ = some (.string b.nm) ∧ w_.cell? ⟨w.heap.size, 0, none⟩ = some (.int .i64 s.nb) ∧ w_.cell? ⟨w.heap.size, 3, none⟩ = some (.slice (some ⟨b1, o1, none⟩) n cb))) (by kernel_rfl) ?_ (fun hHeld => ?_)
                · (first | with_reducible exact QD | with_reducible assumption)
                refine tk 0 ?_; try simp only [Act.put, pz1, pz2, pz3]
                refine tk 1 ?_; try simp only [Act.put, pz1, pz2, pz3]
                refine tk 2 ?_; try simp only [Act.put, pz1, pz2, pz3]
                refine tk 3 ?_; try simp only [Act.put, pz1, pz2, pz3]
                refine tk 4 ?_; try simp only [Act.put, pz1, pz2, pz3]
                refine tk 5 ?_; try simp only [Act.put, pz1, pz2, pz3]
                refine tk 6 ?_; try simp only [Act.put, pz1, pz2, pz3]
                refine tk 7 ?_; try simp only [Act.put, pz1, pz2, pz3]
                refine tk 8 ?_; try simp only [Act.put, pz1, pz2, pz3]
                refine tk 9 ?_; try simp only [Act.put, pz1, pz2, pz3]
                refine tk 10 ?_; try simp only [Act.put, pz1, pz2, pz3]
                refine tu 11 ?_
                try simp only [Act.put, pz1, pz2, pz3]
                refine tu 12 ?_
                try simp only [Act.put, pz1, pz2, pz3]
                refine tu 13 ?_
                try simp only [Act.put, pz1, pz2, pz3]
                refine tu 14 ?_
                try simp only [Act.put, pz1, pz2, pz3]
                refine tu 15 ?_
                try simp only [Act.put, pz1, pz2, pz3]
                refine tu 16 ?_
                try simp only [Act.put, pz1, pz2, pz3]
                refine tu 17 ?_
                try simp only [Act.put, pz1, pz2, pz3]
                refine tu 18 ?_
                try simp only [Act.put, pz1, pz2, pz3]
                refine tu 19 ?_
                try simp only [Act.put, pz1, pz2, pz3]
                refine tu 20 ?_
                try simp only [Act.put, pz1, pz2, pz3]
                refine tu 21 ?_
                try simp only [Act.put, pz1, pz2, pz3]
                refine tu 22 ?_
                try simp only [Act.put, pz1, pz2, pz3]
                refine tu 23 ?_
                try simp only [Act.put, pz1, pz2, pz3]
                refine tu 24 ?_
                try simp only [Act.put, pz1, pz2, pz3]
                refine tk 25 ?_; try simp only [Act.put, pz1, pz2, pz3]
                refine tk 26 ?_; try simp only [Act.put, pz1, pz2, pz3]
                refine tu 27 ?_
                try simp only [Act.put, pz1, pz2, pz3]
                refine tu 28 ?_
                try simp only [Act.put, pz1, pz2, pz3]
                refine tu 29 ?_
                try simp only [Act.put, pz1, pz2, pz3]
                refine tu 30 ?_
                try simp only [Act.put, pz1, pz2, pz3]
                refine tk 31 ?_; try simp only [Act.put, pz1, pz2, pz3]
                refine wpAnyH_done (by kernel_rfl) ?_ _
                refine NoPanic.normal ?_
                go_wp2_with fail
                go_ret
                exact ⟨by rw [HTT.out]; rfl, (by first | exact HBa | exact drew_below HBa)⟩
              · obtain ⟨N, hNm⟩ : ∃ N, mayN b.nm = N := ⟨_, rfl⟩
                have HNM : Hid (nameB b.nm.data.toList = N) := Lib.hid hNm
                have HN2 := Lib.hid hNm
                clear hNm
                rcases (by omega : i = 0 ∨ 0 < i) with hi0 | hi0
                · have hdz : decide (0 < i) = false := decide_eq_false (by omega)
                  have HPO : Hid (prevOk (s.bs.take i) b = true) := Lib.hid (by subst hi0; rfl)
                  have QD : wa.drew.cell? ⟨gx, 0, none⟩ = some (.int .i64 b.id) ∧ wa.drew.cell? ⟨gx, 1, none⟩ = some (.string b.nm) ∧ wa.drew.cell? ⟨w.heap.size, 0, none⟩ = some (.int .i64 s.nb) ∧ wa.drew.cell? ⟨w.heap.size, 3, none⟩ = some (.slice (some ⟨b1, o1, none⟩) n cb) := ⟨drew_cell x0, drew_cell x1, drew_cell k0, drew_cell k3⟩
                  clear hi0
                  cases N
                  · have HTT : Hid (T = false) := Lib.hid (by rw [← HI.out, HST.out, HN2.out]; simp)
                    refine wp_region_noPanic ?_
                    refine wp_region_held_drew (S := (fun w_ => w_.cell? ⟨gx, 0, none⟩ = some (.int .i64 b.id) ∧ w_.cell? ⟨gx, 1, none⟩ = some (.string b.nm) ∧ w_.cell? ⟨w.heap.size, 0, none⟩ = some (.int .i64 s.nb) ∧ w_.cell? ⟨w.heap.size, 3, none⟩ = some (.slice (some ⟨b1, o1, none⟩) n cb))) (by kernel_rfl) ?_ (fun hHeld => ?_)
                    · (first | with_reducible exact QD | with_reducible assumption)
                    refine tk 0 ?_; try simp only [Act.put, pz1, pz2, pz3]
                    refine tk 1 ?_; try simp only [Act.put, pz1, pz2, pz3]
                    refine tk 2 ?_; try simp only [Act.put, pz1, pz2, pz3]
                    refine tk 3 ?_; try simp only [Act.put, pz1, pz2, pz3]
                    refine tk 4 ?_; try simp only [Act.put, pz1, pz2, pz3]
                    refine tk 5 ?_; try simp only [Act.put, pz1, pz2, pz3]
                    refine tk 6 ?_; try simp only [Act.put, pz1, pz2, pz3]
                    refine tk 7 ?_; try simp only [Act.put, pz1, pz2, pz3]
                    refine tk 8 ?_; try simp only [Act.put, pz1, pz2, pz3]
                    refine tk 9 ?_; try simp only [Act.put, pz1, pz2, pz3]
                    refine tk 10 ?_; try simp only [Act.put, pz1, pz2, pz3]
                    refine tk 11 ?_; try simp only [Act.put, pz1, pz2, pz3]
                    refine tk 12 ?_; try simp only [Act.put, pz1, pz2, pz3]
                    refine tk 13 ?_; try simp only [Act.put, pz1, pz2, pz3]
                    refine tu 14 ?_
                    try simp only [Act.put, pz1, pz2, pz3]
                    refine tu 15 ?_
                    try simp only [Act.put, pz1, pz2, pz3]
                    refine tu 16 ?_
                    try simp only [Act.put, pz1, pz2, pz3]
                    refine tu 17 ?_
                    try simp only [Act.put, pz1, pz2, pz3]
                    refine tu 18 ?_
                    try simp only [Act.put, pz1, pz2, pz3]
                    refine tu 19 ?_
                    try simp only [Act.put, pz1, pz2, pz3]
                    refine tu 20 ?_
                    try simp only [Act.put, pz1, pz2, pz3]
                    refine tu 21 ?_
                    try simp only [Act.put, pz1, pz2, pz3]
                    refine tu 22 ?_
                    try simp only [Act.put, pz1, pz2, pz3]
                    refine tu 23 ?_
                    try simp only [Act.put, pz1, pz2, pz3]
                    refine tk 24 ?_; try simp only [Act.put, pz1, pz2, pz3]
                    refine tk 25 ?_; try simp only [Act.put, pz1, pz2, pz3]
                    refine tk 26 ?_; try simp only [Act.put, pz1, pz2, pz3]
                    refine tk 27 ?_; try simp only [Act.put, pz1, pz2, pz3]
                    refine tk 28 ?_; try simp only [Act.put, pz1, pz2, pz3]
                    refine wpAnyH_ready (rs := [29]) (by kernel_rfl) (by simp) ?_
                    refine AllReadyH.cons (o := ⟨some 61, .call { callee := .value (.func 51), args := #[.tmp 60], argTypes := #[9] }, 4, "ref.go:16", #[⟨28, .data⟩, ⟨26, .chain⟩, ⟨26, .guard⟩], some (26, false)⟩) rfl (fun K hK => ?_) AllReadyH.nil
                    go_simp
                    (go_at_call 51; ((with_reducible refine (rmay_any3 b.nm _ _ hbs HNM.out).mono ?_); rintro e' wN ⟨rfl, rfl⟩))
                    go_wp2_with fail
                    refine hK.out _ _ ?_ (fun hNew => ?_)
                    · (first | with_reducible exact QD | with_reducible assumption)
                    clear hK K hHeld
                    have hHeld := hNew
                    clear hNew
                    try simp only [Act.put, pz1, pz2, pz3]
                    refine tk 30 ?_; try simp only [Act.put, pz1, pz2, pz3]
                    refine tk 31 ?_; try simp only [Act.put, pz1, pz2, pz3]
                    refine wpAnyH_done (by kernel_rfl) ?_ _
                    refine NoPanic.normal ?_
                    go_wp2_with fail
                    go_ret
                    exact ⟨by rw [HTT.out]; rfl, (by first | exact HBa | exact drew_below HBa)⟩
                  · skip
                    refine wp_region_noPanic ?_
                    refine wp_region_held_drew (S := (fun w_ => w_.cell? ⟨gx, 0, none⟩ = some (.int .i64 b.id) ∧ w_.cell? ⟨gx, 1, none⟩ = some (.string b.nm) ∧ w_.cell? ⟨w.heap.size, 0, none⟩ = some (.int .i64 s.nb) ∧ w_.cell? ⟨w.heap.size, 3, none⟩ = some (.slice (some ⟨b1, o1, none⟩) n cb))) (by kernel_rfl) ?_ (fun hHeld => ?_)
                    · (first | with_reducible exact QD | with_reducible assumption)
                    refine tk 0 ?_; try simp only [Act.put, pz1, pz2, pz3]
                    refine tk 1 ?_; try simp only [Act.put, pz1, pz2, pz3]
                    refine tk 2 ?_; try simp only [Act.put, pz1, pz2, pz3]
                    refine tk 3 ?_; try simp only [Act.put, pz1, pz2, pz3]
                    refine tk 4 ?_; try simp only [Act.put, pz1, pz2, pz3]
                    refine tk 5 ?_; try simp only [Act.put, pz1, pz2, pz3]
                    refine tk 6 ?_; try simp only [Act.put, pz1, pz2, pz3]
                    refine tk 7 ?_; try simp only [Act.put, pz1, pz2, pz3]
                    refine tk 8 ?_; try simp only [Act.put, pz1, pz2, pz3]
                    refine tk 9 ?_; try simp only [Act.put, pz1, pz2, pz3]
                    refine tk 10 ?_; try simp only [Act.put, pz1, pz2, pz3]
                    refine tk 11 ?_; try simp only [Act.put, pz1, pz2, pz3]
                    refine tk 12 ?_; try simp only [Act.put, pz1, pz2, pz3]
                    refine tk 13 ?_; try simp only [Act.put, pz1, pz2, pz3]
                    refine tu 14 ?_
                    try simp only [Act.put, pz1, pz2, pz3]
                    refine tu 15 ?_
                    try simp only [Act.put, pz1, pz2, pz3]
                    refine tu 16 ?_
                    try simp only [Act.put, pz1, pz2, pz3]
                    refine tu 17 ?_
                    try simp only [Act.put, pz1, pz2, pz3]
                    refine tu 18 ?_
                    try simp only [Act.put, pz1, pz2, pz3]
                    refine tu 19 ?_
                    try simp only [Act.put, pz1, pz2, pz3]
                    refine tu 20 ?_
                    try simp only [Act.put, pz1, pz2, pz3]
                    refine tu 21 ?_
                    try simp only [Act.put, pz1, pz2, pz3]
                    refine tu 22 ?_
                    try simp only [Act.put, pz1, pz2, pz3]
                    refine tu 23 ?_
                    try simp only [Act.put, pz1, pz2, pz3]
                    refine tk 24 ?_; try simp only [Act.put, pz1, pz2, pz3]
                    refine tk 25 ?_; try simp only [Act.put, pz1, pz2, pz3]
                    refine tk 26 ?_; try simp only [Act.put, pz1, pz2, pz3]
                    refine tk 27 ?_; try simp only [Act.put, pz1, pz2, pz3]
                    refine tk 28 ?_; try simp only [Act.put, pz1, pz2, pz3]
                    refine wpAnyH_ready (rs := [29]) (by kernel_rfl) (by simp) ?_
                    refine AllReadyH.cons (o := ⟨some 61, .call { callee := .value (.func 51), args := #[.tmp 60], argTypes := #[9] }, 4, "ref.go:16", #[⟨28, .data⟩, ⟨26, .chain⟩, ⟨26, .guard⟩], some (26, false)⟩) rfl (fun K hK => ?_) AllReadyH.nil
                    go_simp
                    (go_at_call 51; ((with_reducible refine (rmay_any3 b.nm _ _ hbs HNM.out).mono ?_); rintro e' wN ⟨rfl, rfl⟩))
                    go_wp2_with fail
                    refine hK.out _ _ ?_ (fun hNew => ?_)
                    · (first | with_reducible exact QD | with_reducible assumption)
                    clear hK K hHeld
                    have hHeld := hNew
                    clear hNew
                    try simp only [Act.put, pz1, pz2, pz3]
                    refine tk 30 ?_; try simp only [Act.put, pz1, pz2, pz3]
                    refine tk 31 ?_; try simp only [Act.put, pz1, pz2, pz3]
                    refine wpAnyH_done (by kernel_rfl) ?_ _
                    refine NoPanic.normal ?_
                    go_wp2_with fail
                    obtain ⟨wn, hwn⟩ : ∃ V : World, V = wa.drew := ⟨_, rfl⟩
                    have hDn := below_dr wa
                    rw [← hwn] at hDn ⊢
                    have HBn := btr HBa HBa.size hDn
                    have BXn := BX.below hDn BX.lt
                    have Cn := C2.below hDn C2.lt
                    clear hwn hDn QD x0 x1 k0 k3 HBa BX C2
                    have H0 : Hid ((s.bs.take 0).any (fun c => sameS c.nm b.nm) = false) := Lib.hid rfl
                    go_loopw [5] (fun kv wr => ∃ k : Nat, k ≤ i ∧ kv = .int .i64 k ∧ Hid ((s.bs.take k).any (fun c => sameS c.nm b.nm) = false) ∧ Below w.heap.size w wr ∧ Below wn.heap.size wn wr) (fun kv _ => i - (intOf kv).toNat)
                    case atStart => exact ⟨0, by omega, rfl, H0, HBn, Below.refl _ _⟩
                    case round =>
                      clear H0 HBn
                      obtain ⟨k, hk, rfl, HZ, HBq, hbq⟩ := hrel
                      by_cases hlk : k < i
                      · obtain ⟨z, hz⟩ : ∃ z, s.bs[k]? = some z := ⟨_, List.getElem?_eq_getElem (by have := HN.out; omega)⟩
                        have hez : (s.bs.map bkC)[k]? = some (bkC z) := by rw [List.getElem?_map, hz]; rfl
                        have cz : wr.cell? ⟨b1, o1 + k * 2 + 1, none⟩ = some (.string z.nm) := (HBq.cell (p := ⟨b1, _, none⟩) l1).trans (HQ1.out k _ hez 1 _ rfl)
                        have BXq := BXn.below hbq BXn.lt
                        have Cq := Cn.below hbq Cn.lt
                        have x1 := BXq.cell_ 1
                        have k3 := Cq.cell_ 3
                        simp at x1 k3
                        have HZK := Lib.hid hz
                        have n0 : (0 : Int) ≤ (k : Int) := by omega
                        have n1 : (k : Int) < (i : Int) := by omega
                        have n2 : (k : Int) < (n : Int) := by omega
                        have QE : wr.drew.cell? ⟨w.heap.size, 3, none⟩ = some (.slice (some ⟨b1, o1, none⟩) n cb) ∧ wr.drew.cell? ⟨b1, o1 + k * 2 + 1, none⟩ = some (.string z.nm) ∧ wr.drew.cell? ⟨gx, 1, none⟩ = some (.string b.nm) := ⟨drew_cell k3, drew_cell cz, drew_cell x1⟩
                        clear hz hez cz x1 k3
                        go_upto_region 12 with fail
                        rcases (by cases hq : (z.nm.toList == b.nm.toList) <;> simp : (z.nm.toList == b.nm.toList) = true ∨ (z.nm.toList == b.nm.toList) = false) with hp | hp
                        · have HTT : Hid (T = false) := Lib.hid (by rw [← HI.out, HST.out, List.any_eq_true.2 ⟨z, List.mem_take_iff_getElem.2 ⟨k, by have := HN.out; omega, (List.getElem?_eq_some_iff.1 HZK.out).2⟩, (show sameS z.nm b.nm = true from hp)⟩]; simp)
                          refine wp_region_noPanic ?_
                          refine wp_region_held_drew (S := (fun w_ => w_.cell? ⟨w.heap.size, 3, none⟩ = some (.slice (some ⟨b1, o1, none⟩) n cb) ∧ w_.cell? ⟨b1, o1 + k * 2 + 1, none⟩ = some (.string z.nm) ∧ w_.cell? ⟨gx, 1, none⟩ = some (.string b.nm))) (by kernel_rfl) ?_ (fun hHeld => ?_)
                          · (first | with_reducible exact QE | with_reducible assumption)
                          refine tk 0 ?_; try simp only [Act.put, pz1, pz2, pz3]
                          refine tk 1 ?_; try simp only [Act.put, pz1, pz2, pz3]
                          refine tk 2 ?_; try simp only [Act.put, pz1, pz2, pz3]
                          refine tk 3 ?_; try simp only [Act.put, pz1, pz2, pz3]
                          refine tk 4 ?_; try simp only [Act.put, pz1, pz2, pz3]
                          refine tk 5 ?_; try simp only [Act.put, pz1, pz2, pz3]
                          refine tk 6 ?_; try simp only [Act.put, pz1, pz2, pz3]
                          refine tk 7 ?_; try simp only [Act.put, pz1, pz2, pz3]
                          refine tk 8 ?_; try simp only [Act.put, pz1, pz2, pz3]
                          refine wpAnyH_done (by kernel_rfl) ?_ _
                          refine NoPanic.normal ?_
                          go_wp2_with fail
                          go_ret
                          exact ⟨by rw [HTT.out]; rfl, (by first | exact HBq | exact drew_below HBq)⟩
                        · have HZX : Hid ((fun c : Bk => sameS c.nm b.nm) z = false) := Lib.hid hp
                          refine wp_region_noPanic ?_
                          refine wp_region_held_drew (S := (fun w_ => w_.cell? ⟨w.heap.size, 3, none⟩ = some (.slice (some ⟨b1, o1, none⟩) n cb) ∧ w_.cell? ⟨b1, o1 + k * 2 + 1, none⟩ = some (.string z.nm) ∧ w_.cell? ⟨gx, 1, none⟩ = some (.string b.nm))) (by kernel_rfl) ?_ (fun hHeld => ?_)
                          · (first | with_reducible exact QE | with_reducible assumption)
                          refine tk 0 ?_; try simp only [Act.put, pz1, pz2, pz3]
                          refine tk 1 ?_; try simp only [Act.put, pz1, pz2, pz3]
                          refine tk 2 ?_; try simp only [Act.put, pz1, pz2, pz3]
                          refine tk 3 ?_; try simp only [Act.put, pz1, pz2, pz3]
                          refine tk 4 ?_; try simp only [Act.put, pz1, pz2, pz3]
                          refine tk 5 ?_; try simp only [Act.put, pz1, pz2, pz3]
                          refine tk 6 ?_; try simp only [Act.put, pz1, pz2, pz3]
                          refine tk 7 ?_; try simp only [Act.put, pz1, pz2, pz3]
                          refine tk 8 ?_; try simp only [Act.put, pz1, pz2, pz3]
                          refine wpAnyH_done (by kernel_rfl) ?_ _
                          refine NoPanic.normal ?_
                          go_wp2_with fail
                          go_roundw
                          case rel => exact ⟨k + 1, by omega, by go_num, Lib.hid (any_next HZ.out HZK.out HZX.out), (by first | exact HBq | exact drew_below HBq), (by first | exact hbq | exact drew_below hbq)⟩
                          case measure => simp [intOf]; omega
                      · have hki : k = i := by omega
                        subst hki
                        have HNX : Hid (bkOk s (s.bs.take (k + 1)) (s.bs.drop (k + 1)) = T) := Lib.hid (by rw [← HI.out, HST.out, HN2.out, HZ.out, HPO.out, decide_eq_true (by omega : 1 ≤ b.id), decide_eq_true (by omega : b.id < s.nb)]; rfl)
                        have Cq := Cn.below hbq Cn.lt
                        go_wp2_with fail
                        go_roundw
                        case rel => exact ⟨k + 1, by omega, by go_num, HNX, HBq, Cq⟩
                        case measure => simp [intOf]; omega
                · obtain ⟨j, hj⟩ : ∃ j, i = j + 1 := ⟨i - 1, by omega⟩
                  obtain ⟨p, hp0⟩ : ∃ p, s.bs[j]? = some p := ⟨_, List.getElem?_eq_getElem (by have := HN.out; omega)⟩
                  have hep : (s.bs.map bkC)[j]? = some (bkC p) := by rw [List.getElem?_map, hp0]; rfl
                  have yp0 := HQ1.out j _ hep 0 _ rfl
                  simp only [Nat.add_zero] at yp0
                  have yp := (HBa.cell (p := ⟨b1, _, none⟩) l1).trans yp0
                  have HPO : Hid (prevOk (s.bs.take i) b = decide (p.id < b.id)) := Lib.hid (by rw [hj]; exact prevOk_at hp0)
                  have j00 : (0 : Int) ≤ (j : Int) := by omega
                  have j01 : (j : Int) < (n : Int) := by omega
                  have jsub : (i : Int) - 1 = (j : Int) := by omega
                  have jwr : IntKind.i64.wrap (j : Int) = (j : Int) := wrapS _ (by omega) (by omega)
                  have QD : wa.drew.cell? ⟨gx, 0, none⟩ = some (.int .i64 b.id) ∧ wa.drew.cell? ⟨gx, 1, none⟩ = some (.string b.nm) ∧ wa.drew.cell? ⟨w.heap.size, 0, none⟩ = some (.int .i64 s.nb) ∧ wa.drew.cell? ⟨w.heap.size, 3, none⟩ = some (.slice (some ⟨b1, o1, none⟩) n cb) ∧ wa.drew.cell? ⟨b1, o1 + j * 2, none⟩ = some (.int .i64 p.id) := ⟨drew_cell x0, drew_cell x1, drew_cell k0, drew_cell k3, drew_cell yp⟩
                  clear hj hp0 hep yp0 yp
                  by_cases d3 : b.id ≤ p.id
                  · have HTT : Hid (T = false) := Lib.hid (by rw [← HI.out, HST.out, HPO.out, decide_eq_false (by omega : ¬ p.id < b.id)]; simp)
                    refine wp_region_noPanic ?_
                    refine wp_region_held_drew (S := (fun w_ => w_.cell? ⟨gx, 0, none⟩ = some (.int .i64 b.id) ∧ w_.cell? ⟨gx, 1, none⟩ = some (.string b.nm) ∧ w_.cell? ⟨w.heap.size, 0, none⟩ = some (.int .i64 s.nb) ∧ w_.cell? ⟨w.heap.size, 3, none⟩ = some (.slice (some ⟨b1, o1, none⟩) n cb) ∧ w_.cell? ⟨b1, o1 + j * 2, none⟩ = some (.int .i64 p.id))) (by kernel_rfl) ?_ (fun hHeld => ?_)
                    · (first | with_reducible exact QD | with_reducible assumption)
                    refine tk 0 ?_; try simp only [Act.put, pz1, pz2, pz3]
                    refine tk 1 ?_; try simp only [Act.put, pz1, pz2, pz3]
                    refine tk 2 ?_; try simp only [Act.put, pz1, pz2, pz3]
                    refine tk 3 ?_; try simp only [Act.put, pz1, pz2, pz3]
                    refine tk 4 ?_; try simp only [Act.put, pz1, pz2, pz3]
                    refine tk 5 ?_; try simp only [Act.put, pz1, pz2, pz3]
                    refine tk 6 ?_; try simp only [Act.put, pz1, pz2, pz3]
                    refine tk 7 ?_; try simp only [Act.put, pz1, pz2, pz3]
                    refine tk 8 ?_; try simp only [Act.put, pz1, pz2, pz3]
                    refine tk 9 ?_; try simp only [Act.put, pz1, pz2, pz3]
                    refine tk 10 ?_; try simp only [Act.put, pz1, pz2, pz3]
                    refine tk 11 ?_; try simp only [Act.put, pz1, pz2, pz3]
                    refine tk 12 ?_; try simp only [Act.put, pz1, pz2, pz3]
                    refine tk 13 ?_; try simp only [Act.put, pz1, pz2, pz3]
                    refine tk 14 ?_; try simp only [Act.put, pz1, pz2, pz3]
                    refine tk 15 ?_; try simp only [Act.put, pz1, pz2, pz3]
                    refine tk 16 ?_; try simp only [Act.put, pz1, pz2, pz3]
                    refine tk 17 ?_; try simp only [Act.put, pz1, pz2, pz3]
                    refine tk 18 ?_; try simp only [Act.put, pz1, pz2, pz3]
                    refine tk 19 ?_; try simp only [Act.put, pz1, pz2, pz3]
                    refine tk 20 ?_; try simp only [Act.put, pz1, pz2, pz3]
                    refine tk 21 ?_; try simp only [Act.put, pz1, pz2, pz3]
                    refine tk 22 ?_; try simp only [Act.put, pz1, pz2, pz3]
                    refine tk 23 ?_; try simp only [Act.put, pz1, pz2, pz3]
                    refine tk 24 ?_; try simp only [Act.put, pz1, pz2, pz3]
                    refine tk 25 ?_; try simp only [Act.put, pz1, pz2, pz3]
                    refine tk 26 ?_; try simp only [Act.put, pz1, pz2, pz3]
                    refine tu 27 ?_
                    try simp only [Act.put, pz1, pz2, pz3]
                    refine tu 28 ?_
                    try simp only [Act.put, pz1, pz2, pz3]
                    refine tu 29 ?_
                    try simp only [Act.put, pz1, pz2, pz3]
                    refine tu 30 ?_
                    try simp only [Act.put, pz1, pz2, pz3]
                    refine tk 31 ?_; try simp only [Act.put, pz1, pz2, pz3]
                    refine wpAnyH_done (by kernel_rfl) ?_ _
                    refine NoPanic.normal ?_
                    go_wp2_with fail
                    go_ret
                    exact ⟨by rw [HTT.out]; rfl, (by first | exact HBa | exact drew_below HBa)⟩
                  · have HPT : Hid (prevOk (s.bs.take i) b = true) := Lib.hid (by rw [HPO.out]; exact decide_eq_true (by omega))
                    clear HPO
                    have HPO := HPT
                    cases N
                    · have HTT : Hid (T = false) := Lib.hid (by rw [← HI.out, HST.out, HN2.out]; simp)
                      refine wp_region_noPanic ?_
                      refine wp_region_held_drew (S := (fun w_ => w_.cell? ⟨gx, 0, none⟩ = some (.int .i64 b.id) ∧ w_.cell? ⟨gx, 1, none⟩ = some (.string b.nm) ∧ w_.cell? ⟨w.heap.size, 0, none⟩ = some (.int .i64 s.nb) ∧ w_.cell? ⟨w.heap.size, 3, none⟩ = some (.slice (some ⟨b1, o1, none⟩) n cb) ∧ w_.cell? ⟨b1, o1 + j * 2, none⟩ = some (.int .i64 p.id))) (by kernel_rfl) ?_ (fun hHeld => ?_)
                      · (first | with_reducible exact QD | with_reducible assumption)
                      refine tk 0 ?_; try simp only [Act.put, pz1, pz2, pz3]
                      refine tk 1 ?_; try simp only [Act.put, pz1, pz2, pz3]
                      refine tk 2 ?_; try simp only [Act.put, pz1, pz2, pz3]
                      refine tk 3 ?_; try simp only [Act.put, pz1, pz2, pz3]
                      refine tk 4 ?_; try simp only [Act.put, pz1, pz2, pz3]
                      refine tk 5 ?_; try simp only [Act.put, pz1, pz2, pz3]
                      refine tk 6 ?_; try simp only [Act.put, pz1, pz2, pz3]
                      refine tk 7 ?_; try simp only [Act.put, pz1, pz2, pz3]
                      refine tk 8 ?_; try simp only [Act.put, pz1, pz2, pz3]
                      refine tk 9 ?_; try simp only [Act.put, pz1, pz2, pz3]
                      refine tk 10 ?_; try simp only [Act.put, pz1, pz2, pz3]
                      refine tk 11 ?_; try simp only [Act.put, pz1, pz2, pz3]
                      refine tk 12 ?_; try simp only [Act.put, pz1, pz2, pz3]
                      refine tk 13 ?_; try simp only [Act.put, pz1, pz2, pz3]
                      refine tk 14 ?_; try simp only [Act.put, pz1, pz2, pz3]
                      refine tk 15 ?_; try simp only [Act.put, pz1, pz2, pz3]
                      refine tk 16 ?_; try simp only [Act.put, pz1, pz2, pz3]
                      refine tk 17 ?_; try simp only [Act.put, pz1, pz2, pz3]
                      refine tk 18 ?_; try simp only [Act.put, pz1, pz2, pz3]
                      refine tk 19 ?_; try simp only [Act.put, pz1, pz2, pz3]
                      refine tk 20 ?_; try simp only [Act.put, pz1, pz2, pz3]
                      refine tk 21 ?_; try simp only [Act.put, pz1, pz2, pz3]
                      refine tk 22 ?_; try simp only [Act.put, pz1, pz2, pz3]
                      refine tk 23 ?_; try simp only [Act.put, pz1, pz2, pz3]
                      refine tk 24 ?_; try simp only [Act.put, pz1, pz2, pz3]
                      refine tk 25 ?_; try simp only [Act.put, pz1, pz2, pz3]
                      refine tk 26 ?_; try simp only [Act.put, pz1, pz2, pz3]
                      refine tk 27 ?_; try simp only [Act.put, pz1, pz2, pz3]
                      refine tk 28 ?_; try simp only [Act.put, pz1, pz2, pz3]
                      refine wpAnyH_ready (rs := [29]) (by kernel_rfl) (by simp) ?_
                      refine AllReadyH.cons (o := ⟨some 61, .call { callee := .value (.func 51), args := #[.tmp 60], argTypes := #[9] }, 4, "ref.go:16", #[⟨28, .data⟩, ⟨26, .chain⟩, ⟨26, .guard⟩], some (26, false)⟩) rfl (fun K hK => ?_) AllReadyH.nil
                      go_simp
                      (go_at_call 51; ((with_reducible refine (rmay_any3 b.nm _ _ hbs HNM.out).mono ?_); rintro e' wN ⟨rfl, rfl⟩))
                      go_wp2_with fail
                      refine hK.out _ _ ?_ (fun hNew => ?_)
                      · (first | with_reducible exact QD | with_reducible assumption)
                      clear hK K hHeld
                      have hHeld := hNew
                      clear hNew
                      try simp only [Act.put, pz1, pz2, pz3]
                      refine tk 30 ?_; try simp only [Act.put, pz1, pz2, pz3]
                      refine tk 31 ?_; try simp only [Act.put, pz1, pz2, pz3]
                      refine wpAnyH_done (by kernel_rfl) ?_ _
                      refine NoPanic.normal ?_
                      go_wp2_with fail
                      go_ret
                      exact ⟨by rw [HTT.out]; rfl, (by first | exact HBa | exact drew_below HBa)⟩
                    · skip
                      refine wp_region_noPanic ?_
                      refine wp_region_held_drew (S := (fun w_ => w_.cell? ⟨gx, 0, none⟩ = some (.int .i64 b.id) ∧ w_.cell? ⟨gx, 1, none⟩ = some (.string b.nm) ∧ w_.cell? ⟨w.heap.size, 0, none⟩ = some (.int .i64 s.nb) ∧ w_.cell? ⟨w.heap.size, 3, none⟩ = some (.slice (some ⟨b1, o1, none⟩) n cb) ∧ w_.cell? ⟨b1, o1 + j * 2, none⟩ = some (.int .i64 p.id))) (by kernel_rfl) ?_ (fun hHeld => ?_)
                      · (first | with_reducible exact QD | with_reducible assumption)
                      refine tk 0 ?_; try simp only [Act.put, pz1, pz2, pz3]
                      refine tk 1 ?_; try simp only [Act.put, pz1, pz2, pz3]
                      refine tk 2 ?_; try simp only [Act.put, pz1, pz2, pz3]
                      refine tk 3 ?_; try simp only [Act.put, pz1, pz2, pz3]
                      refine tk 4 ?_; try simp only [Act.put, pz1, pz2, pz3]
                      refine tk 5 ?_; try simp only [Act.put, pz1, pz2, pz3]
                      refine tk 6 ?_; try simp only [Act.put, pz1, pz2, pz3]
                      refine tk 7 ?_; try simp only [Act.put, pz1, pz2, pz3]
                      refine tk 8 ?_; try simp only [Act.put, pz1, pz2, pz3]
                      refine tk 9 ?_; try simp only [Act.put, pz1, pz2, pz3]
                      refine tk 10 ?_; try simp only [Act.put, pz1, pz2, pz3]
                      refine tk 11 ?_; try simp only [Act.put, pz1, pz2, pz3]
                      refine tk 12 ?_; try simp only [Act.put, pz1, pz2, pz3]
                      refine tk 13 ?_; try simp only [Act.put, pz1, pz2, pz3]
                      refine tk 14 ?_; try simp only [Act.put, pz1, pz2, pz3]
                      refine tk 15 ?_; try simp only [Act.put, pz1, pz2, pz3]
                      refine tk 16 ?_; try simp only [Act.put, pz1, pz2, pz3]
                      refine tk 17 ?_; try simp only [Act.put, pz1, pz2, pz3]
                      refine tk 18 ?_; try simp only [Act.put, pz1, pz2, pz3]
                      refine tk 19 ?_; try simp only [Act.put, pz1, pz2, pz3]
                      refine tk 20 ?_; try simp only [Act.put, pz1, pz2, pz3]
                      refine tk 21 ?_; try simp only [Act.put, pz1, pz2, pz3]
                      refine tk 22 ?_; try simp only [Act.put, pz1, pz2, pz3]
                      refine tk 23 ?_; try simp only [Act.put, pz1, pz2, pz3]
                      refine tk 24 ?_; try simp only [Act.put, pz1, pz2, pz3]
                      refine tk 25 ?_; try simp only [Act.put, pz1, pz2, pz3]
                      refine tk 26 ?_; try simp only [Act.put, pz1, pz2, pz3]
                      refine tk 27 ?_; try simp only [Act.put, pz1, pz2, pz3]
                      refine tk 28 ?_; try simp only [Act.put, pz1, pz2, pz3]
                      refine wpAnyH_ready (rs := [29]) (by kernel_rfl) (by simp) ?_
                      refine AllReadyH.cons (o := ⟨some 61, .call { callee := .value (.func 51), args := #[.tmp 60], argTypes := #[9] }, 4, "ref.go:16", #[⟨28, .data⟩, ⟨26, .chain⟩, ⟨26, .guard⟩], some (26, false)⟩) rfl (fun K hK => ?_) AllReadyH.nil
                      go_simp
                      (go_at_call 51; ((with_reducible refine (rmay_any3 b.nm _ _ hbs HNM.out).mono ?_); rintro e' wN ⟨rfl, rfl⟩))
                      go_wp2_with fail
                      refine hK.out _ _ ?_ (fun hNew => ?_)
                      · (first | with_reducible exact QD | with_reducible assumption)
                      clear hK K hHeld
                      have hHeld := hNew
                      clear hNew
                      try simp only [Act.put, pz1, pz2, pz3]
                      refine tk 30 ?_; try simp only [Act.put, pz1, pz2, pz3]
                      refine tk 31 ?_; try simp only [Act.put, pz1, pz2, pz3]
                      refine wpAnyH_done (by kernel_rfl) ?_ _
                      refine NoPanic.normal ?_
                      go_wp2_with fail
                      obtain ⟨wn, hwn⟩ : ∃ V : World, V = wa.drew := ⟨_, rfl⟩
                      have hDn := below_dr wa
                      rw [← hwn] at hDn ⊢
                      have HBn := btr HBa HBa.size hDn
                      have BXn := BX.below hDn BX.lt
                      have Cn := C2.below hDn C2.lt
                      clear hwn hDn QD x0 x1 k0 k3 HBa BX C2
                      have H0 : Hid ((s.bs.take 0).any (fun c => sameS c.nm b.nm) = false) := Lib.hid rfl
                      go_loopw [5] (fun kv wr => ∃ k : Nat, k ≤ i ∧ kv = .int .i64 k ∧ Hid ((s.bs.take k).any (fun c => sameS c.nm b.nm) = false) ∧ Below w.heap.size w wr ∧ Below wn.heap.size wn wr) (fun kv _ => i - (intOf kv).toNat)
                      case atStart => exact ⟨0, by omega, rfl, H0, HBn, Below.refl _ _⟩
                      case round =>
                        clear H0 HBn
                        obtain ⟨k, hk, rfl, HZ, HBq, hbq⟩ := hrel
                        by_cases hlk : k < i
                        · obtain ⟨z, hz⟩ : ∃ z, s.bs[k]? = some z := ⟨_, List.getElem?_eq_getElem (by have := HN.out; omega)⟩
                          have hez : (s.bs.map bkC)[k]? = some (bkC z) := by rw [List.getElem?_map, hz]; rfl
                          have cz : wr.cell? ⟨b1, o1 + k * 2 + 1, none⟩ = some (.string z.nm) := (HBq.cell (p := ⟨b1, _, none⟩) l1).trans (HQ1.out k _ hez 1 _ rfl)
                          have BXq := BXn.below hbq BXn.lt
                          have Cq := Cn.below hbq Cn.lt
                          have x1 := BXq.cell_ 1
                          have k3 := Cq.cell_ 3
                          simp at x1 k3
                          have HZK := Lib.hid hz
                          have n0 : (0 : Int) ≤ (k : Int) := by omega
                          have n1 : (k : Int) < (i : Int) := by omega
                          have n2 : (k : Int) < (n : Int) := by omega
                          have QE : wr.drew.cell? ⟨w.heap.size, 3, none⟩ = some (.slice (some ⟨b1, o1, none⟩) n cb) ∧ wr.drew.cell? ⟨b1, o1 + k * 2 + 1, none⟩ = some (.string z.nm) ∧ wr.drew.cell? ⟨gx, 1, none⟩ = some (.string b.nm) := ⟨drew_cell k3, drew_cell cz, drew_cell x1⟩
                          clear hz hez cz x1 k3
                          go_upto_region 12 with fail
                          rcases (by cases hq : (z.nm.toList == b.nm.toList) <;> simp : (z.nm.toList == b.nm.toList) = true ∨ (z.nm.toList == b.nm.toList) = false) with hp | hp
                          · have HTT : Hid (T = false) := Lib.hid (by rw [← HI.out, HST.out, List.any_eq_true.2 ⟨z, List.mem_take_iff_getElem.2 ⟨k, by have := HN.out; omega, (List.getElem?_eq_some_iff.1 HZK.out).2⟩, (show sameS z.nm b.nm = true from hp)⟩]; simp)
                            refine wp_region_noPanic ?_
                            refine wp_region_held_drew (S := (fun w_ => w_.cell? ⟨w.heap.size, 3, none⟩ = some (.slice (some ⟨b1, o1, none⟩) n cb) ∧ w_.cell? ⟨b1, o1 + k * 2 + 1, none⟩ = some (.string z.nm) ∧ w_.cell? ⟨gx, 1, none⟩ = some (.string b.nm))) (by kernel_rfl) ?_ (fun hHeld => ?_)
                            · (first | with_reducible exact QE | with_reducible assumption)
                            refine tk 0 ?_; try simp only [Act.put, pz1, pz2, pz3]
                            refine tk 1 ?_; try simp only [Act.put, pz1, pz2, pz3]
                            refine tk 2 ?_; try simp only [Act.put, pz1, pz2, pz3]
                            refine tk 3 ?_; try simp only [Act.put, pz1, pz2, pz3]
                            refine tk 4 ?_; try simp only [Act.put, pz1, pz2, pz3]
                            refine tk 5 ?_; try simp only [Act.put, pz1, pz2, pz3]
                            refine tk 6 ?_; try simp only [Act.put, pz1, pz2, pz3]
                            refine tk 7 ?_; try simp only [Act.put, pz1, pz2, pz3]
                            refine tk 8 ?_; try simp only [Act.put, pz1, pz2, pz3]
                            refine wpAnyH_done (by kernel_rfl) ?_ _
                            refine NoPanic.normal ?_
                            go_wp2_with fail
                            go_ret
                            exact ⟨by rw [HTT.out]; rfl, (by first | exact HBq | exact drew_below HBq)⟩
                          · have HZX : Hid ((fun c : Bk => sameS c.nm b.nm) z = false) := Lib.hid hp
                            refine wp_region_noPanic ?_
                            refine wp_region_held_drew (S := (fun w_ => w_.cell? ⟨w.heap.size, 3, none⟩ = some (.slice (some ⟨b1, o1, none⟩) n cb) ∧ w_.cell? ⟨b1, o1 + k * 2 + 1, none⟩ = some (.string z.nm) ∧ w_.cell? ⟨gx, 1, none⟩ = some (.string b.nm))) (by kernel_rfl) ?_ (fun hHeld => ?_)
                            · (first | with_reducible exact QE | with_reducible assumption)
                            refine tk 0 ?_; try simp only [Act.put, pz1, pz2, pz3]
                            refine tk 1 ?_; try simp only [Act.put, pz1, pz2, pz3]
                            refine tk 2 ?_; try simp only [Act.put, pz1, pz2, pz3]
                            refine tk 3 ?_; try simp only [Act.put, pz1, pz2, pz3]
                            refine tk 4 ?_; try simp only [Act.put, pz1, pz2, pz3]
                            refine tk 5 ?_; try simp only [Act.put, pz1, pz2, pz3]
                            refine tk 6 ?_; try simp only [Act.put, pz1, pz2, pz3]
                            refine tk 7 ?_; try simp only [Act.put, pz1, pz2, pz3]
                            refine tk 8 ?_; try simp only [Act.put, pz1, pz2, pz3]
                            refine wpAnyH_done (by kernel_rfl) ?_ _
                            refine NoPanic.normal ?_
                            go_wp2_with fail
                            go_roundw
                            case rel => exact ⟨k + 1, by omega, by go_num, Lib.hid (any_next HZ.out HZK.out HZX.out), (by first | exact HBq | exact drew_below HBq), (by first | exact hbq | exact drew_below hbq)⟩
                            case measure => simp [intOf]; omega
                        · have hki : k = i := by omega
                          subst hki
                          have HNX : Hid (bkOk s (s.bs.take (k + 1)) (s.bs.drop (k + 1)) = T) := Lib.hid (by rw [← HI.out, HST.out, HN2.out, HZ.out, HPO.out, decide_eq_true (by omega : 1 ≤ b.id), decide_eq_true (by omega : b.id < s.nb)]; rfl)
                          have Cq := Cn.below hbq Cn.lt
                          go_wp2_with fail
                          go_roundw
                          case rel => exact ⟨k + 1, by omega, by go_num, HNX, HBq, Cq⟩
                          case measure => simp [intOf]; omega
          · have hjn : i = n := by omega
            subst hjn
            have HTT : Hid (T = true) := Lib.hid (by have := HI.out; rw [← HN.out, bk_end] at this; exact this.symm)
            go_wp2_with fail
            go_ret
            exact ⟨by rw [HTT.out]; rfl, HBr⟩
end Go.Proofs.YtllnfociddodcaaDoor
