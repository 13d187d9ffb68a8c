/- Chapter 17's own: may the notes be? -/
import Derived.Test.YteokeghenjobaaaGreatDoorZy5
set_option linter.unusedSimpArgs false
set_option linter.unusedVariables false
set_option maxRecDepth 100000
set_option maxHeartbeats 16000000
namespace Go.Proofs.YteokeghenjobaaaGreatDoor
open Go.ChangeShapes Go.WideShapes Go.ChangeAt Go.RowKit
attribute [local go_sem ↓] Go.wp_at_zero Go.wp_at_succ
theorem lt_keep2 {w w' : World} {a b : Nat} (h : a < w.heap.size ∧ b < w.heap.size) (hb : Below w.heap.size w w') : a < w'.heap.size ∧ b < w'.heap.size := ⟨Nat.lt_of_lt_of_le h.1 hb.size, Nat.lt_of_lt_of_le h.2 hb.size⟩
theorem lt_keep3 {w w' : World} {a b c : Nat} (h : a < w.heap.size ∧ b < w.heap.size ∧ c < w.heap.size) (hb : Below w.heap.size w w') : a < w'.heap.size ∧ b < w'.heap.size ∧ c < w'.heap.size := ⟨Nat.lt_of_lt_of_le h.1 hb.size, Nat.lt_of_lt_of_le h.2.1 hb.size, Nat.lt_of_lt_of_le h.2.2 hb.size⟩
def prevNk (pre : List Nt) (b : Nt) : Bool := match pre.getLast? with
  | some p => decide (p.id < b.id)
  | none => true
def ntOk (s : Sf) : List Nt → List Nt → Bool
  | _, [] => true
  | pre, b :: l => decide (1 ≤ b.id) && (decide (b.id < s.nn) && (prevNk pre b && (mayN b.nm && (decide (0 ≤ bookAt s b.bk) && (mayTg b.tg && (decide (b.sh.length ≤ 8) && (!pre.any (fun c => sameS c.nm b.nm && c.bk == b.bk) && ntOk s (pre ++ [b]) l)))))))
theorem ntk_step {s : Sf} {i : Nat} {b : Nt} (h : s.ts[i]? = some b) : ntOk s (s.ts.take i) (s.ts.drop i) = (decide (1 ≤ b.id) && (decide (b.id < s.nn) && (prevNk (s.ts.take i) b && (mayN b.nm && (decide (0 ≤ bookAt s b.bk) && (mayTg b.tg && (decide (b.sh.length ≤ 8) && (!(s.ts.take i).any (fun c => sameS c.nm b.nm && c.bk == b.bk) && ntOk s (s.ts.take (i + 1)) (s.ts.drop (i + 1)))))))))) := by
  have h1 : s.ts.take (i + 1) = s.ts.take i ++ [b] := by rw [List.take_add_one, h]; rfl
  rw [drop_next h, h1]
  rfl
theorem ntk_end {s : Sf} {q : List Nt} : ntOk s q (s.ts.drop s.ts.length) = true := by
  rw [List.drop_length]
  rfl
theorem prevNk_at {s : Sf} {j : Nat} {p b : Nt} (h : s.ts[j]? = some p) : prevNk (s.ts.take (j + 1)) b = decide (p.id < b.id) := by
  have h1 : s.ts.take (j + 1) = s.ts.take j ++ [p] := by rw [List.take_add_one, h]; rfl
  unfold prevNk
  rw [h1]
  simp
def rntB (s : Sf) : Bool := decide (s.ts.length ≤ 12) && (inI s.nn 1 65536 && ntOk s [] s.ts)
theorem rnotes_any (s : Sf) (v : Value) (w : World) (hS : ShR w w.heap.size v s) (hsz : ∀ b ∈ s.ts, b.nm.size ≤ 100000 ∧ ((∀ t ∈ b.tg, t.size ≤ 100000) ∧ b.tg.length ≤ 100000) ∧ b.sh.length ≤ 100000) (hsm : s.bs.length ≤ 100000 ∧ s.ts.length ≤ 100000) (T : Bool) (hB0 : rntB s = T) :
    Calls Tryz.prog 80 #[v] w fun e' w' => e' = .returned (.bool T) ∧ Below w.heap.size w w' := by
  have hS0 := hS
  obtain ⟨Ab, cb, An, cn, rfl, hB, hN, hcb, hmb, hcn, hmn⟩ := hS.ex
  clear hS
  have HB : Below w.heap.size w (w.alloc (.cells #[.int .i64 s.nb, .int .i64 s.nn, .int .i64 s.ns, .slice Ab s.bs.length cb, .slice An s.ts.length cn] 25)) := ((Below.refl w.heap.size w).alloc (by first | (simp; done) | (simp; omega)) _)
  have B1 : Blk (w.alloc (.cells #[.int .i64 s.nb, .int .i64 s.nn, .int .i64 s.ns, .slice Ab s.bs.length cb, .slice An s.ts.length cn] 25)) w.heap.size 25 #[.int .i64 s.nb, .int .i64 s.nn, .int .i64 s.ns, .slice Ab s.bs.length cb, .slice An s.ts.length cn] := Blk.new_ w 25 #[.int .i64 s.nb, .int .i64 s.nn, .int .i64 s.ns, .slice Ab s.bs.length cb, .slice An s.ts.length cn]
  have S1 : ShR (w.alloc (.cells #[.int .i64 s.nb, .int .i64 s.nn, .int .i64 s.ns, .slice Ab s.bs.length cb, .slice An s.ts.length cn] 25)) ((w.alloc (.cells #[.int .i64 s.nb, .int .i64 s.nn, .int .i64 s.ns, .slice Ab s.bs.length cb, .slice An s.ts.length cn] 25))).heap.size (.agg #[.int .i64 s.nb, .int .i64 s.nn, .int .i64 s.ns, .slice Ab s.bs.length cb, .slice An s.ts.length cn]) s := hS0.next HB
  obtain ⟨es, hel, hse, hnt⟩ := hN.ex
  have HSZ := Lib.hid hsz
  have HSM := Lib.hid hsm
  have hlb := hsm.2
  obtain ⟨n, hn⟩ : ∃ n, s.ts.length = n := ⟨_, rfl⟩
  have hu : rntB s = (decide (n ≤ 12) && (inI s.nn 1 65536 && ntOk s [] s.ts)) := by unfold rntB; rw [hn]
  have HU := Lib.hid (hu.symm.trans hB0)
  have HN := Lib.hid hn
  rw [hn] at HB B1 S1 hlb ⊢
  clear hB hcb hmb hcn hmn hS0 hB0 hsz hsm hn hu
  by_cases c0 : 12 < n
  · have g0 : (12 : Int) < (n : Int) := by omega
    have HTT : Hid (T = false) := Lib.hid (by rw [← HU.out, decide_eq_false (by omega : ¬ n ≤ 12)]; rfl)
    go_enter Tryz.func80, Tryz.ntmps80
    go_wp2_with fail
    go_ret
    exact ⟨by rw [HTT.out]; rfl, HB⟩
  · have g0 : ¬ (12 : Int) < (n : Int) := by omega
    by_cases c1 : s.nn < 1
    · have HTT : Hid (T = false) := Lib.hid (by rw [← HU.out]; unfold inI; rw [decide_eq_false (by omega : ¬ 1 ≤ s.nn)]; simp)
      go_enter Tryz.func80, Tryz.ntmps80
      go_wp2_with fail
      go_ret
      exact ⟨by rw [HTT.out]; rfl, HB⟩
    · by_cases c2 : 65536 < s.nn
      · have HTT : Hid (T = false) := Lib.hid (by rw [← HU.out]; unfold inI; rw [decide_eq_false (by omega : ¬ s.nn ≤ 65536)]; simp)
        go_enter Tryz.func80, Tryz.ntmps80
        go_wp2_with fail
        go_ret
        exact ⟨by rw [HTT.out]; rfl, HB⟩
      · have HT0 : Hid (ntOk s (s.ts.take 0) (s.ts.drop 0) = T) := Lib.hid (by rw [← HU.out, decide_eq_true (by omega : n ≤ 12), inI_of (by omega) (by omega)]; rfl)
        clear HU
        go_enter Tryz.func80, Tryz.ntmps80
        obtain ⟨W, hW⟩ : ∃ V : World, V = (w.alloc (.cells #[.int .i64 s.nb, .int .i64 s.nn, .int .i64 s.ns, .slice Ab s.bs.length cb, .slice An n cn] 25)) := ⟨_, rfl⟩
        rw [← hW] at HB B1 S1
        go_upto_region 4 with fail
        rw [← hW]
        clear hW
        go_wp2_with fail
        go_loopw [3] (fun iv wr => ∃ i : Nat, i ≤ n ∧ iv = .int .i64 i ∧ Hid (ntOk s (s.ts.take i) (s.ts.drop i) = T) ∧ Below w.heap.size w wr ∧ Blk wr w.heap.size 25 #[.int .i64 s.nb, .int .i64 s.nn, .int .i64 s.ns, .slice Ab s.bs.length cb, .slice An n cn] ∧ ShR wr wr.heap.size (.agg #[.int .i64 s.nb, .int .i64 s.nn, .int .i64 s.ns, .slice Ab s.bs.length cb, .slice An n cn]) s) (fun iv _ => n - (intOf iv).toNat)
        case atStart => exact ⟨0, by omega, rfl, HT0, HB, B1, S1⟩
        case round =>
          clear HT0 HB B1 S1
          obtain ⟨i, hi, rfl, HI, HBr, C1, SR⟩ := hrel
          obtain ⟨wo, hwo⟩ : ∃ V : World, V = wr := ⟨_, rfl⟩
          subst hwo
          have k0 := C1.cell_ 0
          have k1 := C1.cell_ 1
          have k2 := C1.cell_ 2
          have k3 := C1.cell_ 3
          have k4 := C1.cell_ 4
          simp at k0 k1 k2 k3 k4
          by_cases hlt : i < n
          · have hlx : i < s.ts.length := by have := HN.out; omega
            obtain ⟨y, hx⟩ : ∃ x, s.ts[i]? = some x := ⟨_, List.getElem?_eq_getElem hlx⟩
            obtain ⟨e0, he⟩ : ∃ e, es[i]? = some e := ⟨_, List.getElem?_eq_getElem (by have := HN.out; omega)⟩
            obtain ⟨At, ct, As, cs, rfl, hAt, -⟩ := (hnt i y e0 hx he).ex
            obtain ⟨b1, o1, rfl, l1, q1⟩ := hse.at_ (by have := HN.out; omega)
            have y0 : wo.cell? ⟨b1, o1 + i * 5, none⟩ = some (.int .i64 y.id) := (HBr.cell (p := ⟨b1, _, none⟩) l1).trans (q1 i _ he 0 _ rfl)
            have y1 : wo.cell? ⟨b1, o1 + i * 5 + 1, none⟩ = some (.int .i64 y.bk) := (HBr.cell (p := ⟨b1, _, none⟩) l1).trans (q1 i _ he 1 _ rfl)
            have y2 : wo.cell? ⟨b1, o1 + i * 5 + 2, none⟩ = some (.string y.nm) := (HBr.cell (p := ⟨b1, _, none⟩) l1).trans (q1 i _ he 2 _ rfl)
            have y3 : wo.cell? ⟨b1, o1 + i * 5 + 3, none⟩ = some (.slice At y.tg.length ct) := (HBr.cell (p := ⟨b1, _, none⟩) l1).trans (q1 i _ he 3 _ rfl)
            have y4 : wo.cell? ⟨b1, o1 + i * 5 + 4, none⟩ = some (.slice As y.sh.length cs) := (HBr.cell (p := ⟨b1, _, none⟩) l1).trans (q1 i _ he 4 _ rfl)
            have i0 : (0 : Int) ≤ (i : Int) := by omega
            have i1 : (i : Int) < (n : Int) := by omega
            have HST := Lib.hid (ntk_step hx)
            have HQ1 := Lib.hid q1
            have HX := Lib.hid hx
            have hy := HSZ.out y (List.mem_of_getElem? hx)
            have hys := hy.1
            have HTS := Lib.hid hy.2.1
            have hysh := hy.2.2
            have hAL : Below wo.heap.size wo (wo.alloc (.cells #[.int .i64 y.id, .int .i64 y.bk, .string y.nm, .slice At y.tg.length ct, .slice As y.sh.length cs] 54)) := (Below.refl _ _).alloc (Nat.le_refl _) _
            have BX : Blk (wo.alloc (.cells #[.int .i64 y.id, .int .i64 y.bk, .string y.nm, .slice At y.tg.length ct, .slice As y.sh.length cs] 54)) wo.heap.size 54 #[.int .i64 y.id, .int .i64 y.bk, .string y.nm, .slice At y.tg.length ct, .slice As y.sh.length cs] := Blk.new_ wo 54 _
            have C2 := C1.below hAL C1.lt
            have SA2 := SR.next hAL
            have HBa := btr HBr HBr.size hAL
            have SAt := (hAt.below HBa).mono_ HBa.size
            clear hx he q1 hlx hy hAt
            go_upto_region 7 with fail
            obtain ⟨wa, hwa⟩ : ∃ V : World, V = wo.alloc (.cells #[.int .i64 y.id, .int .i64 y.bk, .string y.nm, .slice At y.tg.length ct, .slice As y.sh.length cs] 54) := ⟨_, rfl⟩
            obtain ⟨gx, hgx⟩ : ∃ V : Nat, V = wo.heap.size := ⟨_, rfl⟩
            rw [← hwa, ← hgx] at BX
            rw [← hwa] at C2 HBa SA2 SAt
            rw [← hwa, ← hgx]
            clear hwa hgx hAL y0 y1 y2 y3 y4 k0 k1 k2 k3 k4 C1 HBr SR
            have x0 := BX.cell_ 0
            have x1 := BX.cell_ 1
            have x2 := BX.cell_ 2
            have x3 := BX.cell_ 3
            have x4 := BX.cell_ 4
            have k0 := C2.cell_ 0
            have k1 := C2.cell_ 1
            have k2 := C2.cell_ 2
            have k3 := C2.cell_ 3
            have k4 := C2.cell_ 4
            simp at x0 x1 x2 x3 x4 k0 k1 k2 k3 k4
            have SW := SA2.next (below_dr wa)
            have SA := SAt.next (below_dr wa)
            have HBd := drew_below HBa
            have QL2 : gx < wa.drew.heap.size ∧ w.heap.size < wa.drew.heap.size := ⟨BX.lt, C2.lt⟩
            have l1a : b1 < wa.drew.heap.size := Nat.lt_of_lt_of_le l1 HBd.size
            have QQ : wa.drew.cell? ⟨gx, 0, none⟩ = some (.int .i64 y.id) ∧ wa.drew.cell? ⟨gx, 1, none⟩ = some (.int .i64 y.bk) ∧ wa.drew.cell? ⟨gx, 2, none⟩ = some (.string y.nm) ∧ wa.drew.cell? ⟨gx, 3, none⟩ = some (.slice At y.tg.length ct) ∧ wa.drew.cell? ⟨gx, 4, none⟩ = some (.slice As y.sh.length cs) ∧ wa.drew.cell? ⟨w.heap.size, 0, none⟩ = some (.int .i64 s.nb) ∧ wa.drew.cell? ⟨w.heap.size, 1, none⟩ = some (.int .i64 s.nn) ∧ wa.drew.cell? ⟨w.heap.size, 2, none⟩ = some (.int .i64 s.ns) ∧ wa.drew.cell? ⟨w.heap.size, 3, none⟩ = some (.slice Ab s.bs.length cb) ∧ wa.drew.cell? ⟨w.heap.size, 4, none⟩ = some (.slice (some ⟨b1, o1, none⟩) n cn) := ⟨drew_cell x0, drew_cell x1, drew_cell x2, drew_cell x3, drew_cell x4, drew_cell k0, drew_cell k1, drew_cell k2, drew_cell k3, drew_cell k4⟩
            have HQQ := Lib.hid QQ
            clear x0 x1 x2 x3 x4 k0 k1 k2 k3 k4 SA2 SAt
            by_cases d1 : y.id < 1
            · have HTT : Hid (T = false) := Lib.hid (by rw [← HI.out, HST.out, decide_eq_false (by omega : ¬ 1 ≤ y.id)]; rfl)
              have QD := QQ
              have QL := QL2
              clear QQ
              refine wp_region_noPanic ?_
              refine wp_region_held_drew (S := (fun w_ => w_.cell? ⟨gx, 0, none⟩ = some (.int .i64 y.id) ∧ w_.cell? ⟨gx, 1, none⟩ = some (.int .i64 y.bk) ∧ w_.cell? ⟨gx, 2, none⟩ = some (.string y.nm) ∧ w_.cell? ⟨gx, 3, none⟩ = some (.slice At y.tg.length ct) ∧ w_.cell? ⟨gx, 4, none⟩ = some (.slice As y.sh.length cs) ∧ w_.cell? ⟨w.heap.size, 0, none⟩ = some (.int .i64 s.nb) ∧ w_.cell? ⟨w.heap.size, 1, none⟩ = some (.int .i64 s.nn) ∧ w_.cell? ⟨w.heap.size, 2, none⟩ = some (.int .i64 s.ns) ∧ w_.cell? ⟨w.heap.size, 3, none⟩ = some (.slice Ab s.bs.length cb) ∧ w_.cell? ⟨w.heap.size, 4, none⟩ = some (.slice (some ⟨b1, o1, none⟩) n cn))) (by kernel_rfl) ?_ (fun hHeld => ?_)
              · (first | with_reducible exact QD | with_reducible exact Q5 | with_reducible exact Q6 | with_reducible assumption)
              refine tk 0 ?_; try simp only [Act.put, pz1, pz2, pz3]
              refine tk 1 ?_; try simp only [Act.put, pz1, pz2, pz3]
              refine tk 2 ?_; try simp only [Act.put, pz1, pz2, pz3]
              refine tk 3 ?_; try simp only [Act.put, pz1, pz2, pz3]
              refine tu 4 ?_
              try simp only [Act.put, pz1, pz2, pz3]
              refine tu 5 ?_
              try simp only [Act.put, pz1, pz2, pz3]
              refine tu 6 ?_
              try simp only [Act.put, pz1, pz2, pz3]
              refine tu 7 ?_
              try simp only [Act.put, pz1, pz2, pz3]
              refine tu 8 ?_
              try simp only [Act.put, pz1, pz2, pz3]
              refine tk 9 ?_; try simp only [Act.put, pz1, pz2, pz3]
              refine tk 10 ?_; try simp only [Act.put, pz1, pz2, pz3]
              refine tu 11 ?_
              try simp only [Act.put, pz1, pz2, pz3]
              refine tu 12 ?_
              try simp only [Act.put, pz1, pz2, pz3]
              refine tu 13 ?_
              try simp only [Act.put, pz1, pz2, pz3]
              refine tu 14 ?_
              try simp only [Act.put, pz1, pz2, pz3]
              refine tu 15 ?_
              try simp only [Act.put, pz1, pz2, pz3]
              refine tu 16 ?_
              try simp only [Act.put, pz1, pz2, pz3]
              refine tu 17 ?_
              try simp only [Act.put, pz1, pz2, pz3]
              refine tu 18 ?_
              try simp only [Act.put, pz1, pz2, pz3]
              refine tu 19 ?_
              try simp only [Act.put, pz1, pz2, pz3]
              refine tu 20 ?_
              try simp only [Act.put, pz1, pz2, pz3]
              refine tu 21 ?_
              try simp only [Act.put, pz1, pz2, pz3]
              refine tu 22 ?_
              try simp only [Act.put, pz1, pz2, pz3]
              refine tu 23 ?_
              try simp only [Act.put, pz1, pz2, pz3]
              refine tu 24 ?_
              try simp only [Act.put, pz1, pz2, pz3]
              refine tk 25 ?_; try simp only [Act.put, pz1, pz2, pz3]
              refine tk 26 ?_; try simp only [Act.put, pz1, pz2, pz3]
              refine tu 27 ?_
              try simp only [Act.put, pz1, pz2, pz3]
              refine tu 28 ?_
              try simp only [Act.put, pz1, pz2, pz3]
              refine tu 29 ?_
              try simp only [Act.put, pz1, pz2, pz3]
              refine tu 30 ?_
              try simp only [Act.put, pz1, pz2, pz3]
              refine tk 31 ?_; try simp only [Act.put, pz1, pz2, pz3]
              refine tk 32 ?_; try simp only [Act.put, pz1, pz2, pz3]
              refine tu 33 ?_
              try simp only [Act.put, pz1, pz2, pz3]
              refine tu 34 ?_
              try simp only [Act.put, pz1, pz2, pz3]
              refine tu 35 ?_
              try simp only [Act.put, pz1, pz2, pz3]
              refine tu 36 ?_
              try simp only [Act.put, pz1, pz2, pz3]
              refine tu 37 ?_
              try simp only [Act.put, pz1, pz2, pz3]
              refine tk 38 ?_; try simp only [Act.put, pz1, pz2, pz3]
              refine tk 39 ?_; try simp only [Act.put, pz1, pz2, pz3]
              refine tu 40 ?_
              try simp only [Act.put, pz1, pz2, pz3]
              refine tu 41 ?_
              try simp only [Act.put, pz1, pz2, pz3]
              refine tu 42 ?_
              try simp only [Act.put, pz1, pz2, pz3]
              refine tu 43 ?_
              try simp only [Act.put, pz1, pz2, pz3]
              refine tk 44 ?_; try simp only [Act.put, pz1, pz2, pz3]
              refine tk 45 ?_; try simp only [Act.put, pz1, pz2, pz3]
              refine tu 46 ?_
              try simp only [Act.put, pz1, pz2, pz3]
              refine tu 47 ?_
              try simp only [Act.put, pz1, pz2, pz3]
              refine tu 48 ?_
              try simp only [Act.put, pz1, pz2, pz3]
              refine tu 49 ?_
              try simp only [Act.put, pz1, pz2, pz3]
              refine tk 50 ?_; try simp only [Act.put, pz1, pz2, pz3]
              refine wpAnyH_done (by kernel_rfl) ?_ _
              refine NoPanic.normal ?_
              go_wp2_with fail
              go_ret
              exact ⟨by rw [HTT.out]; rfl, (by first | exact HB6 | exact HB5 | exact HBd | exact HBa)⟩
            · by_cases d2 : s.nn ≤ y.id
              · have HTT : Hid (T = false) := Lib.hid (by rw [← HI.out, HST.out, decide_eq_false (by omega : ¬ y.id < s.nn)]; simp)
                have QD := QQ
                have QL := QL2
                clear QQ
                refine wp_region_noPanic ?_
                refine wp_region_held_drew (S := (fun w_ => w_.cell? ⟨gx, 0, none⟩ = some (.int .i64 y.id) ∧ w_.cell? ⟨gx, 1, none⟩ = some (.int .i64 y.bk) ∧ w_.cell? ⟨gx, 2, none⟩ = some (.string y.nm) ∧ w_.cell? ⟨gx, 3, none⟩ = some (.slice At y.tg.length ct) ∧ w_.cell? ⟨gx, 4, none⟩ = some (.slice As y.sh.length cs) ∧ w_.cell? ⟨w.heap.size, 0, none⟩ = some (.int .i64 s.nb) ∧ w_.cell? ⟨w.heap.size, 1, none⟩ = some (.int .i64 s.nn) ∧ w_.cell? ⟨w.heap.size, 2, none⟩ = some (.int .i64 s.ns) ∧ w_.cell? ⟨w.heap.size, 3, none⟩ = some (.slice Ab s.bs.length cb) ∧ w_.cell? ⟨w.heap.size, 4, none⟩ = some (.slice (some ⟨b1, o1, none⟩) n cn))) (by kernel_rfl) ?_ (fun hHeld => ?_)
                · (first | with_reducible exact QD | with_reducible exact Q5 | with_reducible exact Q6 | with_reducible assumption)
                refine tk 0 ?_; try simp only [Act.put, pz1, pz2, pz3]
                refine tk 1 ?_; try simp only [Act.put, pz1, pz2, pz3]
                refine tk 2 ?_; try simp only [Act.put, pz1, pz2, pz3]
                refine tk 3 ?_; try simp only [Act.put, pz1, pz2, pz3]
                refine tk 4 ?_; try simp only [Act.put, pz1, pz2, pz3]
                refine tk 5 ?_; try simp only [Act.put, pz1, pz2, pz3]
                refine tk 6 ?_; try simp only [Act.put, pz1, pz2, pz3]
                refine tk 7 ?_; try simp only [Act.put, pz1, pz2, pz3]
                refine tk 8 ?_; try simp only [Act.put, pz1, pz2, pz3]
                refine tk 9 ?_; try simp only [Act.put, pz1, pz2, pz3]
                refine tk 10 ?_; try simp only [Act.put, pz1, pz2, pz3]
                refine tu 11 ?_
                try simp only [Act.put, pz1, pz2, pz3]
                refine tu 12 ?_
                try simp only [Act.put, pz1, pz2, pz3]
                refine tu 13 ?_
                try simp only [Act.put, pz1, pz2, pz3]
                refine tu 14 ?_
                try simp only [Act.put, pz1, pz2, pz3]
                refine tu 15 ?_
                try simp only [Act.put, pz1, pz2, pz3]
                refine tu 16 ?_
                try simp only [Act.put, pz1, pz2, pz3]
                refine tu 17 ?_
                try simp only [Act.put, pz1, pz2, pz3]
                refine tu 18 ?_
                try simp only [Act.put, pz1, pz2, pz3]
                refine tu 19 ?_
                try simp only [Act.put, pz1, pz2, pz3]
                refine tu 20 ?_
                try simp only [Act.put, pz1, pz2, pz3]
                refine tu 21 ?_
                try simp only [Act.put, pz1, pz2, pz3]
                refine tu 22 ?_
                try simp only [Act.put, pz1, pz2, pz3]
                refine tu 23 ?_
                try simp only [Act.put, pz1, pz2, pz3]
                refine tu 24 ?_
                try simp only [Act.put, pz1, pz2, pz3]
                refine tk 25 ?_; try simp only [Act.put, pz1, pz2, pz3]
                refine tk 26 ?_; try simp only [Act.put, pz1, pz2, pz3]
                refine tu 27 ?_
                try simp only [Act.put, pz1, pz2, pz3]
                refine tu 28 ?_
                try simp only [Act.put, pz1, pz2, pz3]
                refine tu 29 ?_
                try simp only [Act.put, pz1, pz2, pz3]
                refine tu 30 ?_
                try simp only [Act.put, pz1, pz2, pz3]
                refine tk 31 ?_; try simp only [Act.put, pz1, pz2, pz3]
                refine tk 32 ?_; try simp only [Act.put, pz1, pz2, pz3]
                refine tu 33 ?_
                try simp only [Act.put, pz1, pz2, pz3]
                refine tu 34 ?_
                try simp only [Act.put, pz1, pz2, pz3]
                refine tu 35 ?_
                try simp only [Act.put, pz1, pz2, pz3]
                refine tu 36 ?_
                try simp only [Act.put, pz1, pz2, pz3]
                refine tu 37 ?_
                try simp only [Act.put, pz1, pz2, pz3]
                refine tk 38 ?_; try simp only [Act.put, pz1, pz2, pz3]
                refine tk 39 ?_; try simp only [Act.put, pz1, pz2, pz3]
                refine tu 40 ?_
                try simp only [Act.put, pz1, pz2, pz3]
                refine tu 41 ?_
                try simp only [Act.put, pz1, pz2, pz3]
                refine tu 42 ?_
                try simp only [Act.put, pz1, pz2, pz3]
                refine tu 43 ?_
                try simp only [Act.put, pz1, pz2, pz3]
                refine tk 44 ?_; try simp only [Act.put, pz1, pz2, pz3]
                refine tk 45 ?_; try simp only [Act.put, pz1, pz2, pz3]
                refine tu 46 ?_
                try simp only [Act.put, pz1, pz2, pz3]
                refine tu 47 ?_
                try simp only [Act.put, pz1, pz2, pz3]
                refine tu 48 ?_
                try simp only [Act.put, pz1, pz2, pz3]
                refine tu 49 ?_
                try simp only [Act.put, pz1, pz2, pz3]
                refine tk 50 ?_; try simp only [Act.put, pz1, pz2, pz3]
                refine wpAnyH_done (by kernel_rfl) ?_ _
                refine NoPanic.normal ?_
                go_wp2_with fail
                go_ret
                exact ⟨by rw [HTT.out]; rfl, (by first | exact HB6 | exact HB5 | exact HBd | exact HBa)⟩
              · obtain ⟨N, hNm⟩ : ∃ N, mayN y.nm = N := ⟨_, rfl⟩
                have HNM : Hid (nameB y.nm.data.toList = N) := Lib.hid hNm
                have HN2 := Lib.hid hNm
                obtain ⟨TB, hTB⟩ : ∃ N, mayTg y.tg = N := ⟨_, rfl⟩
                have HTG := Lib.hid hTB
                clear hNm hTB
                rcases (by omega : i = 0 ∨ 0 < i) with hi0 | hi0
                · have hdz : decide (0 < i) = false := decide_eq_false (by omega)
                  have HPO : Hid (prevNk (s.ts.take i) y = true) := Lib.hid (by subst hi0; rfl)
                  have QD := QQ
                  have QL := QL2
                  clear hi0 QQ
                  cases N
                  · have HTT : Hid (T = false) := Lib.hid (by rw [← HI.out, HST.out, HN2.out]; simp)
                    refine wp_region_noPanic ?_
                    refine wp_region_held_drew (S := (fun w_ => w_.cell? ⟨gx, 0, none⟩ = some (.int .i64 y.id) ∧ w_.cell? ⟨gx, 1, none⟩ = some (.int .i64 y.bk) ∧ w_.cell? ⟨gx, 2, none⟩ = some (.string y.nm) ∧ w_.cell? ⟨gx, 3, none⟩ = some (.slice At y.tg.length ct) ∧ w_.cell? ⟨gx, 4, none⟩ = some (.slice As y.sh.length cs) ∧ w_.cell? ⟨w.heap.size, 0, none⟩ = some (.int .i64 s.nb) ∧ w_.cell? ⟨w.heap.size, 1, none⟩ = some (.int .i64 s.nn) ∧ w_.cell? ⟨w.heap.size, 2, none⟩ = some (.int .i64 s.ns) ∧ w_.cell? ⟨w.heap.size, 3, none⟩ = some (.slice Ab s.bs.length cb) ∧ w_.cell? ⟨w.heap.size, 4, none⟩ = some (.slice (some ⟨b1, o1, none⟩) n cn))) (by kernel_rfl) ?_ (fun hHeld => ?_)
                    · (first | with_reducible exact QD | with_reducible exact Q5 | with_reducible exact Q6 | with_reducible assumption)
                    refine tk 0 ?_; try simp only [Act.put, pz1, pz2, pz3]
                    refine tk 1 ?_; try simp only [Act.put, pz1, pz2, pz3]
                    refine tk 2 ?_; try simp only [Act.put, pz1, pz2, pz3]
                    refine tk 3 ?_; try simp only [Act.put, pz1, pz2, pz3]
                    refine tk 4 ?_; try simp only [Act.put, pz1, pz2, pz3]
                    refine tk 5 ?_; try simp only [Act.put, pz1, pz2, pz3]
                    refine tk 6 ?_; try simp only [Act.put, pz1, pz2, pz3]
                    refine tk 7 ?_; try simp only [Act.put, pz1, pz2, pz3]
                    refine tk 8 ?_; try simp only [Act.put, pz1, pz2, pz3]
                    refine tk 9 ?_; try simp only [Act.put, pz1, pz2, pz3]
                    refine tk 10 ?_; try simp only [Act.put, pz1, pz2, pz3]
                    refine tk 11 ?_; try simp only [Act.put, pz1, pz2, pz3]
                    refine tk 12 ?_; try simp only [Act.put, pz1, pz2, pz3]
                    refine tk 13 ?_; try simp only [Act.put, pz1, pz2, pz3]
                    refine tu 14 ?_
                    try simp only [Act.put, pz1, pz2, pz3]
                    refine tu 15 ?_
                    try simp only [Act.put, pz1, pz2, pz3]
                    refine tu 16 ?_
                    try simp only [Act.put, pz1, pz2, pz3]
                    refine tu 17 ?_
                    try simp only [Act.put, pz1, pz2, pz3]
                    refine tu 18 ?_
                    try simp only [Act.put, pz1, pz2, pz3]
                    refine tu 19 ?_
                    try simp only [Act.put, pz1, pz2, pz3]
                    refine tu 20 ?_
                    try simp only [Act.put, pz1, pz2, pz3]
                    refine tu 21 ?_
                    try simp only [Act.put, pz1, pz2, pz3]
                    refine tu 22 ?_
                    try simp only [Act.put, pz1, pz2, pz3]
                    refine tu 23 ?_
                    try simp only [Act.put, pz1, pz2, pz3]
                    refine tk 24 ?_; try simp only [Act.put, pz1, pz2, pz3]
                    refine tk 25 ?_; try simp only [Act.put, pz1, pz2, pz3]
                    refine tk 26 ?_; try simp only [Act.put, pz1, pz2, pz3]
                    refine tk 27 ?_; try simp only [Act.put, pz1, pz2, pz3]
                    refine tk 28 ?_; try simp only [Act.put, pz1, pz2, pz3]
                    refine wpAnyH_ready (rs := [29]) (by kernel_rfl) (by simp) ?_
                    refine AllReadyH.cons (o := ⟨some 61, .call { callee := .value (.func 111), args := #[.tmp 60], argTypes := #[9] }, 4, "ref.go:45", #[⟨28, .data⟩, ⟨26, .chain⟩, ⟨26, .guard⟩], some (26, false)⟩) rfl (fun K hK => ?_) AllReadyH.nil
                    go_simp
                    (go_at_call 111; ((with_reducible refine (rmay_any3 y.nm _ _ hys HNM.out).mono ?_); rintro e' wN ⟨rfl, rfl⟩))
                    go_wp2_with fail
                    refine hK.out _ _ ?_ (fun hNew => ?_)
                    · (first | with_reducible exact QD | with_reducible exact Q5 | with_reducible exact Q6 | with_reducible assumption)
                    clear hK K hHeld
                    have hHeld := hNew
                    clear hNew
                    try simp only [Act.put, pz1, pz2, pz3]
                    refine tk 30 ?_; try simp only [Act.put, pz1, pz2, pz3]
                    refine tk 31 ?_; try simp only [Act.put, pz1, pz2, pz3]
                    refine tk 32 ?_; try simp only [Act.put, pz1, pz2, pz3]
                    refine tu 33 ?_
                    try simp only [Act.put, pz1, pz2, pz3]
                    refine tu 34 ?_
                    try simp only [Act.put, pz1, pz2, pz3]
                    refine tu 35 ?_
                    try simp only [Act.put, pz1, pz2, pz3]
                    refine tu 36 ?_
                    try simp only [Act.put, pz1, pz2, pz3]
                    refine tu 37 ?_
                    try simp only [Act.put, pz1, pz2, pz3]
                    refine tk 38 ?_; try simp only [Act.put, pz1, pz2, pz3]
                    refine tk 39 ?_; try simp only [Act.put, pz1, pz2, pz3]
                    refine tu 40 ?_
                    try simp only [Act.put, pz1, pz2, pz3]
                    refine tu 41 ?_
                    try simp only [Act.put, pz1, pz2, pz3]
                    refine tu 42 ?_
                    try simp only [Act.put, pz1, pz2, pz3]
                    refine tu 43 ?_
                    try simp only [Act.put, pz1, pz2, pz3]
                    refine tk 44 ?_; try simp only [Act.put, pz1, pz2, pz3]
                    refine tk 45 ?_; try simp only [Act.put, pz1, pz2, pz3]
                    refine tu 46 ?_
                    try simp only [Act.put, pz1, pz2, pz3]
                    refine tu 47 ?_
                    try simp only [Act.put, pz1, pz2, pz3]
                    refine tu 48 ?_
                    try simp only [Act.put, pz1, pz2, pz3]
                    refine tu 49 ?_
                    try simp only [Act.put, pz1, pz2, pz3]
                    refine tk 50 ?_; try simp only [Act.put, pz1, pz2, pz3]
                    refine wpAnyH_done (by kernel_rfl) ?_ _
                    refine NoPanic.normal ?_
                    go_wp2_with fail
                    go_ret
                    exact ⟨by rw [HTT.out]; rfl, (by first | exact HB6 | exact HB5 | exact HBd | exact HBa)⟩
                  · by_cases d4 : bookAt s y.bk < 0
                    · have HTT : Hid (T = false) := Lib.hid (by rw [← HI.out, HST.out, decide_eq_false (by omega : ¬ 0 ≤ bookAt s y.bk)]; simp)
                      refine wp_region_noPanic ?_
                      refine wp_region_held_drew (S := (fun w_ => w_.cell? ⟨gx, 0, none⟩ = some (.int .i64 y.id) ∧ w_.cell? ⟨gx, 1, none⟩ = some (.int .i64 y.bk) ∧ w_.cell? ⟨gx, 2, none⟩ = some (.string y.nm) ∧ w_.cell? ⟨gx, 3, none⟩ = some (.slice At y.tg.length ct) ∧ w_.cell? ⟨gx, 4, none⟩ = some (.slice As y.sh.length cs) ∧ w_.cell? ⟨w.heap.size, 0, none⟩ = some (.int .i64 s.nb) ∧ w_.cell? ⟨w.heap.size, 1, none⟩ = some (.int .i64 s.nn) ∧ w_.cell? ⟨w.heap.size, 2, none⟩ = some (.int .i64 s.ns) ∧ w_.cell? ⟨w.heap.size, 3, none⟩ = some (.slice Ab s.bs.length cb) ∧ w_.cell? ⟨w.heap.size, 4, none⟩ = some (.slice (some ⟨b1, o1, none⟩) n cn))) (by kernel_rfl) ?_ (fun hHeld => ?_)
                      · (first | with_reducible exact QD | with_reducible exact Q5 | with_reducible exact Q6 | with_reducible assumption)
                      refine tk 0 ?_; try simp only [Act.put, pz1, pz2, pz3]
                      refine tk 1 ?_; try simp only [Act.put, pz1, pz2, pz3]
                      refine tk 2 ?_; try simp only [Act.put, pz1, pz2, pz3]
                      refine tk 3 ?_; try simp only [Act.put, pz1, pz2, pz3]
                      refine tk 4 ?_; try simp only [Act.put, pz1, pz2, pz3]
                      refine tk 5 ?_; try simp only [Act.put, pz1, pz2, pz3]
                      refine tk 6 ?_; try simp only [Act.put, pz1, pz2, pz3]
                      refine tk 7 ?_; try simp only [Act.put, pz1, pz2, pz3]
                      refine tk 8 ?_; try simp only [Act.put, pz1, pz2, pz3]
                      refine tk 9 ?_; try simp only [Act.put, pz1, pz2, pz3]
                      refine tk 10 ?_; try simp only [Act.put, pz1, pz2, pz3]
                      refine tk 11 ?_; try simp only [Act.put, pz1, pz2, pz3]
                      refine tk 12 ?_; try simp only [Act.put, pz1, pz2, pz3]
                      refine tk 13 ?_; try simp only [Act.put, pz1, pz2, pz3]
                      refine tu 14 ?_
                      try simp only [Act.put, pz1, pz2, pz3]
                      refine tu 15 ?_
                      try simp only [Act.put, pz1, pz2, pz3]
                      refine tu 16 ?_
                      try simp only [Act.put, pz1, pz2, pz3]
                      refine tu 17 ?_
                      try simp only [Act.put, pz1, pz2, pz3]
                      refine tu 18 ?_
                      try simp only [Act.put, pz1, pz2, pz3]
                      refine tu 19 ?_
                      try simp only [Act.put, pz1, pz2, pz3]
                      refine tu 20 ?_
                      try simp only [Act.put, pz1, pz2, pz3]
                      refine tu 21 ?_
                      try simp only [Act.put, pz1, pz2, pz3]
                      refine tu 22 ?_
                      try simp only [Act.put, pz1, pz2, pz3]
                      refine tu 23 ?_
                      try simp only [Act.put, pz1, pz2, pz3]
                      refine tk 24 ?_; try simp only [Act.put, pz1, pz2, pz3]
                      refine tk 25 ?_; try simp only [Act.put, pz1, pz2, pz3]
                      refine tk 26 ?_; try simp only [Act.put, pz1, pz2, pz3]
                      refine tk 27 ?_; try simp only [Act.put, pz1, pz2, pz3]
                      refine tk 28 ?_; try simp only [Act.put, pz1, pz2, pz3]
                      refine wpAnyH_ready (rs := [29]) (by kernel_rfl) (by simp) ?_
                      refine AllReadyH.cons (o := ⟨some 61, .call { callee := .value (.func 111), args := #[.tmp 60], argTypes := #[9] }, 4, "ref.go:45", #[⟨28, .data⟩, ⟨26, .chain⟩, ⟨26, .guard⟩], some (26, false)⟩) rfl (fun K hK => ?_) AllReadyH.nil
                      go_simp
                      (go_at_call 111; ((with_reducible refine (rmay_any3 y.nm _ _ hys HNM.out).mono ?_); rintro e' wN ⟨rfl, rfl⟩))
                      go_wp2_with fail
                      refine hK.out _ _ ?_ (fun hNew => ?_)
                      · (first | with_reducible exact QD | with_reducible exact Q5 | with_reducible exact Q6 | with_reducible assumption)
                      clear hK K hHeld
                      have hHeld := hNew
                      clear hNew
                      try simp only [Act.put, pz1, pz2, pz3]
                      refine tk 30 ?_; try simp only [Act.put, pz1, pz2, pz3]
                      refine tk 31 ?_; try simp only [Act.put, pz1, pz2, pz3]
                      refine tk 32 ?_; try simp only [Act.put, pz1, pz2, pz3]
                      refine tk 33 ?_; try simp only [Act.put, pz1, pz2, pz3]
                      refine tk 34 ?_; try simp only [Act.put, pz1, pz2, pz3]
                      refine tk 35 ?_; try simp only [Act.put, pz1, pz2, pz3]
                      refine wpAnyH_ready (rs := [36]) (by kernel_rfl) (by simp) ?_
                      refine AllReadyH.cons (o := ⟨some 68, .call { callee := .value (.func 82), args := #[.tmp 65, .tmp 67], argTypes := #[25, 3] }, 3, "ref.go:45", #[⟨33, .data⟩, ⟨35, .data⟩, ⟨32, .chain⟩, ⟨32, .guard⟩], some (32, false)⟩) rfl (fun K hK => ?_) AllReadyH.nil
                      go_simp
                      (go_at_call 82; ((with_reducible refine (rBook_any s _ y.bk _ SW HSM.out).mono ?_); rintro e' w5 ⟨rfl, b5⟩; (try rw [HBK.out]); have Q5 : w5.cell? ⟨gx, 0, none⟩ = some (.int .i64 y.id) ∧ w5.cell? ⟨gx, 1, none⟩ = some (.int .i64 y.bk) ∧ w5.cell? ⟨gx, 2, none⟩ = some (.string y.nm) ∧ w5.cell? ⟨gx, 3, none⟩ = some (.slice At y.tg.length ct) ∧ w5.cell? ⟨gx, 4, none⟩ = some (.slice As y.sh.length cs) ∧ w5.cell? ⟨w.heap.size, 0, none⟩ = some (.int .i64 s.nb) ∧ w5.cell? ⟨w.heap.size, 1, none⟩ = some (.int .i64 s.nn) ∧ w5.cell? ⟨w.heap.size, 2, none⟩ = some (.int .i64 s.ns) ∧ w5.cell? ⟨w.heap.size, 3, none⟩ = some (.slice Ab s.bs.length cb) ∧ w5.cell? ⟨w.heap.size, 4, none⟩ = some (.slice (some ⟨b1, o1, none⟩) n cn) := ⟨keepC QD.1 b5 QL.1, keepC QD.2.1 b5 QL.1, keepC QD.2.2.1 b5 QL.1, keepC QD.2.2.2.1 b5 QL.1, keepC QD.2.2.2.2.1 b5 QL.1, keepC QD.2.2.2.2.2.1 b5 QL.2, keepC QD.2.2.2.2.2.2.1 b5 QL.2, keepC QD.2.2.2.2.2.2.2.1 b5 QL.2, keepC QD.2.2.2.2.2.2.2.2.1 b5 QL.2, keepC QD.2.2.2.2.2.2.2.2.2 b5 QL.2⟩; have L5 := lt_keep2 QL b5; have A5 := SA.next b5; have HB5 := btr HBd HBd.size b5))
                      go_wp2_with fail
                      refine hK.out _ _ ?_ (fun hNew => ?_)
                      · (first | with_reducible exact QD | with_reducible exact Q5 | with_reducible exact Q6 | with_reducible assumption)
                      clear hK K hHeld
                      have hHeld := hNew
                      clear hNew
                      try simp only [Act.put, pz1, pz2, pz3]
                      refine tk 37 ?_; try simp only [Act.put, pz1, pz2, pz3]
                      refine tk 38 ?_; try simp only [Act.put, pz1, pz2, pz3]
                      refine tk 39 ?_; try simp only [Act.put, pz1, pz2, pz3]
                      refine tu 40 ?_
                      try simp only [Act.put, pz1, pz2, pz3]
                      refine tu 41 ?_
                      try simp only [Act.put, pz1, pz2, pz3]
                      refine tu 42 ?_
                      try simp only [Act.put, pz1, pz2, pz3]
                      refine tu 43 ?_
                      try simp only [Act.put, pz1, pz2, pz3]
                      refine tk 44 ?_; try simp only [Act.put, pz1, pz2, pz3]
                      refine tk 45 ?_; try simp only [Act.put, pz1, pz2, pz3]
                      refine tu 46 ?_
                      try simp only [Act.put, pz1, pz2, pz3]
                      refine tu 47 ?_
                      try simp only [Act.put, pz1, pz2, pz3]
                      refine tu 48 ?_
                      try simp only [Act.put, pz1, pz2, pz3]
                      refine tu 49 ?_
                      try simp only [Act.put, pz1, pz2, pz3]
                      refine tk 50 ?_; try simp only [Act.put, pz1, pz2, pz3]
                      refine wpAnyH_done (by kernel_rfl) ?_ _
                      refine NoPanic.normal ?_
                      go_wp2_with fail
                      go_ret
                      exact ⟨by rw [HTT.out]; rfl, (by first | exact HB6 | exact HB5 | exact HBd | exact HBa)⟩
                    · obtain ⟨q, hq⟩ : ∃ q : Nat, bookAt s y.bk = (q : Int) := ⟨(bookAt s y.bk).toNat, by omega⟩
                      have HBK := Lib.hid hq
                      have q0 : (0 : Int) ≤ (q : Int) := by omega
                      have q2 : ¬ (q : Int) < 0 := by omega
                      clear hq
                      cases TB
                      · have HTT : Hid (T = false) := Lib.hid (by rw [← HI.out, HST.out, HTG.out]; simp)
                        refine wp_region_noPanic ?_
                        refine wp_region_held_drew (S := (fun w_ => w_.cell? ⟨gx, 0, none⟩ = some (.int .i64 y.id) ∧ w_.cell? ⟨gx, 1, none⟩ = some (.int .i64 y.bk) ∧ w_.cell? ⟨gx, 2, none⟩ = some (.string y.nm) ∧ w_.cell? ⟨gx, 3, none⟩ = some (.slice At y.tg.length ct) ∧ w_.cell? ⟨gx, 4, none⟩ = some (.slice As y.sh.length cs) ∧ w_.cell? ⟨w.heap.size, 0, none⟩ = some (.int .i64 s.nb) ∧ w_.cell? ⟨w.heap.size, 1, none⟩ = some (.int .i64 s.nn) ∧ w_.cell? ⟨w.heap.size, 2, none⟩ = some (.int .i64 s.ns) ∧ w_.cell? ⟨w.heap.size, 3, none⟩ = some (.slice Ab s.bs.length cb) ∧ w_.cell? ⟨w.heap.size, 4, none⟩ = some (.slice (some ⟨b1, o1, none⟩) n cn))) (by kernel_rfl) ?_ (fun hHeld => ?_)
                        · (first | with_reducible exact QD | with_reducible exact Q5 | with_reducible exact Q6 | with_reducible assumption)
                        refine tk 0 ?_; try simp only [Act.put, pz1, pz2, pz3]
                        refine tk 1 ?_; try simp only [Act.put, pz1, pz2, pz3]
                        refine tk 2 ?_; try simp only [Act.put, pz1, pz2, pz3]
                        refine tk 3 ?_; try simp only [Act.put, pz1, pz2, pz3]
                        refine tk 4 ?_; try simp only [Act.put, pz1, pz2, pz3]
                        refine tk 5 ?_; try simp only [Act.put, pz1, pz2, pz3]
                        refine tk 6 ?_; try simp only [Act.put, pz1, pz2, pz3]
                        refine tk 7 ?_; try simp only [Act.put, pz1, pz2, pz3]
                        refine tk 8 ?_; try simp only [Act.put, pz1, pz2, pz3]
                        refine tk 9 ?_; try simp only [Act.put, pz1, pz2, pz3]
                        refine tk 10 ?_; try simp only [Act.put, pz1, pz2, pz3]
                        refine tk 11 ?_; try simp only [Act.put, pz1, pz2, pz3]
                        refine tk 12 ?_; try simp only [Act.put, pz1, pz2, pz3]
                        refine tk 13 ?_; try simp only [Act.put, pz1, pz2, pz3]
                        refine tu 14 ?_
                        try simp only [Act.put, pz1, pz2, pz3]
                        refine tu 15 ?_
                        try simp only [Act.put, pz1, pz2, pz3]
                        refine tu 16 ?_
                        try simp only [Act.put, pz1, pz2, pz3]
                        refine tu 17 ?_
                        try simp only [Act.put, pz1, pz2, pz3]
                        refine tu 18 ?_
                        try simp only [Act.put, pz1, pz2, pz3]
                        refine tu 19 ?_
                        try simp only [Act.put, pz1, pz2, pz3]
                        refine tu 20 ?_
                        try simp only [Act.put, pz1, pz2, pz3]
                        refine tu 21 ?_
                        try simp only [Act.put, pz1, pz2, pz3]
                        refine tu 22 ?_
                        try simp only [Act.put, pz1, pz2, pz3]
                        refine tu 23 ?_
                        try simp only [Act.put, pz1, pz2, pz3]
                        refine tk 24 ?_; try simp only [Act.put, pz1, pz2, pz3]
                        refine tk 25 ?_; try simp only [Act.put, pz1, pz2, pz3]
                        refine tk 26 ?_; try simp only [Act.put, pz1, pz2, pz3]
                        refine tk 27 ?_; try simp only [Act.put, pz1, pz2, pz3]
                        refine tk 28 ?_; try simp only [Act.put, pz1, pz2, pz3]
                        refine wpAnyH_ready (rs := [29]) (by kernel_rfl) (by simp) ?_
                        refine AllReadyH.cons (o := ⟨some 61, .call { callee := .value (.func 111), args := #[.tmp 60], argTypes := #[9] }, 4, "ref.go:45", #[⟨28, .data⟩, ⟨26, .chain⟩, ⟨26, .guard⟩], some (26, false)⟩) rfl (fun K hK => ?_) AllReadyH.nil
                        go_simp
                        (go_at_call 111; ((with_reducible refine (rmay_any3 y.nm _ _ hys HNM.out).mono ?_); rintro e' wN ⟨rfl, rfl⟩))
                        go_wp2_with fail
                        refine hK.out _ _ ?_ (fun hNew => ?_)
                        · (first | with_reducible exact QD | with_reducible exact Q5 | with_reducible exact Q6 | with_reducible assumption)
                        clear hK K hHeld
                        have hHeld := hNew
                        clear hNew
                        try simp only [Act.put, pz1, pz2, pz3]
                        refine tk 30 ?_; try simp only [Act.put, pz1, pz2, pz3]
                        refine tk 31 ?_; try simp only [Act.put, pz1, pz2, pz3]
                        refine tk 32 ?_; try simp only [Act.put, pz1, pz2, pz3]
                        refine tk 33 ?_; try simp only [Act.put, pz1, pz2, pz3]
                        refine tk 34 ?_; try simp only [Act.put, pz1, pz2, pz3]
                        refine tk 35 ?_; try simp only [Act.put, pz1, pz2, pz3]
                        refine wpAnyH_ready (rs := [36]) (by kernel_rfl) (by simp) ?_
                        refine AllReadyH.cons (o := ⟨some 68, .call { callee := .value (.func 82), args := #[.tmp 65, .tmp 67], argTypes := #[25, 3] }, 3, "ref.go:45", #[⟨33, .data⟩, ⟨35, .data⟩, ⟨32, .chain⟩, ⟨32, .guard⟩], some (32, false)⟩) rfl (fun K hK => ?_) AllReadyH.nil
                        go_simp
                        (go_at_call 82; ((with_reducible refine (rBook_any s _ y.bk _ SW HSM.out).mono ?_); rintro e' w5 ⟨rfl, b5⟩; (try rw [HBK.out]); have Q5 : w5.cell? ⟨gx, 0, none⟩ = some (.int .i64 y.id) ∧ w5.cell? ⟨gx, 1, none⟩ = some (.int .i64 y.bk) ∧ w5.cell? ⟨gx, 2, none⟩ = some (.string y.nm) ∧ w5.cell? ⟨gx, 3, none⟩ = some (.slice At y.tg.length ct) ∧ w5.cell? ⟨gx, 4, none⟩ = some (.slice As y.sh.length cs) ∧ w5.cell? ⟨w.heap.size, 0, none⟩ = some (.int .i64 s.nb) ∧ w5.cell? ⟨w.heap.size, 1, none⟩ = some (.int .i64 s.nn) ∧ w5.cell? ⟨w.heap.size, 2, none⟩ = some (.int .i64 s.ns) ∧ w5.cell? ⟨w.heap.size, 3, none⟩ = some (.slice Ab s.bs.length cb) ∧ w5.cell? ⟨w.heap.size, 4, none⟩ = some (.slice (some ⟨b1, o1, none⟩) n cn) := ⟨keepC QD.1 b5 QL.1, keepC QD.2.1 b5 QL.1, keepC QD.2.2.1 b5 QL.1, keepC QD.2.2.2.1 b5 QL.1, keepC QD.2.2.2.2.1 b5 QL.1, keepC QD.2.2.2.2.2.1 b5 QL.2, keepC QD.2.2.2.2.2.2.1 b5 QL.2, keepC QD.2.2.2.2.2.2.2.1 b5 QL.2, keepC QD.2.2.2.2.2.2.2.2.1 b5 QL.2, keepC QD.2.2.2.2.2.2.2.2.2 b5 QL.2⟩; have L5 := lt_keep2 QL b5; have A5 := SA.next b5; have HB5 := btr HBd HBd.size b5))
                        go_wp2_with fail
                        refine hK.out _ _ ?_ (fun hNew => ?_)
                        · (first | with_reducible exact QD | with_reducible exact Q5 | with_reducible exact Q6 | with_reducible assumption)
                        clear hK K hHeld
                        have hHeld := hNew
                        clear hNew
                        try simp only [Act.put, pz1, pz2, pz3]
                        refine tk 37 ?_; try simp only [Act.put, pz1, pz2, pz3]
                        refine tk 38 ?_; try simp only [Act.put, pz1, pz2, pz3]
                        refine tk 39 ?_; try simp only [Act.put, pz1, pz2, pz3]
                        refine tk 40 ?_; try simp only [Act.put, pz1, pz2, pz3]
                        refine tk 41 ?_; try simp only [Act.put, pz1, pz2, pz3]
                        refine wpAnyH_ready (rs := [42]) (by kernel_rfl) (by simp) ?_
                        refine AllReadyH.cons (o := ⟨some 74, .call { callee := .value (.func 112), args := #[.tmp 73], argTypes := #[38] }, 4, "ref.go:45", #[⟨41, .data⟩, ⟨39, .chain⟩, ⟨39, .guard⟩], some (39, false)⟩) rfl (fun K hK => ?_) AllReadyH.nil
                        go_simp
                        (go_at_call 112; ((with_reducible refine (rtags_any y.tg _ _ _ A5 HTS.out.1 HTS.out.2 _ HTG.out).mono ?_); rintro e' w6 ⟨rfl, b6⟩; have Q6 : w6.cell? ⟨gx, 0, none⟩ = some (.int .i64 y.id) ∧ w6.cell? ⟨gx, 1, none⟩ = some (.int .i64 y.bk) ∧ w6.cell? ⟨gx, 2, none⟩ = some (.string y.nm) ∧ w6.cell? ⟨gx, 3, none⟩ = some (.slice At y.tg.length ct) ∧ w6.cell? ⟨gx, 4, none⟩ = some (.slice As y.sh.length cs) ∧ w6.cell? ⟨w.heap.size, 0, none⟩ = some (.int .i64 s.nb) ∧ w6.cell? ⟨w.heap.size, 1, none⟩ = some (.int .i64 s.nn) ∧ w6.cell? ⟨w.heap.size, 2, none⟩ = some (.int .i64 s.ns) ∧ w6.cell? ⟨w.heap.size, 3, none⟩ = some (.slice Ab s.bs.length cb) ∧ w6.cell? ⟨w.heap.size, 4, none⟩ = some (.slice (some ⟨b1, o1, none⟩) n cn) := ⟨keepC Q5.1 b6 L5.1, keepC Q5.2.1 b6 L5.1, keepC Q5.2.2.1 b6 L5.1, keepC Q5.2.2.2.1 b6 L5.1, keepC Q5.2.2.2.2.1 b6 L5.1, keepC Q5.2.2.2.2.2.1 b6 L5.2, keepC Q5.2.2.2.2.2.2.1 b6 L5.2, keepC Q5.2.2.2.2.2.2.2.1 b6 L5.2, keepC Q5.2.2.2.2.2.2.2.2.1 b6 L5.2, keepC Q5.2.2.2.2.2.2.2.2.2 b6 L5.2⟩; have L6 := lt_keep2 L5 b6; have HB6 := btr HB5 HB5.size b6))
                        go_wp2_with fail
                        refine hK.out _ _ ?_ (fun hNew => ?_)
                        · (first | with_reducible exact QD | with_reducible exact Q5 | with_reducible exact Q6 | with_reducible assumption)
                        clear hK K hHeld
                        have hHeld := hNew
                        clear hNew
                        try simp only [Act.put, pz1, pz2, pz3]
                        refine tk 43 ?_; try simp only [Act.put, pz1, pz2, pz3]
                        refine tk 44 ?_; try simp only [Act.put, pz1, pz2, pz3]
                        refine tk 45 ?_; try simp only [Act.put, pz1, pz2, pz3]
                        refine tu 46 ?_
                        try simp only [Act.put, pz1, pz2, pz3]
                        refine tu 47 ?_
                        try simp only [Act.put, pz1, pz2, pz3]
                        refine tu 48 ?_
                        try simp only [Act.put, pz1, pz2, pz3]
                        refine tu 49 ?_
                        try simp only [Act.put, pz1, pz2, pz3]
                        refine tk 50 ?_; try simp only [Act.put, pz1, pz2, pz3]
                        refine wpAnyH_done (by kernel_rfl) ?_ _
                        refine NoPanic.normal ?_
                        go_wp2_with fail
                        go_ret
                        exact ⟨by rw [HTT.out]; rfl, (by first | exact HB6 | exact HB5 | exact HBd | exact HBa)⟩
                      · by_cases d5 : 8 < y.sh.length
                        · have g5 : (8 : Int) < (y.sh.length : Int) := by omega
                          have HTT : Hid (T = false) := Lib.hid (by rw [← HI.out, HST.out, decide_eq_false (by omega : ¬ y.sh.length ≤ 8)]; simp)
                          refine wp_region_noPanic ?_
                          refine wp_region_held_drew (S := (fun w_ => w_.cell? ⟨gx, 0, none⟩ = some (.int .i64 y.id) ∧ w_.cell? ⟨gx, 1, none⟩ = some (.int .i64 y.bk) ∧ w_.cell? ⟨gx, 2, none⟩ = some (.string y.nm) ∧ w_.cell? ⟨gx, 3, none⟩ = some (.slice At y.tg.length ct) ∧ w_.cell? ⟨gx, 4, none⟩ = some (.slice As y.sh.length cs) ∧ w_.cell? ⟨w.heap.size, 0, none⟩ = some (.int .i64 s.nb) ∧ w_.cell? ⟨w.heap.size, 1, none⟩ = some (.int .i64 s.nn) ∧ w_.cell? ⟨w.heap.size, 2, none⟩ = some (.int .i64 s.ns) ∧ w_.cell? ⟨w.heap.size, 3, none⟩ = some (.slice Ab s.bs.length cb) ∧ w_.cell? ⟨w.heap.size, 4, none⟩ = some (.slice (some ⟨b1, o1, none⟩) n cn))) (by kernel_rfl) ?_ (fun hHeld => ?_)
                          · (first | with_reducible exact QD | with_reducible exact Q5 | with_reducible exact Q6 | with_reducible assumption)
                          refine tk 0 ?_; try simp only [Act.put, pz1, pz2, pz3]
                          refine tk 1 ?_; try simp only [Act.put, pz1, pz2, pz3]
                          refine tk 2 ?_; try simp only [Act.put, pz1, pz2, pz3]
                          refine tk 3 ?_; try simp only [Act.put, pz1, pz2, pz3]
                          refine tk 4 ?_; try simp only [Act.put, pz1, pz2, pz3]
                          refine tk 5 ?_; try simp only [Act.put, pz1, pz2, pz3]
                          refine tk 6 ?_; try simp only [Act.put, pz1, pz2, pz3]
                          refine tk 7 ?_; try simp only [Act.put, pz1, pz2, pz3]
                          refine tk 8 ?_; try simp only [Act.put, pz1, pz2, pz3]
                          refine tk 9 ?_; try simp only [Act.put, pz1, pz2, pz3]
                          refine tk 10 ?_; try simp only [Act.put, pz1, pz2, pz3]
                          refine tk 11 ?_; try simp only [Act.put, pz1, pz2, pz3]
                          refine tk 12 ?_; try simp only [Act.put, pz1, pz2, pz3]
                          refine tk 13 ?_; try simp only [Act.put, pz1, pz2, pz3]
                          refine tu 14 ?_
                          try simp only [Act.put, pz1, pz2, pz3]
                          refine tu 15 ?_
                          try simp only [Act.put, pz1, pz2, pz3]
                          refine tu 16 ?_
                          try simp only [Act.put, pz1, pz2, pz3]
                          refine tu 17 ?_
                          try simp only [Act.put, pz1, pz2, pz3]
                          refine tu 18 ?_
                          try simp only [Act.put, pz1, pz2, pz3]
                          refine tu 19 ?_
                          try simp only [Act.put, pz1, pz2, pz3]
                          refine tu 20 ?_
                          try simp only [Act.put, pz1, pz2, pz3]
                          refine tu 21 ?_
                          try simp only [Act.put, pz1, pz2, pz3]
                          refine tu 22 ?_
                          try simp only [Act.put, pz1, pz2, pz3]
                          refine tu 23 ?_
                          try simp only [Act.put, pz1, pz2, pz3]
                          refine tk 24 ?_; try simp only [Act.put, pz1, pz2, pz3]
                          refine tk 25 ?_; try simp only [Act.put, pz1, pz2, pz3]
                          refine tk 26 ?_; try simp only [Act.put, pz1, pz2, pz3]
                          refine tk 27 ?_; try simp only [Act.put, pz1, pz2, pz3]
                          refine tk 28 ?_; try simp only [Act.put, pz1, pz2, pz3]
                          refine wpAnyH_ready (rs := [29]) (by kernel_rfl) (by simp) ?_
                          refine AllReadyH.cons (o := ⟨some 61, .call { callee := .value (.func 111), args := #[.tmp 60], argTypes := #[9] }, 4, "ref.go:45", #[⟨28, .data⟩, ⟨26, .chain⟩, ⟨26, .guard⟩], some (26, false)⟩) rfl (fun K hK => ?_) AllReadyH.nil
                          go_simp
                          (go_at_call 111; ((with_reducible refine (rmay_any3 y.nm _ _ hys HNM.out).mono ?_); rintro e' wN ⟨rfl, rfl⟩))
                          go_wp2_with fail
                          refine hK.out _ _ ?_ (fun hNew => ?_)
                          · (first | with_reducible exact QD | with_reducible exact Q5 | with_reducible exact Q6 | with_reducible assumption)
                          clear hK K hHeld
                          have hHeld := hNew
                          clear hNew
                          try simp only [Act.put, pz1, pz2, pz3]
                          refine tk 30 ?_; try simp only [Act.put, pz1, pz2, pz3]
                          refine tk 31 ?_; try simp only [Act.put, pz1, pz2, pz3]
                          refine tk 32 ?_; try simp only [Act.put, pz1, pz2, pz3]
                          refine tk 33 ?_; try simp only [Act.put, pz1, pz2, pz3]
                          refine tk 34 ?_; try simp only [Act.put, pz1, pz2, pz3]
                          refine tk 35 ?_; try simp only [Act.put, pz1, pz2, pz3]
                          refine wpAnyH_ready (rs := [36]) (by kernel_rfl) (by simp) ?_
                          refine AllReadyH.cons (o := ⟨some 68, .call { callee := .value (.func 82), args := #[.tmp 65, .tmp 67], argTypes := #[25, 3] }, 3, "ref.go:45", #[⟨33, .data⟩, ⟨35, .data⟩, ⟨32, .chain⟩, ⟨32, .guard⟩], some (32, false)⟩) rfl (fun K hK => ?_) AllReadyH.nil
                          go_simp
                          (go_at_call 82; ((with_reducible refine (rBook_any s _ y.bk _ SW HSM.out).mono ?_); rintro e' w5 ⟨rfl, b5⟩; (try rw [HBK.out]); have Q5 : w5.cell? ⟨gx, 0, none⟩ = some (.int .i64 y.id) ∧ w5.cell? ⟨gx, 1, none⟩ = some (.int .i64 y.bk) ∧ w5.cell? ⟨gx, 2, none⟩ = some (.string y.nm) ∧ w5.cell? ⟨gx, 3, none⟩ = some (.slice At y.tg.length ct) ∧ w5.cell? ⟨gx, 4, none⟩ = some (.slice As y.sh.length cs) ∧ w5.cell? ⟨w.heap.size, 0, none⟩ = some (.int .i64 s.nb) ∧ w5.cell? ⟨w.heap.size, 1, none⟩ = some (.int .i64 s.nn) ∧ w5.cell? ⟨w.heap.size, 2, none⟩ = some (.int .i64 s.ns) ∧ w5.cell? ⟨w.heap.size, 3, none⟩ = some (.slice Ab s.bs.length cb) ∧ w5.cell? ⟨w.heap.size, 4, none⟩ = some (.slice (some ⟨b1, o1, none⟩) n cn) := ⟨keepC QD.1 b5 QL.1, keepC QD.2.1 b5 QL.1, keepC QD.2.2.1 b5 QL.1, keepC QD.2.2.2.1 b5 QL.1, keepC QD.2.2.2.2.1 b5 QL.1, keepC QD.2.2.2.2.2.1 b5 QL.2, keepC QD.2.2.2.2.2.2.1 b5 QL.2, keepC QD.2.2.2.2.2.2.2.1 b5 QL.2, keepC QD.2.2.2.2.2.2.2.2.1 b5 QL.2, keepC QD.2.2.2.2.2.2.2.2.2 b5 QL.2⟩; have L5 := lt_keep2 QL b5; have A5 := SA.next b5; have HB5 := btr HBd HBd.size b5))
                          go_wp2_with fail
                          refine hK.out _ _ ?_ (fun hNew => ?_)
                          · (first | with_reducible exact QD | with_reducible exact Q5 | with_reducible exact Q6 | with_reducible assumption)
                          clear hK K hHeld
                          have hHeld := hNew
                          clear hNew
                          try simp only [Act.put, pz1, pz2, pz3]
                          refine tk 37 ?_; try simp only [Act.put, pz1, pz2, pz3]
                          refine tk 38 ?_; try simp only [Act.put, pz1, pz2, pz3]
                          refine tk 39 ?_; try simp only [Act.put, pz1, pz2, pz3]
                          refine tk 40 ?_; try simp only [Act.put, pz1, pz2, pz3]
                          refine tk 41 ?_; try simp only [Act.put, pz1, pz2, pz3]
                          refine wpAnyH_ready (rs := [42]) (by kernel_rfl) (by simp) ?_
                          refine AllReadyH.cons (o := ⟨some 74, .call { callee := .value (.func 112), args := #[.tmp 73], argTypes := #[38] }, 4, "ref.go:45", #[⟨41, .data⟩, ⟨39, .chain⟩, ⟨39, .guard⟩], some (39, false)⟩) rfl (fun K hK => ?_) AllReadyH.nil
                          go_simp
                          (go_at_call 112; ((with_reducible refine (rtags_any y.tg _ _ _ A5 HTS.out.1 HTS.out.2 _ HTG.out).mono ?_); rintro e' w6 ⟨rfl, b6⟩; have Q6 : w6.cell? ⟨gx, 0, none⟩ = some (.int .i64 y.id) ∧ w6.cell? ⟨gx, 1, none⟩ = some (.int .i64 y.bk) ∧ w6.cell? ⟨gx, 2, none⟩ = some (.string y.nm) ∧ w6.cell? ⟨gx, 3, none⟩ = some (.slice At y.tg.length ct) ∧ w6.cell? ⟨gx, 4, none⟩ = some (.slice As y.sh.length cs) ∧ w6.cell? ⟨w.heap.size, 0, none⟩ = some (.int .i64 s.nb) ∧ w6.cell? ⟨w.heap.size, 1, none⟩ = some (.int .i64 s.nn) ∧ w6.cell? ⟨w.heap.size, 2, none⟩ = some (.int .i64 s.ns) ∧ w6.cell? ⟨w.heap.size, 3, none⟩ = some (.slice Ab s.bs.length cb) ∧ w6.cell? ⟨w.heap.size, 4, none⟩ = some (.slice (some ⟨b1, o1, none⟩) n cn) := ⟨keepC Q5.1 b6 L5.1, keepC Q5.2.1 b6 L5.1, keepC Q5.2.2.1 b6 L5.1, keepC Q5.2.2.2.1 b6 L5.1, keepC Q5.2.2.2.2.1 b6 L5.1, keepC Q5.2.2.2.2.2.1 b6 L5.2, keepC Q5.2.2.2.2.2.2.1 b6 L5.2, keepC Q5.2.2.2.2.2.2.2.1 b6 L5.2, keepC Q5.2.2.2.2.2.2.2.2.1 b6 L5.2, keepC Q5.2.2.2.2.2.2.2.2.2 b6 L5.2⟩; have L6 := lt_keep2 L5 b6; have HB6 := btr HB5 HB5.size b6))
                          go_wp2_with fail
                          refine hK.out _ _ ?_ (fun hNew => ?_)
                          · (first | with_reducible exact QD | with_reducible exact Q5 | with_reducible exact Q6 | with_reducible assumption)
                          clear hK K hHeld
                          have hHeld := hNew
                          clear hNew
                          try simp only [Act.put, pz1, pz2, pz3]
                          refine tk 43 ?_; try simp only [Act.put, pz1, pz2, pz3]
                          refine tk 44 ?_; try simp only [Act.put, pz1, pz2, pz3]
                          refine tk 45 ?_; try simp only [Act.put, pz1, pz2, pz3]
                          refine tk 46 ?_; try simp only [Act.put, pz1, pz2, pz3]
                          refine tk 47 ?_; try simp only [Act.put, pz1, pz2, pz3]
                          refine tk 48 ?_; try simp only [Act.put, pz1, pz2, pz3]
                          refine tk 49 ?_; try simp only [Act.put, pz1, pz2, pz3]
                          refine tk 50 ?_; try simp only [Act.put, pz1, pz2, pz3]
                          refine wpAnyH_done (by kernel_rfl) ?_ _
                          refine NoPanic.normal ?_
                          go_wp2_with fail
                          go_ret
                          exact ⟨by rw [HTT.out]; rfl, (by first | exact HB6 | exact HB5 | exact HBd | exact HBa)⟩
                        · have g5 : ¬ (8 : Int) < (y.sh.length : Int) := by omega
                          refine wp_region_noPanic ?_
                          refine wp_region_held_drew (S := (fun w_ => w_.cell? ⟨gx, 0, none⟩ = some (.int .i64 y.id) ∧ w_.cell? ⟨gx, 1, none⟩ = some (.int .i64 y.bk) ∧ w_.cell? ⟨gx, 2, none⟩ = some (.string y.nm) ∧ w_.cell? ⟨gx, 3, none⟩ = some (.slice At y.tg.length ct) ∧ w_.cell? ⟨gx, 4, none⟩ = some (.slice As y.sh.length cs) ∧ w_.cell? ⟨w.heap.size, 0, none⟩ = some (.int .i64 s.nb) ∧ w_.cell? ⟨w.heap.size, 1, none⟩ = some (.int .i64 s.nn) ∧ w_.cell? ⟨w.heap.size, 2, none⟩ = some (.int .i64 s.ns) ∧ w_.cell? ⟨w.heap.size, 3, none⟩ = some (.slice Ab s.bs.length cb) ∧ w_.cell? ⟨w.heap.size, 4, none⟩ = some (.slice (some ⟨b1, o1, none⟩) n cn))) (by kernel_rfl) ?_ (fun hHeld => ?_)
                          · (first | with_reducible exact QD | with_reducible exact Q5 | with_reducible exact Q6 | with_reducible assumption)
                          refine tk 0 ?_; try simp only [Act.put, pz1, pz2, pz3]
                          refine tk 1 ?_; try simp only [Act.put, pz1, pz2, pz3]
                          refine tk 2 ?_; try simp only [Act.put, pz1, pz2, pz3]
                          refine tk 3 ?_; try simp only [Act.put, pz1, pz2, pz3]
                          refine tk 4 ?_; try simp only [Act.put, pz1, pz2, pz3]
                          refine tk 5 ?_; try simp only [Act.put, pz1, pz2, pz3]
                          refine tk 6 ?_; try simp only [Act.put, pz1, pz2, pz3]
                          refine tk 7 ?_; try simp only [Act.put, pz1, pz2, pz3]
                          refine tk 8 ?_; try simp only [Act.put, pz1, pz2, pz3]
                          refine tk 9 ?_; try simp only [Act.put, pz1, pz2, pz3]
                          refine tk 10 ?_; try simp only [Act.put, pz1, pz2, pz3]
                          refine tk 11 ?_; try simp only [Act.put, pz1, pz2, pz3]
                          refine tk 12 ?_; try simp only [Act.put, pz1, pz2, pz3]
                          refine tk 13 ?_; try simp only [Act.put, pz1, pz2, pz3]
                          refine tu 14 ?_
                          try simp only [Act.put, pz1, pz2, pz3]
                          refine tu 15 ?_
                          try simp only [Act.put, pz1, pz2, pz3]
                          refine tu 16 ?_
                          try simp only [Act.put, pz1, pz2, pz3]
                          refine tu 17 ?_
                          try simp only [Act.put, pz1, pz2, pz3]
                          refine tu 18 ?_
                          try simp only [Act.put, pz1, pz2, pz3]
                          refine tu 19 ?_
                          try simp only [Act.put, pz1, pz2, pz3]
                          refine tu 20 ?_
                          try simp only [Act.put, pz1, pz2, pz3]
                          refine tu 21 ?_
                          try simp only [Act.put, pz1, pz2, pz3]
                          refine tu 22 ?_
                          try simp only [Act.put, pz1, pz2, pz3]
                          refine tu 23 ?_
                          try simp only [Act.put, pz1, pz2, pz3]
                          refine tk 24 ?_; try simp only [Act.put, pz1, pz2, pz3]
                          refine tk 25 ?_; try simp only [Act.put, pz1, pz2, pz3]
                          refine tk 26 ?_; try simp only [Act.put, pz1, pz2, pz3]
                          refine tk 27 ?_; try simp only [Act.put, pz1, pz2, pz3]
                          refine tk 28 ?_; try simp only [Act.put, pz1, pz2, pz3]
                          refine wpAnyH_ready (rs := [29]) (by kernel_rfl) (by simp) ?_
                          refine AllReadyH.cons (o := ⟨some 61, .call { callee := .value (.func 111), args := #[.tmp 60], argTypes := #[9] }, 4, "ref.go:45", #[⟨28, .data⟩, ⟨26, .chain⟩, ⟨26, .guard⟩], some (26, false)⟩) rfl (fun K hK => ?_) AllReadyH.nil
                          go_simp
                          (go_at_call 111; ((with_reducible refine (rmay_any3 y.nm _ _ hys HNM.out).mono ?_); rintro e' wN ⟨rfl, rfl⟩))
                          go_wp2_with fail
                          refine hK.out _ _ ?_ (fun hNew => ?_)
                          · (first | with_reducible exact QD | with_reducible exact Q5 | with_reducible exact Q6 | with_reducible assumption)
                          clear hK K hHeld
                          have hHeld := hNew
                          clear hNew
                          try simp only [Act.put, pz1, pz2, pz3]
                          refine tk 30 ?_; try simp only [Act.put, pz1, pz2, pz3]
                          refine tk 31 ?_; try simp only [Act.put, pz1, pz2, pz3]
                          refine tk 32 ?_; try simp only [Act.put, pz1, pz2, pz3]
                          refine tk 33 ?_; try simp only [Act.put, pz1, pz2, pz3]
                          refine tk 34 ?_; try simp only [Act.put, pz1, pz2, pz3]
                          refine tk 35 ?_; try simp only [Act.put, pz1, pz2, pz3]
                          refine wpAnyH_ready (rs := [36]) (by kernel_rfl) (by simp) ?_
                          refine AllReadyH.cons (o := ⟨some 68, .call { callee := .value (.func 82), args := #[.tmp 65, .tmp 67], argTypes := #[25, 3] }, 3, "ref.go:45", #[⟨33, .data⟩, ⟨35, .data⟩, ⟨32, .chain⟩, ⟨32, .guard⟩], some (32, false)⟩) rfl (fun K hK => ?_) AllReadyH.nil
                          go_simp
                          (go_at_call 82; ((with_reducible refine (rBook_any s _ y.bk _ SW HSM.out).mono ?_); rintro e' w5 ⟨rfl, b5⟩; (try rw [HBK.out]); have Q5 : w5.cell? ⟨gx, 0, none⟩ = some (.int .i64 y.id) ∧ w5.cell? ⟨gx, 1, none⟩ = some (.int .i64 y.bk) ∧ w5.cell? ⟨gx, 2, none⟩ = some (.string y.nm) ∧ w5.cell? ⟨gx, 3, none⟩ = some (.slice At y.tg.length ct) ∧ w5.cell? ⟨gx, 4, none⟩ = some (.slice As y.sh.length cs) ∧ w5.cell? ⟨w.heap.size, 0, none⟩ = some (.int .i64 s.nb) ∧ w5.cell? ⟨w.heap.size, 1, none⟩ = some (.int .i64 s.nn) ∧ w5.cell? ⟨w.heap.size, 2, none⟩ = some (.int .i64 s.ns) ∧ w5.cell? ⟨w.heap.size, 3, none⟩ = some (.slice Ab s.bs.length cb) ∧ w5.cell? ⟨w.heap.size, 4, none⟩ = some (.slice (some ⟨b1, o1, none⟩) n cn) := ⟨keepC QD.1 b5 QL.1, keepC QD.2.1 b5 QL.1, keepC QD.2.2.1 b5 QL.1, keepC QD.2.2.2.1 b5 QL.1, keepC QD.2.2.2.2.1 b5 QL.1, keepC QD.2.2.2.2.2.1 b5 QL.2, keepC QD.2.2.2.2.2.2.1 b5 QL.2, keepC QD.2.2.2.2.2.2.2.1 b5 QL.2, keepC QD.2.2.2.2.2.2.2.2.1 b5 QL.2, keepC QD.2.2.2.2.2.2.2.2.2 b5 QL.2⟩; have L5 := lt_keep2 QL b5; have A5 := SA.next b5; have HB5 := btr HBd HBd.size b5))
                          go_wp2_with fail
                          refine hK.out _ _ ?_ (fun hNew => ?_)
                          · (first | with_reducible exact QD | with_reducible exact Q5 | with_reducible exact Q6 | with_reducible assumption)
                          clear hK K hHeld
                          have hHeld := hNew
                          clear hNew
                          try simp only [Act.put, pz1, pz2, pz3]
                          refine tk 37 ?_; try simp only [Act.put, pz1, pz2, pz3]
                          refine tk 38 ?_; try simp only [Act.put, pz1, pz2, pz3]
                          refine tk 39 ?_; try simp only [Act.put, pz1, pz2, pz3]
                          refine tk 40 ?_; try simp only [Act.put, pz1, pz2, pz3]
                          refine tk 41 ?_; try simp only [Act.put, pz1, pz2, pz3]
                          refine wpAnyH_ready (rs := [42]) (by kernel_rfl) (by simp) ?_
                          refine AllReadyH.cons (o := ⟨some 74, .call { callee := .value (.func 112), args := #[.tmp 73], argTypes := #[38] }, 4, "ref.go:45", #[⟨41, .data⟩, ⟨39, .chain⟩, ⟨39, .guard⟩], some (39, false)⟩) rfl (fun K hK => ?_) AllReadyH.nil
                          go_simp
                          (go_at_call 112; ((with_reducible refine (rtags_any y.tg _ _ _ A5 HTS.out.1 HTS.out.2 _ HTG.out).mono ?_); rintro e' w6 ⟨rfl, b6⟩; have Q6 : w6.cell? ⟨gx, 0, none⟩ = some (.int .i64 y.id) ∧ w6.cell? ⟨gx, 1, none⟩ = some (.int .i64 y.bk) ∧ w6.cell? ⟨gx, 2, none⟩ = some (.string y.nm) ∧ w6.cell? ⟨gx, 3, none⟩ = some (.slice At y.tg.length ct) ∧ w6.cell? ⟨gx, 4, none⟩ = some (.slice As y.sh.length cs) ∧ w6.cell? ⟨w.heap.size, 0, none⟩ = some (.int .i64 s.nb) ∧ w6.cell? ⟨w.heap.size, 1, none⟩ = some (.int .i64 s.nn) ∧ w6.cell? ⟨w.heap.size, 2, none⟩ = some (.int .i64 s.ns) ∧ w6.cell? ⟨w.heap.size, 3, none⟩ = some (.slice Ab s.bs.length cb) ∧ w6.cell? ⟨w.heap.size, 4, none⟩ = some (.slice (some ⟨b1, o1, none⟩) n cn) := ⟨keepC Q5.1 b6 L5.1, keepC Q5.2.1 b6 L5.1, keepC Q5.2.2.1 b6 L5.1, keepC Q5.2.2.2.1 b6 L5.1, keepC Q5.2.2.2.2.1 b6 L5.1, keepC Q5.2.2.2.2.2.1 b6 L5.2, keepC Q5.2.2.2.2.2.2.1 b6 L5.2, keepC Q5.2.2.2.2.2.2.2.1 b6 L5.2, keepC Q5.2.2.2.2.2.2.2.2.1 b6 L5.2, keepC Q5.2.2.2.2.2.2.2.2.2 b6 L5.2⟩; have L6 := lt_keep2 L5 b6; have HB6 := btr HB5 HB5.size b6))
                          go_wp2_with fail
                          refine hK.out _ _ ?_ (fun hNew => ?_)
                          · (first | with_reducible exact QD | with_reducible exact Q5 | with_reducible exact Q6 | with_reducible assumption)
                          clear hK K hHeld
                          have hHeld := hNew
                          clear hNew
                          try simp only [Act.put, pz1, pz2, pz3]
                          refine tk 43 ?_; try simp only [Act.put, pz1, pz2, pz3]
                          refine tk 44 ?_; try simp only [Act.put, pz1, pz2, pz3]
                          refine tk 45 ?_; try simp only [Act.put, pz1, pz2, pz3]
                          refine tk 46 ?_; try simp only [Act.put, pz1, pz2, pz3]
                          refine tk 47 ?_; try simp only [Act.put, pz1, pz2, pz3]
                          refine tk 48 ?_; try simp only [Act.put, pz1, pz2, pz3]
                          refine tk 49 ?_; try simp only [Act.put, pz1, pz2, pz3]
                          refine tk 50 ?_; try simp only [Act.put, pz1, pz2, pz3]
                          refine wpAnyH_done (by kernel_rfl) ?_ _
                          refine NoPanic.normal ?_
                          go_wp2_with fail
                          obtain ⟨wn, hwn⟩ : ∃ V : World, V = w6 := ⟨_, rfl⟩
                          have Qn : w6.cell? ⟨gx, 1, none⟩ = some (.int .i64 y.bk) ∧ w6.cell? ⟨gx, 2, none⟩ = some (.string y.nm) ∧ w6.cell? ⟨w.heap.size, 4, none⟩ = some (.slice (some ⟨b1, o1, none⟩) n cn) := ⟨Q6.2.1, Q6.2.2.1, Q6.2.2.2.2.2.2.2.2.2⟩
                          have Bn : Blk w6 w.heap.size 25 #[.int .i64 s.nb, .int .i64 s.nn, .int .i64 s.ns, .slice Ab s.bs.length cb, .slice (some ⟨b1, o1, none⟩) n cn] := (C2.below (below_dr wa) C2.lt |>.below b5 (C2.below (below_dr wa) C2.lt).lt).below b6 ((C2.below (below_dr wa) C2.lt).below b5 (C2.below (below_dr wa) C2.lt).lt).lt
                          have S6 := (SW.next b5).next b6
                          have HQn := Lib.hid Qn
                          have HBN := Lib.hid Bn
                          have HS6 := Lib.hid S6
                          have LN := Lib.hid L6
                          clear hwn Q5 Q6 Qn Bn S6 SW SA A5 BX C2 HBa HBd HB5 L5 b5 b6 QD QL HQQ
                          have H0 : Hid ((s.ts.take 0).any (fun c => sameS c.nm y.nm && c.bk == y.bk) = false) := Lib.hid rfl
                          go_loopw [5] (fun kv wr => ∃ k : Nat, k ≤ i ∧ kv = .int .i64 k ∧ Hid ((s.ts.take k).any (fun c => sameS c.nm y.nm && c.bk == y.bk) = false) ∧ Below w.heap.size w wr ∧ Below w6.heap.size w6 wr) (fun kv _ => i - (intOf kv).toNat)
                          case atStart => exact ⟨0, by omega, rfl, H0, HB6, Below.refl _ _⟩
                          case round =>
                            clear H0 HB6
                            obtain ⟨k, hk, rfl, HZ, HBq, hbq⟩ := hrel
                            by_cases hlk : k < i
                            · obtain ⟨z, hz⟩ : ∃ z, s.ts[k]? = some z := ⟨_, List.getElem?_eq_getElem (by have := HN.out; omega)⟩
                              obtain ⟨e2, he2⟩ : ∃ e, es[k]? = some e := ⟨_, List.getElem?_eq_getElem (by have := HN.out; omega)⟩
                              obtain ⟨Aq2, cq2, Ar2, cr2, rfl, -⟩ := (hnt k z e2 hz he2).ex
                              have cz1 : wr.cell? ⟨b1, o1 + k * 5 + 1, none⟩ = some (.int .i64 z.bk) := (HBq.cell (p := ⟨b1, _, none⟩) l1).trans (HQ1.out k _ he2 1 _ rfl)
                              have cz2 : wr.cell? ⟨b1, o1 + k * 5 + 2, none⟩ = some (.string z.nm) := (HBq.cell (p := ⟨b1, _, none⟩) l1).trans (HQ1.out k _ he2 2 _ rfl)
                              have x1 := keepC HQn.out.1 hbq LN.out.1
                              have x2 := keepC HQn.out.2.1 hbq LN.out.1
                              have k4 := keepC HQn.out.2.2 hbq LN.out.2
                              have HZK := Lib.hid hz
                              have n0 : (0 : Int) ≤ (k : Int) := by omega
                              have n1 : (k : Int) < (i : Int) := by omega
                              have n2 : (k : Int) < (n : Int) := by omega
                              have QE : wr.drew.cell? ⟨w.heap.size, 4, none⟩ = some (.slice (some ⟨b1, o1, none⟩) n cn) ∧ wr.drew.cell? ⟨b1, o1 + k * 5 + 2, none⟩ = some (.string z.nm) ∧ wr.drew.cell? ⟨b1, o1 + k * 5 + 1, none⟩ = some (.int .i64 z.bk) ∧ wr.drew.cell? ⟨gx, 2, none⟩ = some (.string y.nm) ∧ wr.drew.cell? ⟨gx, 1, none⟩ = some (.int .i64 y.bk) := ⟨drew_cell k4, drew_cell cz2, drew_cell cz1, drew_cell x2, drew_cell x1⟩
                              clear hz he2 cz1 cz2 x1 x2 k4
                              go_upto_region 12 with fail
                              rcases (by cases hq : (z.nm.toList == y.nm.toList) <;> simp : (z.nm.toList == y.nm.toList) = true ∨ (z.nm.toList == y.nm.toList) = false) with hp | hp
                              · rcases (by cases hq : (z.bk == y.bk) <;> simp : (z.bk == y.bk) = true ∨ (z.bk == y.bk) = false) with hr | hr
                                · have hpr : (fun c : Nt => sameS c.nm y.nm && c.bk == y.bk) z = true := by simp [sameS, hp, hr]
                                  have HTT : Hid (T = false) := Lib.hid (by rw [← HI.out, HST.out, List.any_eq_true.2 ⟨z, List.mem_take_iff_getElem.2 ⟨k, by have := HN.out; omega, (List.getElem?_eq_some_iff.1 HZK.out).2⟩, hpr⟩]; simp)
                                  clear hpr
                                  refine wp_region_noPanic ?_
                                  refine wp_region_held_drew (S := (fun w_ => w_.cell? ⟨w.heap.size, 4, none⟩ = some (.slice (some ⟨b1, o1, none⟩) n cn) ∧ w_.cell? ⟨b1, o1 + k * 5 + 2, none⟩ = some (.string z.nm) ∧ w_.cell? ⟨b1, o1 + k * 5 + 1, none⟩ = some (.int .i64 z.bk) ∧ w_.cell? ⟨gx, 2, none⟩ = some (.string y.nm) ∧ w_.cell? ⟨gx, 1, none⟩ = some (.int .i64 y.bk))) (by kernel_rfl) ?_ (fun hHeld => ?_)
                                  · (first | with_reducible exact QE | with_reducible assumption)
                                  refine tk 0 ?_; try simp only [Act.put, pz1, pz2, pz3]
                                  refine tk 1 ?_; try simp only [Act.put, pz1, pz2, pz3]
                                  refine tk 2 ?_; try simp only [Act.put, pz1, pz2, pz3]
                                  refine tk 3 ?_; try simp only [Act.put, pz1, pz2, pz3]
                                  refine tk 4 ?_; try simp only [Act.put, pz1, pz2, pz3]
                                  refine tk 5 ?_; try simp only [Act.put, pz1, pz2, pz3]
                                  refine tk 6 ?_; try simp only [Act.put, pz1, pz2, pz3]
                                  refine tk 7 ?_; try simp only [Act.put, pz1, pz2, pz3]
                                  refine tk 8 ?_; try simp only [Act.put, pz1, pz2, pz3]
                                  refine tk 9 ?_; try simp only [Act.put, pz1, pz2, pz3]
                                  refine tk 10 ?_; try simp only [Act.put, pz1, pz2, pz3]
                                  refine tk 11 ?_; try simp only [Act.put, pz1, pz2, pz3]
                                  refine tk 12 ?_; try simp only [Act.put, pz1, pz2, pz3]
                                  refine tk 13 ?_; try simp only [Act.put, pz1, pz2, pz3]
                                  refine tk 14 ?_; try simp only [Act.put, pz1, pz2, pz3]
                                  refine tk 15 ?_; try simp only [Act.put, pz1, pz2, pz3]
                                  refine tk 16 ?_; try simp only [Act.put, pz1, pz2, pz3]
                                  refine tk 17 ?_; try simp only [Act.put, pz1, pz2, pz3]
                                  refine tk 18 ?_; try simp only [Act.put, pz1, pz2, pz3]
                                  refine tk 19 ?_; try simp only [Act.put, pz1, pz2, pz3]
                                  refine wpAnyH_done (by kernel_rfl) ?_ _
                                  refine NoPanic.normal ?_
                                  go_wp2_with fail
                                  go_ret
                                  exact ⟨by rw [HTT.out]; rfl, (by first | exact HBq | exact drew_below HBq)⟩
                                · have HZX : Hid ((fun c : Nt => sameS c.nm y.nm && c.bk == y.bk) z = false) := Lib.hid (by simp [hr])
                                  refine wp_region_noPanic ?_
                                  refine wp_region_held_drew (S := (fun w_ => w_.cell? ⟨w.heap.size, 4, none⟩ = some (.slice (some ⟨b1, o1, none⟩) n cn) ∧ w_.cell? ⟨b1, o1 + k * 5 + 2, none⟩ = some (.string z.nm) ∧ w_.cell? ⟨b1, o1 + k * 5 + 1, none⟩ = some (.int .i64 z.bk) ∧ w_.cell? ⟨gx, 2, none⟩ = some (.string y.nm) ∧ w_.cell? ⟨gx, 1, none⟩ = some (.int .i64 y.bk))) (by kernel_rfl) ?_ (fun hHeld => ?_)
                                  · (first | with_reducible exact QE | with_reducible assumption)
                                  refine tk 0 ?_; try simp only [Act.put, pz1, pz2, pz3]
                                  refine tk 1 ?_; try simp only [Act.put, pz1, pz2, pz3]
                                  refine tk 2 ?_; try simp only [Act.put, pz1, pz2, pz3]
                                  refine tk 3 ?_; try simp only [Act.put, pz1, pz2, pz3]
                                  refine tk 4 ?_; try simp only [Act.put, pz1, pz2, pz3]
                                  refine tk 5 ?_; try simp only [Act.put, pz1, pz2, pz3]
                                  refine tk 6 ?_; try simp only [Act.put, pz1, pz2, pz3]
                                  refine tk 7 ?_; try simp only [Act.put, pz1, pz2, pz3]
                                  refine tk 8 ?_; try simp only [Act.put, pz1, pz2, pz3]
                                  refine tk 9 ?_; try simp only [Act.put, pz1, pz2, pz3]
                                  refine tk 10 ?_; try simp only [Act.put, pz1, pz2, pz3]
                                  refine tk 11 ?_; try simp only [Act.put, pz1, pz2, pz3]
                                  refine tk 12 ?_; try simp only [Act.put, pz1, pz2, pz3]
                                  refine tk 13 ?_; try simp only [Act.put, pz1, pz2, pz3]
                                  refine tk 14 ?_; try simp only [Act.put, pz1, pz2, pz3]
                                  refine tk 15 ?_; try simp only [Act.put, pz1, pz2, pz3]
                                  refine tk 16 ?_; try simp only [Act.put, pz1, pz2, pz3]
                                  refine tk 17 ?_; try simp only [Act.put, pz1, pz2, pz3]
                                  refine tk 18 ?_; try simp only [Act.put, pz1, pz2, pz3]
                                  refine tk 19 ?_; try simp only [Act.put, pz1, pz2, pz3]
                                  refine wpAnyH_done (by kernel_rfl) ?_ _
                                  refine NoPanic.normal ?_
                                  go_wp2_with fail
                                  go_roundw
                                  case rel => exact ⟨k + 1, by omega, by go_num, Lib.hid (any_next HZ.out HZK.out HZX.out), (by first | exact HBq | exact drew_below HBq), (by first | exact hbq | exact drew_below hbq)⟩
                                  case measure => simp [intOf]; omega
                              · have HZX : Hid ((fun c : Nt => sameS c.nm y.nm && c.bk == y.bk) z = false) := Lib.hid (by simp [sameS, hp])
                                refine wp_region_noPanic ?_
                                refine wp_region_held_drew (S := (fun w_ => w_.cell? ⟨w.heap.size, 4, none⟩ = some (.slice (some ⟨b1, o1, none⟩) n cn) ∧ w_.cell? ⟨b1, o1 + k * 5 + 2, none⟩ = some (.string z.nm) ∧ w_.cell? ⟨b1, o1 + k * 5 + 1, none⟩ = some (.int .i64 z.bk) ∧ w_.cell? ⟨gx, 2, none⟩ = some (.string y.nm) ∧ w_.cell? ⟨gx, 1, none⟩ = some (.int .i64 y.bk))) (by kernel_rfl) ?_ (fun hHeld => ?_)
                                · (first | with_reducible exact QE | with_reducible assumption)
                                refine tk 0 ?_; try simp only [Act.put, pz1, pz2, pz3]
                                refine tk 1 ?_; try simp only [Act.put, pz1, pz2, pz3]
                                refine tk 2 ?_; try simp only [Act.put, pz1, pz2, pz3]
                                refine tk 3 ?_; try simp only [Act.put, pz1, pz2, pz3]
                                refine tk 4 ?_; try simp only [Act.put, pz1, pz2, pz3]
                                refine tk 5 ?_; try simp only [Act.put, pz1, pz2, pz3]
                                refine tk 6 ?_; try simp only [Act.put, pz1, pz2, pz3]
                                refine tk 7 ?_; try simp only [Act.put, pz1, pz2, pz3]
                                refine tk 8 ?_; try simp only [Act.put, pz1, pz2, pz3]
                                refine tk 9 ?_; try simp only [Act.put, pz1, pz2, pz3]
                                refine tu 10 ?_
                                try simp only [Act.put, pz1, pz2, pz3]
                                refine tu 11 ?_
                                try simp only [Act.put, pz1, pz2, pz3]
                                refine tu 12 ?_
                                try simp only [Act.put, pz1, pz2, pz3]
                                refine tu 13 ?_
                                try simp only [Act.put, pz1, pz2, pz3]
                                refine tu 14 ?_
                                try simp only [Act.put, pz1, pz2, pz3]
                                refine tu 15 ?_
                                try simp only [Act.put, pz1, pz2, pz3]
                                refine tu 16 ?_
                                try simp only [Act.put, pz1, pz2, pz3]
                                refine tu 17 ?_
                                try simp only [Act.put, pz1, pz2, pz3]
                                refine tu 18 ?_
                                try simp only [Act.put, pz1, pz2, pz3]
                                refine tk 19 ?_; try simp only [Act.put, pz1, pz2, pz3]
                                refine wpAnyH_done (by kernel_rfl) ?_ _
                                refine NoPanic.normal ?_
                                go_wp2_with fail
                                go_roundw
                                case rel => exact ⟨k + 1, by omega, by go_num, Lib.hid (any_next HZ.out HZK.out HZX.out), (by first | exact HBq | exact drew_below HBq), (by first | exact hbq | exact drew_below hbq)⟩
                                case measure => simp [intOf]; omega
                            · have hki : k = i := by omega
                              subst hki
                              have HNX : Hid (ntOk s (s.ts.take (k + 1)) (s.ts.drop (k + 1)) = T) := Lib.hid (by rw [← HI.out, HST.out, HN2.out, HZ.out, HPO.out, HTG.out, decide_eq_true (by omega : 1 ≤ y.id), decide_eq_true (by omega : y.id < s.nn), decide_eq_true (by omega : 0 ≤ bookAt s y.bk), decide_eq_true (by omega : y.sh.length ≤ 8)]; rfl)
                              have Cq := HBN.out.below hbq HBN.out.lt
                              have Sq := HS6.out.next hbq
                              go_wp2_with fail
                              go_roundw
                              case rel => exact ⟨k + 1, by omega, by go_num, HNX, HBq, Cq, Sq⟩
                              case measure => simp [intOf]; omega
                · obtain ⟨j, hj⟩ : ∃ j, i = j + 1 := ⟨i - 1, by omega⟩
                  obtain ⟨p, hp0⟩ : ∃ p, s.ts[j]? = some p := ⟨_, List.getElem?_eq_getElem (by have := HN.out; omega)⟩
                  obtain ⟨e1, he1⟩ : ∃ e, es[j]? = some e := ⟨_, List.getElem?_eq_getElem (by have := HN.out; omega)⟩
                  obtain ⟨Aq, cq, Ar, cr, rfl, -⟩ := (hnt j p e1 hp0 he1).ex
                  have yp0 := HQ1.out j _ he1 0 _ rfl
                  simp only [Nat.add_zero] at yp0
                  have yp := (HBa.cell (p := ⟨b1, _, none⟩) l1).trans yp0
                  have HPO : Hid (prevNk (s.ts.take i) y = decide (p.id < y.id)) := Lib.hid (by rw [hj]; exact prevNk_at hp0)
                  have j00 : (0 : Int) ≤ (j : Int) := by omega
                  have j01 : (j : Int) < (n : Int) := by omega
                  have jsub : (i : Int) - 1 = (j : Int) := by omega
                  have jwr : IntKind.i64.wrap (j : Int) = (j : Int) := wrapS _ (by omega) (by omega)
                  have QD : wa.drew.cell? ⟨gx, 0, none⟩ = some (.int .i64 y.id) ∧ wa.drew.cell? ⟨gx, 1, none⟩ = some (.int .i64 y.bk) ∧ wa.drew.cell? ⟨gx, 2, none⟩ = some (.string y.nm) ∧ wa.drew.cell? ⟨gx, 3, none⟩ = some (.slice At y.tg.length ct) ∧ wa.drew.cell? ⟨gx, 4, none⟩ = some (.slice As y.sh.length cs) ∧ wa.drew.cell? ⟨w.heap.size, 0, none⟩ = some (.int .i64 s.nb) ∧ wa.drew.cell? ⟨w.heap.size, 1, none⟩ = some (.int .i64 s.nn) ∧ wa.drew.cell? ⟨w.heap.size, 2, none⟩ = some (.int .i64 s.ns) ∧ wa.drew.cell? ⟨w.heap.size, 3, none⟩ = some (.slice Ab s.bs.length cb) ∧ wa.drew.cell? ⟨w.heap.size, 4, none⟩ = some (.slice (some ⟨b1, o1, none⟩) n cn) ∧ wa.drew.cell? ⟨b1, o1 + j * 5, none⟩ = some (.int .i64 p.id) := ⟨QQ.1, QQ.2.1, QQ.2.2.1, QQ.2.2.2.1, QQ.2.2.2.2.1, QQ.2.2.2.2.2.1, QQ.2.2.2.2.2.2.1, QQ.2.2.2.2.2.2.2.1, QQ.2.2.2.2.2.2.2.2.1, QQ.2.2.2.2.2.2.2.2.2, drew_cell yp⟩
                  have QL : gx < wa.drew.heap.size ∧ w.heap.size < wa.drew.heap.size ∧ b1 < wa.drew.heap.size := ⟨QL2.1, QL2.2, l1a⟩
                  clear hj hp0 he1 yp0 yp QQ
                  by_cases d3 : y.id ≤ p.id
                  · have HTT : Hid (T = false) := Lib.hid (by rw [← HI.out, HST.out, HPO.out, decide_eq_false (by omega : ¬ p.id < y.id)]; simp)
                    refine wp_region_noPanic ?_
                    refine wp_region_held_drew (S := (fun w_ => w_.cell? ⟨gx, 0, none⟩ = some (.int .i64 y.id) ∧ w_.cell? ⟨gx, 1, none⟩ = some (.int .i64 y.bk) ∧ w_.cell? ⟨gx, 2, none⟩ = some (.string y.nm) ∧ w_.cell? ⟨gx, 3, none⟩ = some (.slice At y.tg.length ct) ∧ w_.cell? ⟨gx, 4, none⟩ = some (.slice As y.sh.length cs) ∧ w_.cell? ⟨w.heap.size, 0, none⟩ = some (.int .i64 s.nb) ∧ w_.cell? ⟨w.heap.size, 1, none⟩ = some (.int .i64 s.nn) ∧ w_.cell? ⟨w.heap.size, 2, none⟩ = some (.int .i64 s.ns) ∧ w_.cell? ⟨w.heap.size, 3, none⟩ = some (.slice Ab s.bs.length cb) ∧ w_.cell? ⟨w.heap.size, 4, none⟩ = some (.slice (some ⟨b1, o1, none⟩) n cn) ∧ w_.cell? ⟨b1, o1 + j * 5, none⟩ = some (.int .i64 p.id))) (by kernel_rfl) ?_ (fun hHeld => ?_)
                    · (first | with_reducible exact QD | with_reducible exact Q5 | with_reducible exact Q6 | with_reducible assumption)
                    refine tk 0 ?_; try simp only [Act.put, pz1, pz2, pz3]
                    refine tk 1 ?_; try simp only [Act.put, pz1, pz2, pz3]
                    refine tk 2 ?_; try simp only [Act.put, pz1, pz2, pz3]
                    refine tk 3 ?_; try simp only [Act.put, pz1, pz2, pz3]
                    refine tk 4 ?_; try simp only [Act.put, pz1, pz2, pz3]
                    refine tk 5 ?_; try simp only [Act.put, pz1, pz2, pz3]
                    refine tk 6 ?_; try simp only [Act.put, pz1, pz2, pz3]
                    refine tk 7 ?_; try simp only [Act.put, pz1, pz2, pz3]
                    refine tk 8 ?_; try simp only [Act.put, pz1, pz2, pz3]
                    refine tk 9 ?_; try simp only [Act.put, pz1, pz2, pz3]
                    refine tk 10 ?_; try simp only [Act.put, pz1, pz2, pz3]
                    refine tk 11 ?_; try simp only [Act.put, pz1, pz2, pz3]
                    refine tk 12 ?_; try simp only [Act.put, pz1, pz2, pz3]
                    refine tk 13 ?_; try simp only [Act.put, pz1, pz2, pz3]
                    refine tk 14 ?_; try simp only [Act.put, pz1, pz2, pz3]
                    refine tk 15 ?_; try simp only [Act.put, pz1, pz2, pz3]
                    refine tk 16 ?_; try simp only [Act.put, pz1, pz2, pz3]
                    refine tk 17 ?_; try simp only [Act.put, pz1, pz2, pz3]
                    refine tk 18 ?_; try simp only [Act.put, pz1, pz2, pz3]
                    refine tk 19 ?_; try simp only [Act.put, pz1, pz2, pz3]
                    refine tk 20 ?_; try simp only [Act.put, pz1, pz2, pz3]
                    refine tk 21 ?_; try simp only [Act.put, pz1, pz2, pz3]
                    refine tk 22 ?_; try simp only [Act.put, pz1, pz2, pz3]
                    refine tk 23 ?_; try simp only [Act.put, pz1, pz2, pz3]
                    refine tk 24 ?_; try simp only [Act.put, pz1, pz2, pz3]
                    refine tk 25 ?_; try simp only [Act.put, pz1, pz2, pz3]
                    refine tk 26 ?_; try simp only [Act.put, pz1, pz2, pz3]
                    refine tu 27 ?_
                    try simp only [Act.put, pz1, pz2, pz3]
                    refine tu 28 ?_
                    try simp only [Act.put, pz1, pz2, pz3]
                    refine tu 29 ?_
                    try simp only [Act.put, pz1, pz2, pz3]
                    refine tu 30 ?_
                    try simp only [Act.put, pz1, pz2, pz3]
                    refine tk 31 ?_; try simp only [Act.put, pz1, pz2, pz3]
                    refine tk 32 ?_; try simp only [Act.put, pz1, pz2, pz3]
                    refine tu 33 ?_
                    try simp only [Act.put, pz1, pz2, pz3]
                    refine tu 34 ?_
                    try simp only [Act.put, pz1, pz2, pz3]
                    refine tu 35 ?_
                    try simp only [Act.put, pz1, pz2, pz3]
                    refine tu 36 ?_
                    try simp only [Act.put, pz1, pz2, pz3]
                    refine tu 37 ?_
                    try simp only [Act.put, pz1, pz2, pz3]
                    refine tk 38 ?_; try simp only [Act.put, pz1, pz2, pz3]
                    refine tk 39 ?_; try simp only [Act.put, pz1, pz2, pz3]
                    refine tu 40 ?_
                    try simp only [Act.put, pz1, pz2, pz3]
                    refine tu 41 ?_
                    try simp only [Act.put, pz1, pz2, pz3]
                    refine tu 42 ?_
                    try simp only [Act.put, pz1, pz2, pz3]
                    refine tu 43 ?_
                    try simp only [Act.put, pz1, pz2, pz3]
                    refine tk 44 ?_; try simp only [Act.put, pz1, pz2, pz3]
                    refine tk 45 ?_; try simp only [Act.put, pz1, pz2, pz3]
                    refine tu 46 ?_
                    try simp only [Act.put, pz1, pz2, pz3]
                    refine tu 47 ?_
                    try simp only [Act.put, pz1, pz2, pz3]
                    refine tu 48 ?_
                    try simp only [Act.put, pz1, pz2, pz3]
                    refine tu 49 ?_
                    try simp only [Act.put, pz1, pz2, pz3]
                    refine tk 50 ?_; try simp only [Act.put, pz1, pz2, pz3]
                    refine wpAnyH_done (by kernel_rfl) ?_ _
                    refine NoPanic.normal ?_
                    go_wp2_with fail
                    go_ret
                    exact ⟨by rw [HTT.out]; rfl, (by first | exact HB6 | exact HB5 | exact HBd | exact HBa)⟩
                  · have HPT : Hid (prevNk (s.ts.take i) y = true) := Lib.hid (by rw [HPO.out]; exact decide_eq_true (by omega))
                    clear HPO
                    have HPO := HPT
                    cases N
                    · have HTT : Hid (T = false) := Lib.hid (by rw [← HI.out, HST.out, HN2.out]; simp)
                      refine wp_region_noPanic ?_
                      refine wp_region_held_drew (S := (fun w_ => w_.cell? ⟨gx, 0, none⟩ = some (.int .i64 y.id) ∧ w_.cell? ⟨gx, 1, none⟩ = some (.int .i64 y.bk) ∧ w_.cell? ⟨gx, 2, none⟩ = some (.string y.nm) ∧ w_.cell? ⟨gx, 3, none⟩ = some (.slice At y.tg.length ct) ∧ w_.cell? ⟨gx, 4, none⟩ = some (.slice As y.sh.length cs) ∧ w_.cell? ⟨w.heap.size, 0, none⟩ = some (.int .i64 s.nb) ∧ w_.cell? ⟨w.heap.size, 1, none⟩ = some (.int .i64 s.nn) ∧ w_.cell? ⟨w.heap.size, 2, none⟩ = some (.int .i64 s.ns) ∧ w_.cell? ⟨w.heap.size, 3, none⟩ = some (.slice Ab s.bs.length cb) ∧ w_.cell? ⟨w.heap.size, 4, none⟩ = some (.slice (some ⟨b1, o1, none⟩) n cn) ∧ w_.cell? ⟨b1, o1 + j * 5, none⟩ = some (.int .i64 p.id))) (by kernel_rfl) ?_ (fun hHeld => ?_)
                      · (first | with_reducible exact QD | with_reducible exact Q5 | with_reducible exact Q6 | with_reducible assumption)
                      refine tk 0 ?_; try simp only [Act.put, pz1, pz2, pz3]
                      refine tk 1 ?_; try simp only [Act.put, pz1, pz2, pz3]
                      refine tk 2 ?_; try simp only [Act.put, pz1, pz2, pz3]
                      refine tk 3 ?_; try simp only [Act.put, pz1, pz2, pz3]
                      refine tk 4 ?_; try simp only [Act.put, pz1, pz2, pz3]
                      refine tk 5 ?_; try simp only [Act.put, pz1, pz2, pz3]
                      refine tk 6 ?_; try simp only [Act.put, pz1, pz2, pz3]
                      refine tk 7 ?_; try simp only [Act.put, pz1, pz2, pz3]
                      refine tk 8 ?_; try simp only [Act.put, pz1, pz2, pz3]
                      refine tk 9 ?_; try simp only [Act.put, pz1, pz2, pz3]
                      refine tk 10 ?_; try simp only [Act.put, pz1, pz2, pz3]
                      refine tk 11 ?_; try simp only [Act.put, pz1, pz2, pz3]
                      refine tk 12 ?_; try simp only [Act.put, pz1, pz2, pz3]
                      refine tk 13 ?_; try simp only [Act.put, pz1, pz2, pz3]
                      refine tk 14 ?_; try simp only [Act.put, pz1, pz2, pz3]
                      refine tk 15 ?_; try simp only [Act.put, pz1, pz2, pz3]
                      refine tk 16 ?_; try simp only [Act.put, pz1, pz2, pz3]
                      refine tk 17 ?_; try simp only [Act.put, pz1, pz2, pz3]
                      refine tk 18 ?_; try simp only [Act.put, pz1, pz2, pz3]
                      refine tk 19 ?_; try simp only [Act.put, pz1, pz2, pz3]
                      refine tk 20 ?_; try simp only [Act.put, pz1, pz2, pz3]
                      refine tk 21 ?_; try simp only [Act.put, pz1, pz2, pz3]
                      refine tk 22 ?_; try simp only [Act.put, pz1, pz2, pz3]
                      refine tk 23 ?_; try simp only [Act.put, pz1, pz2, pz3]
                      refine tk 24 ?_; try simp only [Act.put, pz1, pz2, pz3]
                      refine tk 25 ?_; try simp only [Act.put, pz1, pz2, pz3]
                      refine tk 26 ?_; try simp only [Act.put, pz1, pz2, pz3]
                      refine tk 27 ?_; try simp only [Act.put, pz1, pz2, pz3]
                      refine tk 28 ?_; try simp only [Act.put, pz1, pz2, pz3]
                      refine wpAnyH_ready (rs := [29]) (by kernel_rfl) (by simp) ?_
                      refine AllReadyH.cons (o := ⟨some 61, .call { callee := .value (.func 111), args := #[.tmp 60], argTypes := #[9] }, 4, "ref.go:45", #[⟨28, .data⟩, ⟨26, .chain⟩, ⟨26, .guard⟩], some (26, false)⟩) rfl (fun K hK => ?_) AllReadyH.nil
                      go_simp
                      (go_at_call 111; ((with_reducible refine (rmay_any3 y.nm _ _ hys HNM.out).mono ?_); rintro e' wN ⟨rfl, rfl⟩))
                      go_wp2_with fail
                      refine hK.out _ _ ?_ (fun hNew => ?_)
                      · (first | with_reducible exact QD | with_reducible exact Q5 | with_reducible exact Q6 | with_reducible assumption)
                      clear hK K hHeld
                      have hHeld := hNew
                      clear hNew
                      try simp only [Act.put, pz1, pz2, pz3]
                      refine tk 30 ?_; try simp only [Act.put, pz1, pz2, pz3]
                      refine tk 31 ?_; try simp only [Act.put, pz1, pz2, pz3]
                      refine tk 32 ?_; try simp only [Act.put, pz1, pz2, pz3]
                      refine tu 33 ?_
                      try simp only [Act.put, pz1, pz2, pz3]
                      refine tu 34 ?_
                      try simp only [Act.put, pz1, pz2, pz3]
                      refine tu 35 ?_
                      try simp only [Act.put, pz1, pz2, pz3]
                      refine tu 36 ?_
                      try simp only [Act.put, pz1, pz2, pz3]
                      refine tu 37 ?_
                      try simp only [Act.put, pz1, pz2, pz3]
                      refine tk 38 ?_; try simp only [Act.put, pz1, pz2, pz3]
                      refine tk 39 ?_; try simp only [Act.put, pz1, pz2, pz3]
                      refine tu 40 ?_
                      try simp only [Act.put, pz1, pz2, pz3]
                      refine tu 41 ?_
                      try simp only [Act.put, pz1, pz2, pz3]
                      refine tu 42 ?_
                      try simp only [Act.put, pz1, pz2, pz3]
                      refine tu 43 ?_
                      try simp only [Act.put, pz1, pz2, pz3]
                      refine tk 44 ?_; try simp only [Act.put, pz1, pz2, pz3]
                      refine tk 45 ?_; try simp only [Act.put, pz1, pz2, pz3]
                      refine tu 46 ?_
                      try simp only [Act.put, pz1, pz2, pz3]
                      refine tu 47 ?_
                      try simp only [Act.put, pz1, pz2, pz3]
                      refine tu 48 ?_
                      try simp only [Act.put, pz1, pz2, pz3]
                      refine tu 49 ?_
                      try simp only [Act.put, pz1, pz2, pz3]
                      refine tk 50 ?_; try simp only [Act.put, pz1, pz2, pz3]
                      refine wpAnyH_done (by kernel_rfl) ?_ _
                      refine NoPanic.normal ?_
                      go_wp2_with fail
                      go_ret
                      exact ⟨by rw [HTT.out]; rfl, (by first | exact HB6 | exact HB5 | exact HBd | exact HBa)⟩
                    · by_cases d4 : bookAt s y.bk < 0
                      · have HTT : Hid (T = false) := Lib.hid (by rw [← HI.out, HST.out, decide_eq_false (by omega : ¬ 0 ≤ bookAt s y.bk)]; simp)
                        refine wp_region_noPanic ?_
                        refine wp_region_held_drew (S := (fun w_ => w_.cell? ⟨gx, 0, none⟩ = some (.int .i64 y.id) ∧ w_.cell? ⟨gx, 1, none⟩ = some (.int .i64 y.bk) ∧ w_.cell? ⟨gx, 2, none⟩ = some (.string y.nm) ∧ w_.cell? ⟨gx, 3, none⟩ = some (.slice At y.tg.length ct) ∧ w_.cell? ⟨gx, 4, none⟩ = some (.slice As y.sh.length cs) ∧ w_.cell? ⟨w.heap.size, 0, none⟩ = some (.int .i64 s.nb) ∧ w_.cell? ⟨w.heap.size, 1, none⟩ = some (.int .i64 s.nn) ∧ w_.cell? ⟨w.heap.size, 2, none⟩ = some (.int .i64 s.ns) ∧ w_.cell? ⟨w.heap.size, 3, none⟩ = some (.slice Ab s.bs.length cb) ∧ w_.cell? ⟨w.heap.size, 4, none⟩ = some (.slice (some ⟨b1, o1, none⟩) n cn) ∧ w_.cell? ⟨b1, o1 + j * 5, none⟩ = some (.int .i64 p.id))) (by kernel_rfl) ?_ (fun hHeld => ?_)
                        · (first | with_reducible exact QD | with_reducible exact Q5 | with_reducible exact Q6 | with_reducible assumption)
                        refine tk 0 ?_; try simp only [Act.put, pz1, pz2, pz3]
                        refine tk 1 ?_; try simp only [Act.put, pz1, pz2, pz3]
                        refine tk 2 ?_; try simp only [Act.put, pz1, pz2, pz3]
                        refine tk 3 ?_; try simp only [Act.put, pz1, pz2, pz3]
                        refine tk 4 ?_; try simp only [Act.put, pz1, pz2, pz3]
                        refine tk 5 ?_; try simp only [Act.put, pz1, pz2, pz3]
                        refine tk 6 ?_; try simp only [Act.put, pz1, pz2, pz3]
                        refine tk 7 ?_; try simp only [Act.put, pz1, pz2, pz3]
                        refine tk 8 ?_; try simp only [Act.put, pz1, pz2, pz3]
                        refine tk 9 ?_; try simp only [Act.put, pz1, pz2, pz3]
                        refine tk 10 ?_; try simp only [Act.put, pz1, pz2, pz3]
                        refine tk 11 ?_; try simp only [Act.put, pz1, pz2, pz3]
                        refine tk 12 ?_; try simp only [Act.put, pz1, pz2, pz3]
                        refine tk 13 ?_; try simp only [Act.put, pz1, pz2, pz3]
                        refine tk 14 ?_; try simp only [Act.put, pz1, pz2, pz3]
                        refine tk 15 ?_; try simp only [Act.put, pz1, pz2, pz3]
                        refine tk 16 ?_; try simp only [Act.put, pz1, pz2, pz3]
                        refine tk 17 ?_; try simp only [Act.put, pz1, pz2, pz3]
                        refine tk 18 ?_; try simp only [Act.put, pz1, pz2, pz3]
                        refine tk 19 ?_; try simp only [Act.put, pz1, pz2, pz3]
                        refine tk 20 ?_; try simp only [Act.put, pz1, pz2, pz3]
                        refine tk 21 ?_; try simp only [Act.put, pz1, pz2, pz3]
                        refine tk 22 ?_; try simp only [Act.put, pz1, pz2, pz3]
                        refine tk 23 ?_; try simp only [Act.put, pz1, pz2, pz3]
                        refine tk 24 ?_; try simp only [Act.put, pz1, pz2, pz3]
                        refine tk 25 ?_; try simp only [Act.put, pz1, pz2, pz3]
                        refine tk 26 ?_; try simp only [Act.put, pz1, pz2, pz3]
                        refine tk 27 ?_; try simp only [Act.put, pz1, pz2, pz3]
                        refine tk 28 ?_; try simp only [Act.put, pz1, pz2, pz3]
                        refine wpAnyH_ready (rs := [29]) (by kernel_rfl) (by simp) ?_
                        refine AllReadyH.cons (o := ⟨some 61, .call { callee := .value (.func 111), args := #[.tmp 60], argTypes := #[9] }, 4, "ref.go:45", #[⟨28, .data⟩, ⟨26, .chain⟩, ⟨26, .guard⟩], some (26, false)⟩) rfl (fun K hK => ?_) AllReadyH.nil
                        go_simp
                        (go_at_call 111; ((with_reducible refine (rmay_any3 y.nm _ _ hys HNM.out).mono ?_); rintro e' wN ⟨rfl, rfl⟩))
                        go_wp2_with fail
                        refine hK.out _ _ ?_ (fun hNew => ?_)
                        · (first | with_reducible exact QD | with_reducible exact Q5 | with_reducible exact Q6 | with_reducible assumption)
                        clear hK K hHeld
                        have hHeld := hNew
                        clear hNew
                        try simp only [Act.put, pz1, pz2, pz3]
                        refine tk 30 ?_; try simp only [Act.put, pz1, pz2, pz3]
                        refine tk 31 ?_; try simp only [Act.put, pz1, pz2, pz3]
                        refine tk 32 ?_; try simp only [Act.put, pz1, pz2, pz3]
                        refine tk 33 ?_; try simp only [Act.put, pz1, pz2, pz3]
                        refine tk 34 ?_; try simp only [Act.put, pz1, pz2, pz3]
                        refine tk 35 ?_; try simp only [Act.put, pz1, pz2, pz3]
                        refine wpAnyH_ready (rs := [36]) (by kernel_rfl) (by simp) ?_
                        refine AllReadyH.cons (o := ⟨some 68, .call { callee := .value (.func 82), args := #[.tmp 65, .tmp 67], argTypes := #[25, 3] }, 3, "ref.go:45", #[⟨33, .data⟩, ⟨35, .data⟩, ⟨32, .chain⟩, ⟨32, .guard⟩], some (32, false)⟩) rfl (fun K hK => ?_) AllReadyH.nil
                        go_simp
                        (go_at_call 82; ((with_reducible refine (rBook_any s _ y.bk _ SW HSM.out).mono ?_); rintro e' w5 ⟨rfl, b5⟩; (try rw [HBK.out]); have Q5 : w5.cell? ⟨gx, 0, none⟩ = some (.int .i64 y.id) ∧ w5.cell? ⟨gx, 1, none⟩ = some (.int .i64 y.bk) ∧ w5.cell? ⟨gx, 2, none⟩ = some (.string y.nm) ∧ w5.cell? ⟨gx, 3, none⟩ = some (.slice At y.tg.length ct) ∧ w5.cell? ⟨gx, 4, none⟩ = some (.slice As y.sh.length cs) ∧ w5.cell? ⟨w.heap.size, 0, none⟩ = some (.int .i64 s.nb) ∧ w5.cell? ⟨w.heap.size, 1, none⟩ = some (.int .i64 s.nn) ∧ w5.cell? ⟨w.heap.size, 2, none⟩ = some (.int .i64 s.ns) ∧ w5.cell? ⟨w.heap.size, 3, none⟩ = some (.slice Ab s.bs.length cb) ∧ w5.cell? ⟨w.heap.size, 4, none⟩ = some (.slice (some ⟨b1, o1, none⟩) n cn) ∧ w5.cell? ⟨b1, o1 + j * 5, none⟩ = some (.int .i64 p.id) := ⟨keepC QD.1 b5 QL.1, keepC QD.2.1 b5 QL.1, keepC QD.2.2.1 b5 QL.1, keepC QD.2.2.2.1 b5 QL.1, keepC QD.2.2.2.2.1 b5 QL.1, keepC QD.2.2.2.2.2.1 b5 QL.2.1, keepC QD.2.2.2.2.2.2.1 b5 QL.2.1, keepC QD.2.2.2.2.2.2.2.1 b5 QL.2.1, keepC QD.2.2.2.2.2.2.2.2.1 b5 QL.2.1, keepC QD.2.2.2.2.2.2.2.2.2.1 b5 QL.2.1, keepC QD.2.2.2.2.2.2.2.2.2.2 b5 QL.2.2⟩; have L5 := lt_keep3 QL b5; have A5 := SA.next b5; have HB5 := btr HBd HBd.size b5))
                        go_wp2_with fail
                        refine hK.out _ _ ?_ (fun hNew => ?_)
                        · (first | with_reducible exact QD | with_reducible exact Q5 | with_reducible exact Q6 | with_reducible assumption)
                        clear hK K hHeld
                        have hHeld := hNew
                        clear hNew
                        try simp only [Act.put, pz1, pz2, pz3]
                        refine tk 37 ?_; try simp only [Act.put, pz1, pz2, pz3]
                        refine tk 38 ?_; try simp only [Act.put, pz1, pz2, pz3]
                        refine tk 39 ?_; try simp only [Act.put, pz1, pz2, pz3]
                        refine tu 40 ?_
                        try simp only [Act.put, pz1, pz2, pz3]
                        refine tu 41 ?_
                        try simp only [Act.put, pz1, pz2, pz3]
                        refine tu 42 ?_
                        try simp only [Act.put, pz1, pz2, pz3]
                        refine tu 43 ?_
                        try simp only [Act.put, pz1, pz2, pz3]
                        refine tk 44 ?_; try simp only [Act.put, pz1, pz2, pz3]
                        refine tk 45 ?_; try simp only [Act.put, pz1, pz2, pz3]
                        refine tu 46 ?_
                        try simp only [Act.put, pz1, pz2, pz3]
                        refine tu 47 ?_
                        try simp only [Act.put, pz1, pz2, pz3]
                        refine tu 48 ?_
                        try simp only [Act.put, pz1, pz2, pz3]
                        refine tu 49 ?_
                        try simp only [Act.put, pz1, pz2, pz3]
                        refine tk 50 ?_; try simp only [Act.put, pz1, pz2, pz3]
                        refine wpAnyH_done (by kernel_rfl) ?_ _
                        refine NoPanic.normal ?_
                        go_wp2_with fail
                        go_ret
                        exact ⟨by rw [HTT.out]; rfl, (by first | exact HB6 | exact HB5 | exact HBd | exact HBa)⟩
                      · obtain ⟨q, hq⟩ : ∃ q : Nat, bookAt s y.bk = (q : Int) := ⟨(bookAt s y.bk).toNat, by omega⟩
                        have HBK := Lib.hid hq
                        have q0 : (0 : Int) ≤ (q : Int) := by omega
                        have q2 : ¬ (q : Int) < 0 := by omega
                        clear hq
                        cases TB
                        · have HTT : Hid (T = false) := Lib.hid (by rw [← HI.out, HST.out, HTG.out]; simp)
                          refine wp_region_noPanic ?_
                          refine wp_region_held_drew (S := (fun w_ => w_.cell? ⟨gx, 0, none⟩ = some (.int .i64 y.id) ∧ w_.cell? ⟨gx, 1, none⟩ = some (.int .i64 y.bk) ∧ w_.cell? ⟨gx, 2, none⟩ = some (.string y.nm) ∧ w_.cell? ⟨gx, 3, none⟩ = some (.slice At y.tg.length ct) ∧ w_.cell? ⟨gx, 4, none⟩ = some (.slice As y.sh.length cs) ∧ w_.cell? ⟨w.heap.size, 0, none⟩ = some (.int .i64 s.nb) ∧ w_.cell? ⟨w.heap.size, 1, none⟩ = some (.int .i64 s.nn) ∧ w_.cell? ⟨w.heap.size, 2, none⟩ = some (.int .i64 s.ns) ∧ w_.cell? ⟨w.heap.size, 3, none⟩ = some (.slice Ab s.bs.length cb) ∧ w_.cell? ⟨w.heap.size, 4, none⟩ = some (.slice (some ⟨b1, o1, none⟩) n cn) ∧ w_.cell? ⟨b1, o1 + j * 5, none⟩ = some (.int .i64 p.id))) (by kernel_rfl) ?_ (fun hHeld => ?_)
                          · (first | with_reducible exact QD | with_reducible exact Q5 | with_reducible exact Q6 | with_reducible assumption)
                          refine tk 0 ?_; try simp only [Act.put, pz1, pz2, pz3]
                          refine tk 1 ?_; try simp only [Act.put, pz1, pz2, pz3]
                          refine tk 2 ?_; try simp only [Act.put, pz1, pz2, pz3]
                          refine tk 3 ?_; try simp only [Act.put, pz1, pz2, pz3]
                          refine tk 4 ?_; try simp only [Act.put, pz1, pz2, pz3]
                          refine tk 5 ?_; try simp only [Act.put, pz1, pz2, pz3]
                          refine tk 6 ?_; try simp only [Act.put, pz1, pz2, pz3]
                          refine tk 7 ?_; try simp only [Act.put, pz1, pz2, pz3]
                          refine tk 8 ?_; try simp only [Act.put, pz1, pz2, pz3]
                          refine tk 9 ?_; try simp only [Act.put, pz1, pz2, pz3]
                          refine tk 10 ?_; try simp only [Act.put, pz1, pz2, pz3]
                          refine tk 11 ?_; try simp only [Act.put, pz1, pz2, pz3]
                          refine tk 12 ?_; try simp only [Act.put, pz1, pz2, pz3]
                          refine tk 13 ?_; try simp only [Act.put, pz1, pz2, pz3]
                          refine tk 14 ?_; try simp only [Act.put, pz1, pz2, pz3]
                          refine tk 15 ?_; try simp only [Act.put, pz1, pz2, pz3]
                          refine tk 16 ?_; try simp only [Act.put, pz1, pz2, pz3]
                          refine tk 17 ?_; try simp only [Act.put, pz1, pz2, pz3]
                          refine tk 18 ?_; try simp only [Act.put, pz1, pz2, pz3]
                          refine tk 19 ?_; try simp only [Act.put, pz1, pz2, pz3]
                          refine tk 20 ?_; try simp only [Act.put, pz1, pz2, pz3]
                          refine tk 21 ?_; try simp only [Act.put, pz1, pz2, pz3]
                          refine tk 22 ?_; try simp only [Act.put, pz1, pz2, pz3]
                          refine tk 23 ?_; try simp only [Act.put, pz1, pz2, pz3]
                          refine tk 24 ?_; try simp only [Act.put, pz1, pz2, pz3]
                          refine tk 25 ?_; try simp only [Act.put, pz1, pz2, pz3]
                          refine tk 26 ?_; try simp only [Act.put, pz1, pz2, pz3]
                          refine tk 27 ?_; try simp only [Act.put, pz1, pz2, pz3]
                          refine tk 28 ?_; try simp only [Act.put, pz1, pz2, pz3]
                          refine wpAnyH_ready (rs := [29]) (by kernel_rfl) (by simp) ?_
                          refine AllReadyH.cons (o := ⟨some 61, .call { callee := .value (.func 111), args := #[.tmp 60], argTypes := #[9] }, 4, "ref.go:45", #[⟨28, .data⟩, ⟨26, .chain⟩, ⟨26, .guard⟩], some (26, false)⟩) rfl (fun K hK => ?_) AllReadyH.nil
                          go_simp
                          (go_at_call 111; ((with_reducible refine (rmay_any3 y.nm _ _ hys HNM.out).mono ?_); rintro e' wN ⟨rfl, rfl⟩))
                          go_wp2_with fail
                          refine hK.out _ _ ?_ (fun hNew => ?_)
                          · (first | with_reducible exact QD | with_reducible exact Q5 | with_reducible exact Q6 | with_reducible assumption)
                          clear hK K hHeld
                          have hHeld := hNew
                          clear hNew
                          try simp only [Act.put, pz1, pz2, pz3]
                          refine tk 30 ?_; try simp only [Act.put, pz1, pz2, pz3]
                          refine tk 31 ?_; try simp only [Act.put, pz1, pz2, pz3]
                          refine tk 32 ?_; try simp only [Act.put, pz1, pz2, pz3]
                          refine tk 33 ?_; try simp only [Act.put, pz1, pz2, pz3]
                          refine tk 34 ?_; try simp only [Act.put, pz1, pz2, pz3]
                          refine tk 35 ?_; try simp only [Act.put, pz1, pz2, pz3]
                          refine wpAnyH_ready (rs := [36]) (by kernel_rfl) (by simp) ?_
                          refine AllReadyH.cons (o := ⟨some 68, .call { callee := .value (.func 82), args := #[.tmp 65, .tmp 67], argTypes := #[25, 3] }, 3, "ref.go:45", #[⟨33, .data⟩, ⟨35, .data⟩, ⟨32, .chain⟩, ⟨32, .guard⟩], some (32, false)⟩) rfl (fun K hK => ?_) AllReadyH.nil
                          go_simp
                          (go_at_call 82; ((with_reducible refine (rBook_any s _ y.bk _ SW HSM.out).mono ?_); rintro e' w5 ⟨rfl, b5⟩; (try rw [HBK.out]); have Q5 : w5.cell? ⟨gx, 0, none⟩ = some (.int .i64 y.id) ∧ w5.cell? ⟨gx, 1, none⟩ = some (.int .i64 y.bk) ∧ w5.cell? ⟨gx, 2, none⟩ = some (.string y.nm) ∧ w5.cell? ⟨gx, 3, none⟩ = some (.slice At y.tg.length ct) ∧ w5.cell? ⟨gx, 4, none⟩ = some (.slice As y.sh.length cs) ∧ w5.cell? ⟨w.heap.size, 0, none⟩ = some (.int .i64 s.nb) ∧ w5.cell? ⟨w.heap.size, 1, none⟩ = some (.int .i64 s.nn) ∧ w5.cell? ⟨w.heap.size, 2, none⟩ = some (.int .i64 s.ns) ∧ w5.cell? ⟨w.heap.size, 3, none⟩ = some (.slice Ab s.bs.length cb) ∧ w5.cell? ⟨w.heap.size, 4, none⟩ = some (.slice (some ⟨b1, o1, none⟩) n cn) ∧ w5.cell? ⟨b1, o1 + j * 5, none⟩ = some (.int .i64 p.id) := ⟨keepC QD.1 b5 QL.1, keepC QD.2.1 b5 QL.1, keepC QD.2.2.1 b5 QL.1, keepC QD.2.2.2.1 b5 QL.1, keepC QD.2.2.2.2.1 b5 QL.1, keepC QD.2.2.2.2.2.1 b5 QL.2.1, keepC QD.2.2.2.2.2.2.1 b5 QL.2.1, keepC QD.2.2.2.2.2.2.2.1 b5 QL.2.1, keepC QD.2.2.2.2.2.2.2.2.1 b5 QL.2.1, keepC QD.2.2.2.2.2.2.2.2.2.1 b5 QL.2.1, keepC QD.2.2.2.2.2.2.2.2.2.2 b5 QL.2.2⟩; have L5 := lt_keep3 QL b5; have A5 := SA.next b5; have HB5 := btr HBd HBd.size b5))
                          go_wp2_with fail
                          refine hK.out _ _ ?_ (fun hNew => ?_)
                          · (first | with_reducible exact QD | with_reducible exact Q5 | with_reducible exact Q6 | with_reducible assumption)
                          clear hK K hHeld
                          have hHeld := hNew
                          clear hNew
                          try simp only [Act.put, pz1, pz2, pz3]
                          refine tk 37 ?_; try simp only [Act.put, pz1, pz2, pz3]
                          refine tk 38 ?_; try simp only [Act.put, pz1, pz2, pz3]
                          refine tk 39 ?_; try simp only [Act.put, pz1, pz2, pz3]
                          refine tk 40 ?_; try simp only [Act.put, pz1, pz2, pz3]
                          refine tk 41 ?_; try simp only [Act.put, pz1, pz2, pz3]
                          refine wpAnyH_ready (rs := [42]) (by kernel_rfl) (by simp) ?_
                          refine AllReadyH.cons (o := ⟨some 74, .call { callee := .value (.func 112), args := #[.tmp 73], argTypes := #[38] }, 4, "ref.go:45", #[⟨41, .data⟩, ⟨39, .chain⟩, ⟨39, .guard⟩], some (39, false)⟩) rfl (fun K hK => ?_) AllReadyH.nil
                          go_simp
                          (go_at_call 112; ((with_reducible refine (rtags_any y.tg _ _ _ A5 HTS.out.1 HTS.out.2 _ HTG.out).mono ?_); rintro e' w6 ⟨rfl, b6⟩; have Q6 : w6.cell? ⟨gx, 0, none⟩ = some (.int .i64 y.id) ∧ w6.cell? ⟨gx, 1, none⟩ = some (.int .i64 y.bk) ∧ w6.cell? ⟨gx, 2, none⟩ = some (.string y.nm) ∧ w6.cell? ⟨gx, 3, none⟩ = some (.slice At y.tg.length ct) ∧ w6.cell? ⟨gx, 4, none⟩ = some (.slice As y.sh.length cs) ∧ w6.cell? ⟨w.heap.size, 0, none⟩ = some (.int .i64 s.nb) ∧ w6.cell? ⟨w.heap.size, 1, none⟩ = some (.int .i64 s.nn) ∧ w6.cell? ⟨w.heap.size, 2, none⟩ = some (.int .i64 s.ns) ∧ w6.cell? ⟨w.heap.size, 3, none⟩ = some (.slice Ab s.bs.length cb) ∧ w6.cell? ⟨w.heap.size, 4, none⟩ = some (.slice (some ⟨b1, o1, none⟩) n cn) ∧ w6.cell? ⟨b1, o1 + j * 5, none⟩ = some (.int .i64 p.id) := ⟨keepC Q5.1 b6 L5.1, keepC Q5.2.1 b6 L5.1, keepC Q5.2.2.1 b6 L5.1, keepC Q5.2.2.2.1 b6 L5.1, keepC Q5.2.2.2.2.1 b6 L5.1, keepC Q5.2.2.2.2.2.1 b6 L5.2.1, keepC Q5.2.2.2.2.2.2.1 b6 L5.2.1, keepC Q5.2.2.2.2.2.2.2.1 b6 L5.2.1, keepC Q5.2.2.2.2.2.2.2.2.1 b6 L5.2.1, keepC Q5.2.2.2.2.2.2.2.2.2.1 b6 L5.2.1, keepC Q5.2.2.2.2.2.2.2.2.2.2 b6 L5.2.2⟩; have L6 := lt_keep3 L5 b6; have HB6 := btr HB5 HB5.size b6))
                          go_wp2_with fail
                          refine hK.out _ _ ?_ (fun hNew => ?_)
                          · (first | with_reducible exact QD | with_reducible exact Q5 | with_reducible exact Q6 | with_reducible assumption)
                          clear hK K hHeld
                          have hHeld := hNew
                          clear hNew
                          try simp only [Act.put, pz1, pz2, pz3]
                          refine tk 43 ?_; try simp only [Act.put, pz1, pz2, pz3]
                          refine tk 44 ?_; try simp only [Act.put, pz1, pz2, pz3]
                          refine tk 45 ?_; try simp only [Act.put, pz1, pz2, pz3]
                          refine tu 46 ?_
                          try simp only [Act.put, pz1, pz2, pz3]
                          refine tu 47 ?_
                          try simp only [Act.put, pz1, pz2, pz3]
                          refine tu 48 ?_
                          try simp only [Act.put, pz1, pz2, pz3]
                          refine tu 49 ?_
                          try simp only [Act.put, pz1, pz2, pz3]
                          refine tk 50 ?_; try simp only [Act.put, pz1, pz2, pz3]
                          refine wpAnyH_done (by kernel_rfl) ?_ _
                          refine NoPanic.normal ?_
                          go_wp2_with fail
                          go_ret
                          exact ⟨by rw [HTT.out]; rfl, (by first | exact HB6 | exact HB5 | exact HBd | exact HBa)⟩
                        · by_cases d5 : 8 < y.sh.length
                          · have g5 : (8 : Int) < (y.sh.length : Int) := by omega
                            have HTT : Hid (T = false) := Lib.hid (by rw [← HI.out, HST.out, decide_eq_false (by omega : ¬ y.sh.length ≤ 8)]; simp)
                            refine wp_region_noPanic ?_
                            refine wp_region_held_drew (S := (fun w_ => w_.cell? ⟨gx, 0, none⟩ = some (.int .i64 y.id) ∧ w_.cell? ⟨gx, 1, none⟩ = some (.int .i64 y.bk) ∧ w_.cell? ⟨gx, 2, none⟩ = some (.string y.nm) ∧ w_.cell? ⟨gx, 3, none⟩ = some (.slice At y.tg.length ct) ∧ w_.cell? ⟨gx, 4, none⟩ = some (.slice As y.sh.length cs) ∧ w_.cell? ⟨w.heap.size, 0, none⟩ = some (.int .i64 s.nb) ∧ w_.cell? ⟨w.heap.size, 1, none⟩ = some (.int .i64 s.nn) ∧ w_.cell? ⟨w.heap.size, 2, none⟩ = some (.int .i64 s.ns) ∧ w_.cell? ⟨w.heap.size, 3, none⟩ = some (.slice Ab s.bs.length cb) ∧ w_.cell? ⟨w.heap.size, 4, none⟩ = some (.slice (some ⟨b1, o1, none⟩) n cn) ∧ w_.cell? ⟨b1, o1 + j * 5, none⟩ = some (.int .i64 p.id))) (by kernel_rfl) ?_ (fun hHeld => ?_)
                            · (first | with_reducible exact QD | with_reducible exact Q5 | with_reducible exact Q6 | with_reducible assumption)
                            refine tk 0 ?_; try simp only [Act.put, pz1, pz2, pz3]
                            refine tk 1 ?_; try simp only [Act.put, pz1, pz2, pz3]
                            refine tk 2 ?_; try simp only [Act.put, pz1, pz2, pz3]
                            refine tk 3 ?_; try simp only [Act.put, pz1, pz2, pz3]
                            refine tk 4 ?_; try simp only [Act.put, pz1, pz2, pz3]
                            refine tk 5 ?_; try simp only [Act.put, pz1, pz2, pz3]
                            refine tk 6 ?_; try simp only [Act.put, pz1, pz2, pz3]
                            refine tk 7 ?_; try simp only [Act.put, pz1, pz2, pz3]
                            refine tk 8 ?_; try simp only [Act.put, pz1, pz2, pz3]
                            refine tk 9 ?_; try simp only [Act.put, pz1, pz2, pz3]
                            refine tk 10 ?_; try simp only [Act.put, pz1, pz2, pz3]
                            refine tk 11 ?_; try simp only [Act.put, pz1, pz2, pz3]
                            refine tk 12 ?_; try simp only [Act.put, pz1, pz2, pz3]
                            refine tk 13 ?_; try simp only [Act.put, pz1, pz2, pz3]
                            refine tk 14 ?_; try simp only [Act.put, pz1, pz2, pz3]
                            refine tk 15 ?_; try simp only [Act.put, pz1, pz2, pz3]
                            refine tk 16 ?_; try simp only [Act.put, pz1, pz2, pz3]
                            refine tk 17 ?_; try simp only [Act.put, pz1, pz2, pz3]
                            refine tk 18 ?_; try simp only [Act.put, pz1, pz2, pz3]
                            refine tk 19 ?_; try simp only [Act.put, pz1, pz2, pz3]
                            refine tk 20 ?_; try simp only [Act.put, pz1, pz2, pz3]
                            refine tk 21 ?_; try simp only [Act.put, pz1, pz2, pz3]
                            refine tk 22 ?_; try simp only [Act.put, pz1, pz2, pz3]
                            refine tk 23 ?_; try simp only [Act.put, pz1, pz2, pz3]
                            refine tk 24 ?_; try simp only [Act.put, pz1, pz2, pz3]
                            refine tk 25 ?_; try simp only [Act.put, pz1, pz2, pz3]
                            refine tk 26 ?_; try simp only [Act.put, pz1, pz2, pz3]
                            refine tk 27 ?_; try simp only [Act.put, pz1, pz2, pz3]
                            refine tk 28 ?_; try simp only [Act.put, pz1, pz2, pz3]
                            refine wpAnyH_ready (rs := [29]) (by kernel_rfl) (by simp) ?_
                            refine AllReadyH.cons (o := ⟨some 61, .call { callee := .value (.func 111), args := #[.tmp 60], argTypes := #[9] }, 4, "ref.go:45", #[⟨28, .data⟩, ⟨26, .chain⟩, ⟨26, .guard⟩], some (26, false)⟩) rfl (fun K hK => ?_) AllReadyH.nil
                            go_simp
                            (go_at_call 111; ((with_reducible refine (rmay_any3 y.nm _ _ hys HNM.out).mono ?_); rintro e' wN ⟨rfl, rfl⟩))
                            go_wp2_with fail
                            refine hK.out _ _ ?_ (fun hNew => ?_)
                            · (first | with_reducible exact QD | with_reducible exact Q5 | with_reducible exact Q6 | with_reducible assumption)
                            clear hK K hHeld
                            have hHeld := hNew
                            clear hNew
                            try simp only [Act.put, pz1, pz2, pz3]
                            refine tk 30 ?_; try simp only [Act.put, pz1, pz2, pz3]
                            refine tk 31 ?_; try simp only [Act.put, pz1, pz2, pz3]
                            refine tk 32 ?_; try simp only [Act.put, pz1, pz2, pz3]
                            refine tk 33 ?_; try simp only [Act.put, pz1, pz2, pz3]
                            refine tk 34 ?_; try simp only [Act.put, pz1, pz2, pz3]
                            refine tk 35 ?_; try simp only [Act.put, pz1, pz2, pz3]
                            refine wpAnyH_ready (rs := [36]) (by kernel_rfl) (by simp) ?_
                            refine AllReadyH.cons (o := ⟨some 68, .call { callee := .value (.func 82), args := #[.tmp 65, .tmp 67], argTypes := #[25, 3] }, 3, "ref.go:45", #[⟨33, .data⟩, ⟨35, .data⟩, ⟨32, .chain⟩, ⟨32, .guard⟩], some (32, false)⟩) rfl (fun K hK => ?_) AllReadyH.nil
                            go_simp
                            (go_at_call 82; ((with_reducible refine (rBook_any s _ y.bk _ SW HSM.out).mono ?_); rintro e' w5 ⟨rfl, b5⟩; (try rw [HBK.out]); have Q5 : w5.cell? ⟨gx, 0, none⟩ = some (.int .i64 y.id) ∧ w5.cell? ⟨gx, 1, none⟩ = some (.int .i64 y.bk) ∧ w5.cell? ⟨gx, 2, none⟩ = some (.string y.nm) ∧ w5.cell? ⟨gx, 3, none⟩ = some (.slice At y.tg.length ct) ∧ w5.cell? ⟨gx, 4, none⟩ = some (.slice As y.sh.length cs) ∧ w5.cell? ⟨w.heap.size, 0, none⟩ = some (.int .i64 s.nb) ∧ w5.cell? ⟨w.heap.size, 1, none⟩ = some (.int .i64 s.nn) ∧ w5.cell? ⟨w.heap.size, 2, none⟩ = some (.int .i64 s.ns) ∧ w5.cell? ⟨w.heap.size, 3, none⟩ = some (.slice Ab s.bs.length cb) ∧ w5.cell? ⟨w.heap.size, 4, none⟩ = some (.slice (some ⟨b1, o1, none⟩) n cn) ∧ w5.cell? ⟨b1, o1 + j * 5, none⟩ = some (.int .i64 p.id) := ⟨keepC QD.1 b5 QL.1, keepC QD.2.1 b5 QL.1, keepC QD.2.2.1 b5 QL.1, keepC QD.2.2.2.1 b5 QL.1, keepC QD.2.2.2.2.1 b5 QL.1, keepC QD.2.2.2.2.2.1 b5 QL.2.1, keepC QD.2.2.2.2.2.2.1 b5 QL.2.1, keepC QD.2.2.2.2.2.2.2.1 b5 QL.2.1, keepC QD.2.2.2.2.2.2.2.2.1 b5 QL.2.1, keepC QD.2.2.2.2.2.2.2.2.2.1 b5 QL.2.1, keepC QD.2.2.2.2.2.2.2.2.2.2 b5 QL.2.2⟩; have L5 := lt_keep3 QL b5; have A5 := SA.next b5; have HB5 := btr HBd HBd.size b5))
                            go_wp2_with fail
                            refine hK.out _ _ ?_ (fun hNew => ?_)
                            · (first | with_reducible exact QD | with_reducible exact Q5 | with_reducible exact Q6 | with_reducible assumption)
                            clear hK K hHeld
                            have hHeld := hNew
                            clear hNew
                            try simp only [Act.put, pz1, pz2, pz3]
                            refine tk 37 ?_; try simp only [Act.put, pz1, pz2, pz3]
                            refine tk 38 ?_; try simp only [Act.put, pz1, pz2, pz3]
                            refine tk 39 ?_; try simp only [Act.put, pz1, pz2, pz3]
                            refine tk 40 ?_; try simp only [Act.put, pz1, pz2, pz3]
                            refine tk 41 ?_; try simp only [Act.put, pz1, pz2, pz3]
                            refine wpAnyH_ready (rs := [42]) (by kernel_rfl) (by simp) ?_
                            refine AllReadyH.cons (o := ⟨some 74, .call { callee := .value (.func 112), args := #[.tmp 73], argTypes := #[38] }, 4, "ref.go:45", #[⟨41, .data⟩, ⟨39, .chain⟩, ⟨39, .guard⟩], some (39, false)⟩) rfl (fun K hK => ?_) AllReadyH.nil
                            go_simp
                            (go_at_call 112; ((with_reducible refine (rtags_any y.tg _ _ _ A5 HTS.out.1 HTS.out.2 _ HTG.out).mono ?_); rintro e' w6 ⟨rfl, b6⟩; have Q6 : w6.cell? ⟨gx, 0, none⟩ = some (.int .i64 y.id) ∧ w6.cell? ⟨gx, 1, none⟩ = some (.int .i64 y.bk) ∧ w6.cell? ⟨gx, 2, none⟩ = some (.string y.nm) ∧ w6.cell? ⟨gx, 3, none⟩ = some (.slice At y.tg.length ct) ∧ w6.cell? ⟨gx, 4, none⟩ = some (.slice As y.sh.length cs) ∧ w6.cell? ⟨w.heap.size, 0, none⟩ = some (.int .i64 s.nb) ∧ w6.cell? ⟨w.heap.size, 1, none⟩ = some (.int .i64 s.nn) ∧ w6.cell? ⟨w.heap.size, 2, none⟩ = some (.int .i64 s.ns) ∧ w6.cell? ⟨w.heap.size, 3, none⟩ = some (.slice Ab s.bs.length cb) ∧ w6.cell? ⟨w.heap.size, 4, none⟩ = some (.slice (some ⟨b1, o1, none⟩) n cn) ∧ w6.cell? ⟨b1, o1 + j * 5, none⟩ = some (.int .i64 p.id) := ⟨keepC Q5.1 b6 L5.1, keepC Q5.2.1 b6 L5.1, keepC Q5.2.2.1 b6 L5.1, keepC Q5.2.2.2.1 b6 L5.1, keepC Q5.2.2.2.2.1 b6 L5.1, keepC Q5.2.2.2.2.2.1 b6 L5.2.1, keepC Q5.2.2.2.2.2.2.1 b6 L5.2.1, keepC Q5.2.2.2.2.2.2.2.1 b6 L5.2.1, keepC Q5.2.2.2.2.2.2.2.2.1 b6 L5.2.1, keepC Q5.2.2.2.2.2.2.2.2.2.1 b6 L5.2.1, keepC Q5.2.2.2.2.2.2.2.2.2.2 b6 L5.2.2⟩; have L6 := lt_keep3 L5 b6; have HB6 := btr HB5 HB5.size b6))
                            go_wp2_with fail
                            refine hK.out _ _ ?_ (fun hNew => ?_)
                            · (first | with_reducible exact QD | with_reducible exact Q5 | with_reducible exact Q6 | with_reducible assumption)
                            clear hK K hHeld
                            have hHeld := hNew
                            clear hNew
                            try simp only [Act.put, pz1, pz2, pz3]
                            refine tk 43 ?_; try simp only [Act.put, pz1, pz2, pz3]
                            refine tk 44 ?_; try simp only [Act.put, pz1, pz2, pz3]
                            refine tk 45 ?_; try simp only [Act.put, pz1, pz2, pz3]
                            refine tk 46 ?_; try simp only [Act.put, pz1, pz2, pz3]
                            refine tk 47 ?_; try simp only [Act.put, pz1, pz2, pz3]
                            refine tk 48 ?_; try simp only [Act.put, pz1, pz2, pz3]
                            refine tk 49 ?_; try simp only [Act.put, pz1, pz2, pz3]
                            refine tk 50 ?_; try simp only [Act.put, pz1, pz2, pz3]
                            refine wpAnyH_done (by kernel_rfl) ?_ _
                            refine NoPanic.normal ?_
                            go_wp2_with fail
                            go_ret
                            exact ⟨by rw [HTT.out]; rfl, (by first | exact HB6 | exact HB5 | exact HBd | exact HBa)⟩
                          · have g5 : ¬ (8 : Int) < (y.sh.length : Int) := by omega
                            refine wp_region_noPanic ?_
                            refine wp_region_held_drew (S := (fun w_ => w_.cell? ⟨gx, 0, none⟩ = some (.int .i64 y.id) ∧ w_.cell? ⟨gx, 1, none⟩ = some (.int .i64 y.bk) ∧ w_.cell? ⟨gx, 2, none⟩ = some (.string y.nm) ∧ w_.cell? ⟨gx, 3, none⟩ = some (.slice At y.tg.length ct) ∧ w_.cell? ⟨gx, 4, none⟩ = some (.slice As y.sh.length cs) ∧ w_.cell? ⟨w.heap.size, 0, none⟩ = some (.int .i64 s.nb) ∧ w_.cell? ⟨w.heap.size, 1, none⟩ = some (.int .i64 s.nn) ∧ w_.cell? ⟨w.heap.size, 2, none⟩ = some (.int .i64 s.ns) ∧ w_.cell? ⟨w.heap.size, 3, none⟩ = some (.slice Ab s.bs.length cb) ∧ w_.cell? ⟨w.heap.size, 4, none⟩ = some (.slice (some ⟨b1, o1, none⟩) n cn) ∧ w_.cell? ⟨b1, o1 + j * 5, none⟩ = some (.int .i64 p.id))) (by kernel_rfl) ?_ (fun hHeld => ?_)
                            · (first | with_reducible exact QD | with_reducible exact Q5 | with_reducible exact Q6 | with_reducible assumption)
                            refine tk 0 ?_; try simp only [Act.put, pz1, pz2, pz3]
                            refine tk 1 ?_; try simp only [Act.put, pz1, pz2, pz3]
                            refine tk 2 ?_; try simp only [Act.put, pz1, pz2, pz3]
                            refine tk 3 ?_; try simp only [Act.put, pz1, pz2, pz3]
                            refine tk 4 ?_; try simp only [Act.put, pz1, pz2, pz3]
                            refine tk 5 ?_; try simp only [Act.put, pz1, pz2, pz3]
                            refine tk 6 ?_; try simp only [Act.put, pz1, pz2, pz3]
                            refine tk 7 ?_; try simp only [Act.put, pz1, pz2, pz3]
                            refine tk 8 ?_; try simp only [Act.put, pz1, pz2, pz3]
                            refine tk 9 ?_; try simp only [Act.put, pz1, pz2, pz3]
                            refine tk 10 ?_; try simp only [Act.put, pz1, pz2, pz3]
                            refine tk 11 ?_; try simp only [Act.put, pz1, pz2, pz3]
                            refine tk 12 ?_; try simp only [Act.put, pz1, pz2, pz3]
                            refine tk 13 ?_; try simp only [Act.put, pz1, pz2, pz3]
                            refine tk 14 ?_; try simp only [Act.put, pz1, pz2, pz3]
                            refine tk 15 ?_; try simp only [Act.put, pz1, pz2, pz3]
                            refine tk 16 ?_; try simp only [Act.put, pz1, pz2, pz3]
                            refine tk 17 ?_; try simp only [Act.put, pz1, pz2, pz3]
                            refine tk 18 ?_; try simp only [Act.put, pz1, pz2, pz3]
                            refine tk 19 ?_; try simp only [Act.put, pz1, pz2, pz3]
                            refine tk 20 ?_; try simp only [Act.put, pz1, pz2, pz3]
                            refine tk 21 ?_; try simp only [Act.put, pz1, pz2, pz3]
                            refine tk 22 ?_; try simp only [Act.put, pz1, pz2, pz3]
                            refine tk 23 ?_; try simp only [Act.put, pz1, pz2, pz3]
                            refine tk 24 ?_; try simp only [Act.put, pz1, pz2, pz3]
                            refine tk 25 ?_; try simp only [Act.put, pz1, pz2, pz3]
                            refine tk 26 ?_; try simp only [Act.put, pz1, pz2, pz3]
                            refine tk 27 ?_; try simp only [Act.put, pz1, pz2, pz3]
                            refine tk 28 ?_; try simp only [Act.put, pz1, pz2, pz3]
                            refine wpAnyH_ready (rs := [29]) (by kernel_rfl) (by simp) ?_
                            refine AllReadyH.cons (o := ⟨some 61, .call { callee := .value (.func 111), args := #[.tmp 60], argTypes := #[9] }, 4, "ref.go:45", #[⟨28, .data⟩, ⟨26, .chain⟩, ⟨26, .guard⟩], some (26, false)⟩) rfl (fun K hK => ?_) AllReadyH.nil
                            go_simp
                            (go_at_call 111; ((with_reducible refine (rmay_any3 y.nm _ _ hys HNM.out).mono ?_); rintro e' wN ⟨rfl, rfl⟩))
                            go_wp2_with fail
                            refine hK.out _ _ ?_ (fun hNew => ?_)
                            · (first | with_reducible exact QD | with_reducible exact Q5 | with_reducible exact Q6 | with_reducible assumption)
                            clear hK K hHeld
                            have hHeld := hNew
                            clear hNew
                            try simp only [Act.put, pz1, pz2, pz3]
                            refine tk 30 ?_; try simp only [Act.put, pz1, pz2, pz3]
                            refine tk 31 ?_; try simp only [Act.put, pz1, pz2, pz3]
                            refine tk 32 ?_; try simp only [Act.put, pz1, pz2, pz3]
                            refine tk 33 ?_; try simp only [Act.put, pz1, pz2, pz3]
                            refine tk 34 ?_; try simp only [Act.put, pz1, pz2, pz3]
                            refine tk 35 ?_; try simp only [Act.put, pz1, pz2, pz3]
                            refine wpAnyH_ready (rs := [36]) (by kernel_rfl) (by simp) ?_
                            refine AllReadyH.cons (o := ⟨some 68, .call { callee := .value (.func 82), args := #[.tmp 65, .tmp 67], argTypes := #[25, 3] }, 3, "ref.go:45", #[⟨33, .data⟩, ⟨35, .data⟩, ⟨32, .chain⟩, ⟨32, .guard⟩], some (32, false)⟩) rfl (fun K hK => ?_) AllReadyH.nil
                            go_simp
                            (go_at_call 82; ((with_reducible refine (rBook_any s _ y.bk _ SW HSM.out).mono ?_); rintro e' w5 ⟨rfl, b5⟩; (try rw [HBK.out]); have Q5 : w5.cell? ⟨gx, 0, none⟩ = some (.int .i64 y.id) ∧ w5.cell? ⟨gx, 1, none⟩ = some (.int .i64 y.bk) ∧ w5.cell? ⟨gx, 2, none⟩ = some (.string y.nm) ∧ w5.cell? ⟨gx, 3, none⟩ = some (.slice At y.tg.length ct) ∧ w5.cell? ⟨gx, 4, none⟩ = some (.slice As y.sh.length cs) ∧ w5.cell? ⟨w.heap.size, 0, none⟩ = some (.int .i64 s.nb) ∧ w5.cell? ⟨w.heap.size, 1, none⟩ = some (.int .i64 s.nn) ∧ w5.cell? ⟨w.heap.size, 2, none⟩ = some (.int .i64 s.ns) ∧ w5.cell? ⟨w.heap.size, 3, none⟩ = some (.slice Ab s.bs.length cb) ∧ w5.cell? ⟨w.heap.size, 4, none⟩ = some (.slice (some ⟨b1, o1, none⟩) n cn) ∧ w5.cell? ⟨b1, o1 + j * 5, none⟩ = some (.int .i64 p.id) := ⟨keepC QD.1 b5 QL.1, keepC QD.2.1 b5 QL.1, keepC QD.2.2.1 b5 QL.1, keepC QD.2.2.2.1 b5 QL.1, keepC QD.2.2.2.2.1 b5 QL.1, keepC QD.2.2.2.2.2.1 b5 QL.2.1, keepC QD.2.2.2.2.2.2.1 b5 QL.2.1, keepC QD.2.2.2.2.2.2.2.1 b5 QL.2.1, keepC QD.2.2.2.2.2.2.2.2.1 b5 QL.2.1, keepC QD.2.2.2.2.2.2.2.2.2.1 b5 QL.2.1, keepC QD.2.2.2.2.2.2.2.2.2.2 b5 QL.2.2⟩; have L5 := lt_keep3 QL b5; have A5 := SA.next b5; have HB5 := btr HBd HBd.size b5))
                            go_wp2_with fail
                            refine hK.out _ _ ?_ (fun hNew => ?_)
                            · (first | with_reducible exact QD | with_reducible exact Q5 | with_reducible exact Q6 | with_reducible assumption)
                            clear hK K hHeld
                            have hHeld := hNew
                            clear hNew
                            try simp only [Act.put, pz1, pz2, pz3]
                            refine tk 37 ?_; try simp only [Act.put, pz1, pz2, pz3]
                            refine tk 38 ?_; try simp only [Act.put, pz1, pz2, pz3]
                            refine tk 39 ?_; try simp only [Act.put, pz1, pz2, pz3]
                            refine tk 40 ?_; try simp only [Act.put, pz1, pz2, pz3]
                            refine tk 41 ?_; try simp only [Act.put, pz1, pz2, pz3]
                            refine wpAnyH_ready (rs := [42]) (by kernel_rfl) (by simp) ?_
                            refine AllReadyH.cons (o := ⟨some 74, .call { callee := .value (.func 112), args := #[.tmp 73], argTypes := #[38] }, 4, "ref.go:45", #[⟨41, .data⟩, ⟨39, .chain⟩, ⟨39, .guard⟩], some (39, false)⟩) rfl (fun K hK => ?_) AllReadyH.nil
                            go_simp
                            (go_at_call 112; ((with_reducible refine (rtags_any y.tg _ _ _ A5 HTS.out.1 HTS.out.2 _ HTG.out).mono ?_); rintro e' w6 ⟨rfl, b6⟩; have Q6 : w6.cell? ⟨gx, 0, none⟩ = some (.int .i64 y.id) ∧ w6.cell? ⟨gx, 1, none⟩ = some (.int .i64 y.bk) ∧ w6.cell? ⟨gx, 2, none⟩ = some (.string y.nm) ∧ w6.cell? ⟨gx, 3, none⟩ = some (.slice At y.tg.length ct) ∧ w6.cell? ⟨gx, 4, none⟩ = some (.slice As y.sh.length cs) ∧ w6.cell? ⟨w.heap.size, 0, none⟩ = some (.int .i64 s.nb) ∧ w6.cell? ⟨w.heap.size, 1, none⟩ = some (.int .i64 s.nn) ∧ w6.cell? ⟨w.heap.size, 2, none⟩ = some (.int .i64 s.ns) ∧ w6.cell? ⟨w.heap.size, 3, none⟩ = some (.slice Ab s.bs.length cb) ∧ w6.cell? ⟨w.heap.size, 4, none⟩ = some (.slice (some ⟨b1, o1, none⟩) n cn) ∧ w6.cell? ⟨b1, o1 + j * 5, none⟩ = some (.int .i64 p.id) := ⟨keepC Q5.1 b6 L5.1, keepC Q5.2.1 b6 L5.1, keepC Q5.2.2.1 b6 L5.1, keepC Q5.2.2.2.1 b6 L5.1, keepC Q5.2.2.2.2.1 b6 L5.1, keepC Q5.2.2.2.2.2.1 b6 L5.2.1, keepC Q5.2.2.2.2.2.2.1 b6 L5.2.1, keepC Q5.2.2.2.2.2.2.2.1 b6 L5.2.1, keepC Q5.2.2.2.2.2.2.2.2.1 b6 L5.2.1, keepC Q5.2.2.2.2.2.2.2.2.2.1 b6 L5.2.1, keepC Q5.2.2.2.2.2.2.2.2.2.2 b6 L5.2.2⟩; have L6 := lt_keep3 L5 b6; have HB6 := btr HB5 HB5.size b6))
                            go_wp2_with fail
                            refine hK.out _ _ ?_ (fun hNew => ?_)
                            · (first | with_reducible exact QD | with_reducible exact Q5 | with_reducible exact Q6 | with_reducible assumption)
                            clear hK K hHeld
                            have hHeld := hNew
                            clear hNew
                            try simp only [Act.put, pz1, pz2, pz3]
                            refine tk 43 ?_; try simp only [Act.put, pz1, pz2, pz3]
                            refine tk 44 ?_; try simp only [Act.put, pz1, pz2, pz3]
                            refine tk 45 ?_; try simp only [Act.put, pz1, pz2, pz3]
                            refine tk 46 ?_; try simp only [Act.put, pz1, pz2, pz3]
                            refine tk 47 ?_; try simp only [Act.put, pz1, pz2, pz3]
                            refine tk 48 ?_; try simp only [Act.put, pz1, pz2, pz3]
                            refine tk 49 ?_; try simp only [Act.put, pz1, pz2, pz3]
                            refine tk 50 ?_; try simp only [Act.put, pz1, pz2, pz3]
                            refine wpAnyH_done (by kernel_rfl) ?_ _
                            refine NoPanic.normal ?_
                            go_wp2_with fail
                            obtain ⟨wn, hwn⟩ : ∃ V : World, V = w6 := ⟨_, rfl⟩
                            have Qn : w6.cell? ⟨gx, 1, none⟩ = some (.int .i64 y.bk) ∧ w6.cell? ⟨gx, 2, none⟩ = some (.string y.nm) ∧ w6.cell? ⟨w.heap.size, 4, none⟩ = some (.slice (some ⟨b1, o1, none⟩) n cn) := ⟨Q6.2.1, Q6.2.2.1, Q6.2.2.2.2.2.2.2.2.2.1⟩
                            have Bn : Blk w6 w.heap.size 25 #[.int .i64 s.nb, .int .i64 s.nn, .int .i64 s.ns, .slice Ab s.bs.length cb, .slice (some ⟨b1, o1, none⟩) n cn] := (C2.below (below_dr wa) C2.lt |>.below b5 (C2.below (below_dr wa) C2.lt).lt).below b6 ((C2.below (below_dr wa) C2.lt).below b5 (C2.below (below_dr wa) C2.lt).lt).lt
                            have S6 := (SW.next b5).next b6
                            have HQn := Lib.hid Qn
                            have HBN := Lib.hid Bn
                            have HS6 := Lib.hid S6
                            have LN := Lib.hid L6
                            clear hwn Q5 Q6 Qn Bn S6 SW SA A5 BX C2 HBa HBd HB5 L5 b5 b6 QD QL HQQ
                            have H0 : Hid ((s.ts.take 0).any (fun c => sameS c.nm y.nm && c.bk == y.bk) = false) := Lib.hid rfl
                            go_loopw [5] (fun kv wr => ∃ k : Nat, k ≤ i ∧ kv = .int .i64 k ∧ Hid ((s.ts.take k).any (fun c => sameS c.nm y.nm && c.bk == y.bk) = false) ∧ Below w.heap.size w wr ∧ Below w6.heap.size w6 wr) (fun kv _ => i - (intOf kv).toNat)
                            case atStart => exact ⟨0, by omega, rfl, H0, HB6, Below.refl _ _⟩
                            case round =>
                              clear H0 HB6
                              obtain ⟨k, hk, rfl, HZ, HBq, hbq⟩ := hrel
                              by_cases hlk : k < i
                              · obtain ⟨z, hz⟩ : ∃ z, s.ts[k]? = some z := ⟨_, List.getElem?_eq_getElem (by have := HN.out; omega)⟩
                                obtain ⟨e2, he2⟩ : ∃ e, es[k]? = some e := ⟨_, List.getElem?_eq_getElem (by have := HN.out; omega)⟩
                                obtain ⟨Aq2, cq2, Ar2, cr2, rfl, -⟩ := (hnt k z e2 hz he2).ex
                                have cz1 : wr.cell? ⟨b1, o1 + k * 5 + 1, none⟩ = some (.int .i64 z.bk) := (HBq.cell (p := ⟨b1, _, none⟩) l1).trans (HQ1.out k _ he2 1 _ rfl)
                                have cz2 : wr.cell? ⟨b1, o1 + k * 5 + 2, none⟩ = some (.string z.nm) := (HBq.cell (p := ⟨b1, _, none⟩) l1).trans (HQ1.out k _ he2 2 _ rfl)
                                have x1 := keepC HQn.out.1 hbq LN.out.1
                                have x2 := keepC HQn.out.2.1 hbq LN.out.1
                                have k4 := keepC HQn.out.2.2 hbq LN.out.2.1
                                have HZK := Lib.hid hz
                                have n0 : (0 : Int) ≤ (k : Int) := by omega
                                have n1 : (k : Int) < (i : Int) := by omega
                                have n2 : (k : Int) < (n : Int) := by omega
                                have QE : wr.drew.cell? ⟨w.heap.size, 4, none⟩ = some (.slice (some ⟨b1, o1, none⟩) n cn) ∧ wr.drew.cell? ⟨b1, o1 + k * 5 + 2, none⟩ = some (.string z.nm) ∧ wr.drew.cell? ⟨b1, o1 + k * 5 + 1, none⟩ = some (.int .i64 z.bk) ∧ wr.drew.cell? ⟨gx, 2, none⟩ = some (.string y.nm) ∧ wr.drew.cell? ⟨gx, 1, none⟩ = some (.int .i64 y.bk) := ⟨drew_cell k4, drew_cell cz2, drew_cell cz1, drew_cell x2, drew_cell x1⟩
                                clear hz he2 cz1 cz2 x1 x2 k4
                                go_upto_region 12 with fail
                                rcases (by cases hq : (z.nm.toList == y.nm.toList) <;> simp : (z.nm.toList == y.nm.toList) = true ∨ (z.nm.toList == y.nm.toList) = false) with hp | hp
                                · rcases (by cases hq : (z.bk == y.bk) <;> simp : (z.bk == y.bk) = true ∨ (z.bk == y.bk) = false) with hr | hr
                                  · have hpr : (fun c : Nt => sameS c.nm y.nm && c.bk == y.bk) z = true := by simp [sameS, hp, hr]
                                    have HTT : Hid (T = false) := Lib.hid (by rw [← HI.out, HST.out, List.any_eq_true.2 ⟨z, List.mem_take_iff_getElem.2 ⟨k, by have := HN.out; omega, (List.getElem?_eq_some_iff.1 HZK.out).2⟩, hpr⟩]; simp)
                                    clear hpr
                                    refine wp_region_noPanic ?_
                                    refine wp_region_held_drew (S := (fun w_ => w_.cell? ⟨w.heap.size, 4, none⟩ = some (.slice (some ⟨b1, o1, none⟩) n cn) ∧ w_.cell? ⟨b1, o1 + k * 5 + 2, none⟩ = some (.string z.nm) ∧ w_.cell? ⟨b1, o1 + k * 5 + 1, none⟩ = some (.int .i64 z.bk) ∧ w_.cell? ⟨gx, 2, none⟩ = some (.string y.nm) ∧ w_.cell? ⟨gx, 1, none⟩ = some (.int .i64 y.bk))) (by kernel_rfl) ?_ (fun hHeld => ?_)
                                    · (first | with_reducible exact QE | with_reducible assumption)
                                    refine tk 0 ?_; try simp only [Act.put, pz1, pz2, pz3]
                                    refine tk 1 ?_; try simp only [Act.put, pz1, pz2, pz3]
                                    refine tk 2 ?_; try simp only [Act.put, pz1, pz2, pz3]
                                    refine tk 3 ?_; try simp only [Act.put, pz1, pz2, pz3]
                                    refine tk 4 ?_; try simp only [Act.put, pz1, pz2, pz3]
                                    refine tk 5 ?_; try simp only [Act.put, pz1, pz2, pz3]
                                    refine tk 6 ?_; try simp only [Act.put, pz1, pz2, pz3]
                                    refine tk 7 ?_; try simp only [Act.put, pz1, pz2, pz3]
                                    refine tk 8 ?_; try simp only [Act.put, pz1, pz2, pz3]
                                    refine tk 9 ?_; try simp only [Act.put, pz1, pz2, pz3]
                                    refine tk 10 ?_; try simp only [Act.put, pz1, pz2, pz3]
                                    refine tk 11 ?_; try simp only [Act.put, pz1, pz2, pz3]
                                    refine tk 12 ?_; try simp only [Act.put, pz1, pz2, pz3]
                                    refine tk 13 ?_; try simp only [Act.put, pz1, pz2, pz3]
                                    refine tk 14 ?_; try simp only [Act.put, pz1, pz2, pz3]
                                    refine tk 15 ?_; try simp only [Act.put, pz1, pz2, pz3]
                                    refine tk 16 ?_; try simp only [Act.put, pz1, pz2, pz3]
                                    refine tk 17 ?_; try simp only [Act.put, pz1, pz2, pz3]
                                    refine tk 18 ?_; try simp only [Act.put, pz1, pz2, pz3]
                                    refine tk 19 ?_; try simp only [Act.put, pz1, pz2, pz3]
                                    refine wpAnyH_done (by kernel_rfl) ?_ _
                                    refine NoPanic.normal ?_
                                    go_wp2_with fail
                                    go_ret
                                    exact ⟨by rw [HTT.out]; rfl, (by first | exact HBq | exact drew_below HBq)⟩
                                  · have HZX : Hid ((fun c : Nt => sameS c.nm y.nm && c.bk == y.bk) z = false) := Lib.hid (by simp [hr])
                                    refine wp_region_noPanic ?_
                                    refine wp_region_held_drew (S := (fun w_ => w_.cell? ⟨w.heap.size, 4, none⟩ = some (.slice (some ⟨b1, o1, none⟩) n cn) ∧ w_.cell? ⟨b1, o1 + k * 5 + 2, none⟩ = some (.string z.nm) ∧ w_.cell? ⟨b1, o1 + k * 5 + 1, none⟩ = some (.int .i64 z.bk) ∧ w_.cell? ⟨gx, 2, none⟩ = some (.string y.nm) ∧ w_.cell? ⟨gx, 1, none⟩ = some (.int .i64 y.bk))) (by kernel_rfl) ?_ (fun hHeld => ?_)
                                    · (first | with_reducible exact QE | with_reducible assumption)
                                    refine tk 0 ?_; try simp only [Act.put, pz1, pz2, pz3]
                                    refine tk 1 ?_; try simp only [Act.put, pz1, pz2, pz3]
                                    refine tk 2 ?_; try simp only [Act.put, pz1, pz2, pz3]
                                    refine tk 3 ?_; try simp only [Act.put, pz1, pz2, pz3]
                                    refine tk 4 ?_; try simp only [Act.put, pz1, pz2, pz3]
                                    refine tk 5 ?_; try simp only [Act.put, pz1, pz2, pz3]
                                    refine tk 6 ?_; try simp only [Act.put, pz1, pz2, pz3]
                                    refine tk 7 ?_; try simp only [Act.put, pz1, pz2, pz3]
                                    refine tk 8 ?_; try simp only [Act.put, pz1, pz2, pz3]
                                    refine tk 9 ?_; try simp only [Act.put, pz1, pz2, pz3]
                                    refine tk 10 ?_; try simp only [Act.put, pz1, pz2, pz3]
                                    refine tk 11 ?_; try simp only [Act.put, pz1, pz2, pz3]
                                    refine tk 12 ?_; try simp only [Act.put, pz1, pz2, pz3]
                                    refine tk 13 ?_; try simp only [Act.put, pz1, pz2, pz3]
                                    refine tk 14 ?_; try simp only [Act.put, pz1, pz2, pz3]
                                    refine tk 15 ?_; try simp only [Act.put, pz1, pz2, pz3]
                                    refine tk 16 ?_; try simp only [Act.put, pz1, pz2, pz3]
                                    refine tk 17 ?_; try simp only [Act.put, pz1, pz2, pz3]
                                    refine tk 18 ?_; try simp only [Act.put, pz1, pz2, pz3]
                                    refine tk 19 ?_; try simp only [Act.put, pz1, pz2, pz3]
                                    refine wpAnyH_done (by kernel_rfl) ?_ _
                                    refine NoPanic.normal ?_
                                    go_wp2_with fail
                                    go_roundw
                                    case rel => exact ⟨k + 1, by omega, by go_num, Lib.hid (any_next HZ.out HZK.out HZX.out), (by first | exact HBq | exact drew_below HBq), (by first | exact hbq | exact drew_below hbq)⟩
                                    case measure => simp [intOf]; omega
                                · have HZX : Hid ((fun c : Nt => sameS c.nm y.nm && c.bk == y.bk) z = false) := Lib.hid (by simp [sameS, hp])
                                  refine wp_region_noPanic ?_
                                  refine wp_region_held_drew (S := (fun w_ => w_.cell? ⟨w.heap.size, 4, none⟩ = some (.slice (some ⟨b1, o1, none⟩) n cn) ∧ w_.cell? ⟨b1, o1 + k * 5 + 2, none⟩ = some (.string z.nm) ∧ w_.cell? ⟨b1, o1 + k * 5 + 1, none⟩ = some (.int .i64 z.bk) ∧ w_.cell? ⟨gx, 2, none⟩ = some (.string y.nm) ∧ w_.cell? ⟨gx, 1, none⟩ = some (.int .i64 y.bk))) (by kernel_rfl) ?_ (fun hHeld => ?_)
                                  · (first | with_reducible exact QE | with_reducible assumption)
                                  refine tk 0 ?_; try simp only [Act.put, pz1, pz2, pz3]
                                  refine tk 1 ?_; try simp only [Act.put, pz1, pz2, pz3]
                                  refine tk 2 ?_; try simp only [Act.put, pz1, pz2, pz3]
                                  refine tk 3 ?_; try simp only [Act.put, pz1, pz2, pz3]
                                  refine tk 4 ?_; try simp only [Act.put, pz1, pz2, pz3]
                                  refine tk 5 ?_; try simp only [Act.put, pz1, pz2, pz3]
                                  refine tk 6 ?_; try simp only [Act.put, pz1, pz2, pz3]
                                  refine tk 7 ?_; try simp only [Act.put, pz1, pz2, pz3]
                                  refine tk 8 ?_; try simp only [Act.put, pz1, pz2, pz3]
                                  refine tk 9 ?_; try simp only [Act.put, pz1, pz2, pz3]
                                  refine tu 10 ?_
                                  try simp only [Act.put, pz1, pz2, pz3]
                                  refine tu 11 ?_
                                  try simp only [Act.put, pz1, pz2, pz3]
                                  refine tu 12 ?_
                                  try simp only [Act.put, pz1, pz2, pz3]
                                  refine tu 13 ?_
                                  try simp only [Act.put, pz1, pz2, pz3]
                                  refine tu 14 ?_
                                  try simp only [Act.put, pz1, pz2, pz3]
                                  refine tu 15 ?_
                                  try simp only [Act.put, pz1, pz2, pz3]
                                  refine tu 16 ?_
                                  try simp only [Act.put, pz1, pz2, pz3]
                                  refine tu 17 ?_
                                  try simp only [Act.put, pz1, pz2, pz3]
                                  refine tu 18 ?_
                                  try simp only [Act.put, pz1, pz2, pz3]
                                  refine tk 19 ?_; try simp only [Act.put, pz1, pz2, pz3]
                                  refine wpAnyH_done (by kernel_rfl) ?_ _
                                  refine NoPanic.normal ?_
                                  go_wp2_with fail
                                  go_roundw
                                  case rel => exact ⟨k + 1, by omega, by go_num, Lib.hid (any_next HZ.out HZK.out HZX.out), (by first | exact HBq | exact drew_below HBq), (by first | exact hbq | exact drew_below hbq)⟩
                                  case measure => simp [intOf]; omega
                              · have hki : k = i := by omega
                                subst hki
                                have HNX : Hid (ntOk s (s.ts.take (k + 1)) (s.ts.drop (k + 1)) = T) := Lib.hid (by rw [← HI.out, HST.out, HN2.out, HZ.out, HPO.out, HTG.out, decide_eq_true (by omega : 1 ≤ y.id), decide_eq_true (by omega : y.id < s.nn), decide_eq_true (by omega : 0 ≤ bookAt s y.bk), decide_eq_true (by omega : y.sh.length ≤ 8)]; rfl)
                                have Cq := HBN.out.below hbq HBN.out.lt
                                have Sq := HS6.out.next hbq
                                go_wp2_with fail
                                go_roundw
                                case rel => exact ⟨k + 1, by omega, by go_num, HNX, HBq, Cq, Sq⟩
                                case measure => simp [intOf]; omega
          · have hjn : i = n := by omega
            subst hjn
            have HTT : Hid (T = true) := Lib.hid (by have := HI.out; rw [← HN.out, ntk_end] at this; exact this.symm)
            go_wp2_with fail
            go_ret
            exact ⟨by rw [HTT.out]; rfl, HBr⟩
end Go.Proofs.YteokeghenjobaaaGreatDoor
