/- Chapter 17's own: may the sheets be? -/
import Derived.Test.YteokeghenjobaaaGreatDoorZy4
import Derived.Test.YteokeghenjobaaaGreatDoorZy3
set_option linter.unusedSimpArgs false
set_option linter.unusedVariables false
set_option maxRecDepth 100000
set_option maxHeartbeats 16000000
namespace Go.Proofs.YteokeghenjobaaaGreatDoor
open Go.ChangeShapes Go.WideShapes Go.ChangeAt Go.RowKit
attribute [local go_sem ↓] Go.wp_at_zero Go.wp_at_succ
theorem shIn_step {ns : Int} {L : List Int} {i : Nat} {x : Int} (h : L[i]? = some x) : sheetsIn ns (L.take i).reverse (L.drop i) = (inI x 1 (ns - 1) && (!(L.take i).any (fun y => y == x) && sheetsIn ns (L.take (i + 1)).reverse (L.drop (i + 1)))) := by
  have h1 : (L.take (i + 1)).reverse = x :: (L.take i).reverse := by rw [List.take_add_one, h]; simp
  have h2 : (L.take i).reverse.contains x = (L.take i).any (fun y => y == x) := by
    rw [Bool.eq_iff_iff, List.contains_iff_mem, List.mem_reverse, List.any_eq_true]
    constructor
    · intro hx
      exact ⟨x, hx, by simp⟩
    · rintro ⟨y, hy, he⟩
      have : y = x := by simpa using he
      exact this ▸ hy
  rw [drop_next h, h1, ← h2]
  rfl
theorem shIn_end {ns : Int} {L : List Int} {q : List Int} : sheetsIn ns q (L.drop L.length) = true := by
  rw [List.drop_length]
  rfl
def rshB (s : Sf) : Bool := inI s.ns 1 4096 && sheetsIn s.ns [] (s.ts.flatMap Nt.sh)
theorem rsheets_any (s : Sf) (v : Value) (w : World) (hS : ShR w w.heap.size v s) (hln : s.ts.length ≤ 100000) (hlL : (s.ts.flatMap Nt.sh).length ≤ 100000) (T : Bool) (hB0 : rshB s = T) :
    Calls Tryz.prog 81 #[v] w fun e' w' => e' = .returned (.bool T) ∧ Below w.heap.size w w' := by
  have hS0 := hS
  obtain ⟨Ab, cb, An, cn, rfl, hB, hN, hcb, hmb, hcn, hmn⟩ := hS.ex
  clear hS
  have HB : Below w.heap.size w (w.alloc (.cells #[.int .i64 s.nb, .int .i64 s.nn, .int .i64 s.ns, .slice Ab s.bs.length cb, .slice An s.ts.length cn] 25)) := ((Below.refl w.heap.size w).alloc (by first | (simp; done) | (simp; omega)) _)
  have B1 : Blk (w.alloc (.cells #[.int .i64 s.nb, .int .i64 s.nn, .int .i64 s.ns, .slice Ab s.bs.length cb, .slice An s.ts.length cn] 25)) w.heap.size 25 #[.int .i64 s.nb, .int .i64 s.nn, .int .i64 s.ns, .slice Ab s.bs.length cb, .slice An s.ts.length cn] := Blk.new_ w 25 #[.int .i64 s.nb, .int .i64 s.nn, .int .i64 s.ns, .slice Ab s.bs.length cb, .slice An s.ts.length cn]
  have S1 : ShR (w.alloc (.cells #[.int .i64 s.nb, .int .i64 s.nn, .int .i64 s.ns, .slice Ab s.bs.length cb, .slice An s.ts.length cn] 25)) ((w.alloc (.cells #[.int .i64 s.nb, .int .i64 s.nn, .int .i64 s.ns, .slice Ab s.bs.length cb, .slice An s.ts.length cn] 25))).heap.size (.agg #[.int .i64 s.nb, .int .i64 s.nn, .int .i64 s.ns, .slice Ab s.bs.length cb, .slice An s.ts.length cn]) s := hS0.next HB
  have HTB := Lib.hid hB0
  clear hB hN hcb hmb hcn hmn hS0 hB0
  by_cases c1 : s.ns < 1
  · have HTT : Hid (T = false) := Lib.hid (by rw [← HTB.out]; unfold rshB inI; rw [decide_eq_false (by omega : ¬ 1 ≤ s.ns)]; rfl)
    go_enter Tryz.func81, Tryz.ntmps81
    go_wp2_with fail
    go_ret
    exact ⟨by rw [HTT.out]; rfl, HB⟩
  · by_cases c2 : 4096 < s.ns
    · have HTT : Hid (T = false) := Lib.hid (by rw [← HTB.out]; unfold rshB inI; rw [decide_eq_false (by omega : ¬ s.ns ≤ 4096)]; simp)
      go_enter Tryz.func81, Tryz.ntmps81
      go_wp2_with fail
      go_ret
      exact ⟨by rw [HTT.out]; rfl, HB⟩
    · obtain ⟨L, hL⟩ : ∃ L, s.ts.flatMap Nt.sh = L := ⟨_, rfl⟩
      have HT0 : Hid (sheetsIn s.ns (L.take 0).reverse (L.drop 0) = T) := Lib.hid (by rw [← HTB.out, ← hL]; unfold rshB inI; rw [decide_eq_true (by omega : 1 ≤ s.ns), decide_eq_true (by omega : s.ns ≤ 4096)]; simp)
      have hcall := rSheets_any s _ _ S1 hln hlL
      rw [hL] at hcall hlL
      obtain ⟨n, hn⟩ : ∃ n, L.length = n := ⟨_, rfl⟩
      rw [hn] at hcall hlL
      have HN := Lib.hid hn
      have HC := Lib.hid hcall
      clear hL hn hcall S1 HTB
      go_enter Tryz.func81, Tryz.ntmps81
      go_upto_region 4 with (go_at_call 113; ((with_reducible refine HC.out.mono ?_); rintro e' w3 ⟨A, c, rfl, hrow, hlc, hcm, b3⟩; have B1 := B1.below b3 B1.lt; have HB := btr HB HB.size b3; clear b3))
      clear HC hlc hcm
      go_wp2_with fail
      go_loopw [4] (fun iv wr => ∃ i : Nat, i ≤ n ∧ iv = .int .i64 i ∧ Hid (sheetsIn s.ns (L.take i).reverse (L.drop i) = T) ∧ Below w3.heap.size w3 wr) (fun iv _ => n - (intOf iv).toNat)
      case atStart => exact ⟨0, by omega, rfl, HT0, Below.refl _ _⟩
      case round =>
        clear HT0
        obtain ⟨i, hi, rfl, HI, hbr⟩ := hrel
        obtain ⟨wo, hwo⟩ : ∃ V : World, V = wr := ⟨_, rfl⟩
        subst hwo
        have HBr := btr HB HB.size hbr
        have C1 := B1.below hbr B1.lt
        have ROW := hrow.next hbr
        clear HB B1
        have k2 := C1.cell_ 2
        simp at k2
        by_cases hlt : i < n
        · have hlx : i < L.length := by have := HN.out; omega
          obtain ⟨x, hx⟩ : ∃ x, L[i]? = some x := ⟨_, List.getElem?_eq_getElem hlx⟩
          obtain ⟨b1, o1, rfl, l3, q3⟩ := hrow.at_ (by rw [List.length_map]; omega)
          have HQ3 := Lib.hid q3
          have HX3 : Hid ((L.map (Value.int .i64))[i]? = some (.int .i64 x)) := Lib.hid (by rw [List.getElem?_map, hx]; rfl)
          have q1 : ∀ q u, (L.map (Value.int .i64))[q]? = some u → wo.cell? ⟨b1, o1 + q, none⟩ = some u := fun q u hu => (hbr.cell (p := ⟨b1, o1 + q, none⟩) l3).trans (q3 q u hu)
          clear q3
          have cx : wo.cell? ⟨b1, o1 + i, none⟩ = some (.int .i64 x) := q1 i (.int .i64 x) (by rw [List.getElem?_map, hx]; rfl)
          have i0 : (0 : Int) ≤ (i : Int) := by omega
          have i1 : (i : Int) < (n : Int) := by omega
          have HST := Lib.hid (shIn_step (ns := s.ns) hx)
          have HQ1 := Lib.hid q1
          have HX := Lib.hid hx
          have QD : wo.drew.cell? ⟨b1, o1 + i, none⟩ = some (.int .i64 x) ∧ wo.drew.cell? ⟨w.heap.size, 2, none⟩ = some (.int .i64 s.ns) := ⟨drew_cell cx, drew_cell k2⟩
          clear hx q1 hlx
          go_upto_region 7 with fail
          by_cases d1 : x < 1
          · have HTT : Hid (T = false) := Lib.hid (by rw [← HI.out, HST.out]; unfold inI; rw [decide_eq_false (by omega : ¬ 1 ≤ x)]; rfl)
            refine wp_region_noPanic ?_
            refine wp_region_held_drew (S := (fun w_ => w_.cell? ⟨b1, o1 + i, none⟩ = some (.int .i64 x) ∧ w_.cell? ⟨w.heap.size, 2, none⟩ = some (.int .i64 s.ns))) (by kernel_rfl) ?_ (fun hHeld => ?_)
            · (first | with_reducible exact QD | with_reducible assumption)
            refine tk 0 ?_; try simp only [Act.put, pz1, pz2, pz3]
            refine tk 1 ?_; try simp only [Act.put, pz1, pz2, pz3]
            refine tk 2 ?_; try simp only [Act.put, pz1, pz2, pz3]
            refine tk 3 ?_; try simp only [Act.put, pz1, pz2, pz3]
            refine tk 4 ?_; try simp only [Act.put, pz1, pz2, pz3]
            refine tk 5 ?_; try simp only [Act.put, pz1, pz2, pz3]
            refine tu 6 ?_
            try simp only [Act.put, pz1, pz2, pz3]
            refine tu 7 ?_
            try simp only [Act.put, pz1, pz2, pz3]
            refine tu 8 ?_
            try simp only [Act.put, pz1, pz2, pz3]
            refine tu 9 ?_
            try simp only [Act.put, pz1, pz2, pz3]
            refine tu 10 ?_
            try simp only [Act.put, pz1, pz2, pz3]
            refine tu 11 ?_
            try simp only [Act.put, pz1, pz2, pz3]
            refine tu 12 ?_
            try simp only [Act.put, pz1, pz2, pz3]
            refine tk 13 ?_; try simp only [Act.put, pz1, pz2, pz3]
            refine wpAnyH_done (by kernel_rfl) ?_ _
            refine NoPanic.normal ?_
            go_wp2_with fail
            go_ret
            exact ⟨by rw [HTT.out]; rfl, (by first | exact HBr | exact drew_below HBr)⟩
          · by_cases d2 : s.ns ≤ x
            · have HTT : Hid (T = false) := Lib.hid (by rw [← HI.out, HST.out]; unfold inI; rw [decide_eq_false (by omega : ¬ x ≤ s.ns - 1)]; simp)
              refine wp_region_noPanic ?_
              refine wp_region_held_drew (S := (fun w_ => w_.cell? ⟨b1, o1 + i, none⟩ = some (.int .i64 x) ∧ w_.cell? ⟨w.heap.size, 2, none⟩ = some (.int .i64 s.ns))) (by kernel_rfl) ?_ (fun hHeld => ?_)
              · (first | with_reducible exact QD | with_reducible assumption)
              refine tk 0 ?_; try simp only [Act.put, pz1, pz2, pz3]
              refine tk 1 ?_; try simp only [Act.put, pz1, pz2, pz3]
              refine tk 2 ?_; try simp only [Act.put, pz1, pz2, pz3]
              refine tk 3 ?_; try simp only [Act.put, pz1, pz2, pz3]
              refine tk 4 ?_; try simp only [Act.put, pz1, pz2, pz3]
              refine tk 5 ?_; try simp only [Act.put, pz1, pz2, pz3]
              refine tk 6 ?_; try simp only [Act.put, pz1, pz2, pz3]
              refine tk 7 ?_; try simp only [Act.put, pz1, pz2, pz3]
              refine tk 8 ?_; try simp only [Act.put, pz1, pz2, pz3]
              refine tk 9 ?_; try simp only [Act.put, pz1, pz2, pz3]
              refine tk 10 ?_; try simp only [Act.put, pz1, pz2, pz3]
              refine tk 11 ?_; try simp only [Act.put, pz1, pz2, pz3]
              refine tk 12 ?_; try simp only [Act.put, pz1, pz2, pz3]
              refine tk 13 ?_; try simp only [Act.put, pz1, pz2, pz3]
              refine wpAnyH_done (by kernel_rfl) ?_ _
              refine NoPanic.normal ?_
              go_wp2_with fail
              go_ret
              exact ⟨by rw [HTT.out]; rfl, (by first | exact HBr | exact drew_below HBr)⟩
            · have HIN : Hid (inI x 1 (s.ns - 1) = true) := Lib.hid (inI_of (by omega) (by omega))
              refine wp_region_noPanic ?_
              refine wp_region_held_drew (S := (fun w_ => w_.cell? ⟨b1, o1 + i, none⟩ = some (.int .i64 x) ∧ w_.cell? ⟨w.heap.size, 2, none⟩ = some (.int .i64 s.ns))) (by kernel_rfl) ?_ (fun hHeld => ?_)
              · (first | with_reducible exact QD | with_reducible assumption)
              refine tk 0 ?_; try simp only [Act.put, pz1, pz2, pz3]
              refine tk 1 ?_; try simp only [Act.put, pz1, pz2, pz3]
              refine tk 2 ?_; try simp only [Act.put, pz1, pz2, pz3]
              refine tk 3 ?_; try simp only [Act.put, pz1, pz2, pz3]
              refine tk 4 ?_; try simp only [Act.put, pz1, pz2, pz3]
              refine tk 5 ?_; try simp only [Act.put, pz1, pz2, pz3]
              refine tk 6 ?_; try simp only [Act.put, pz1, pz2, pz3]
              refine tk 7 ?_; try simp only [Act.put, pz1, pz2, pz3]
              refine tk 8 ?_; try simp only [Act.put, pz1, pz2, pz3]
              refine tk 9 ?_; try simp only [Act.put, pz1, pz2, pz3]
              refine tk 10 ?_; try simp only [Act.put, pz1, pz2, pz3]
              refine tk 11 ?_; try simp only [Act.put, pz1, pz2, pz3]
              refine tk 12 ?_; try simp only [Act.put, pz1, pz2, pz3]
              refine tk 13 ?_; try simp only [Act.put, pz1, pz2, pz3]
              refine wpAnyH_done (by kernel_rfl) ?_ _
              refine NoPanic.normal ?_
              go_wp2_with fail
              obtain ⟨wn, hwn⟩ : ∃ V : World, V = wo.drew := ⟨_, rfl⟩
              have hDn := below_dr wo
              rw [← hwn] at hDn ⊢
              have HBn := btr HBr HBr.size hDn
              have hbn := btr hbr hbr.size hDn
              clear hwn hDn QD cx k2 HBr hbr C1 ROW HX
              have H0 : Hid ((L.take 0).any (fun y => y == x) = false) := Lib.hid rfl
              go_loopw [5] (fun kv wr => ∃ k : Nat, k ≤ i ∧ kv = .int .i64 k ∧ Hid ((L.take k).any (fun y => y == x) = false) ∧ Below w.heap.size w wr ∧ Below w3.heap.size w3 wr) (fun kv _ => i - (intOf kv).toNat)
              case atStart => exact ⟨0, by omega, rfl, H0, HBn, hbn⟩
              case round =>
                clear H0 HBn hbn
                obtain ⟨k, hk, rfl, HZ, HBq, hbq⟩ := hrel
                by_cases hlk : k < i
                · obtain ⟨z, hz⟩ : ∃ z, L[k]? = some z := ⟨_, List.getElem?_eq_getElem (by have := HN.out; omega)⟩
                  have cz0 := HQ3.out k (.int .i64 z) (by rw [List.getElem?_map, hz]; rfl)
                  have cx0 := HQ3.out i (.int .i64 x) HX3.out
                  have cz : wr.cell? ⟨b1, o1 + k, none⟩ = some (.int .i64 z) := (hbq.cell (p := ⟨b1, _, none⟩) l3).trans cz0
                  have cx : wr.cell? ⟨b1, o1 + i, none⟩ = some (.int .i64 x) := (hbq.cell (p := ⟨b1, _, none⟩) l3).trans cx0
                  have HZK := Lib.hid hz
                  have k0 : (0 : Int) ≤ (k : Int) := by omega
                  have k1 : (k : Int) < (i : Int) := by omega
                  have k3 : (k : Int) < (n : Int) := by omega
                  have QE : wr.drew.cell? ⟨b1, o1 + k, none⟩ = some (.int .i64 z) ∧ wr.drew.cell? ⟨b1, o1 + i, none⟩ = some (.int .i64 x) := ⟨drew_cell cz, drew_cell cx⟩
                  clear hz cz0 cx0
                  go_upto_region 12 with fail
                  rcases (by cases hq : (z == x) <;> simp : (z == x) = true ∨ (z == x) = false) with hp | hp
                  · have HTT : Hid (T = false) := Lib.hid (by rw [← HI.out, HST.out, List.any_eq_true.2 ⟨z, List.mem_take_iff_getElem.2 ⟨k, by have := HN.out; omega, (List.getElem?_eq_some_iff.1 HZK.out).2⟩, hp⟩]; simp)
                    refine wp_region_noPanic ?_
                    refine wp_region_held_drew (S := (fun w_ => w_.cell? ⟨b1, o1 + k, none⟩ = some (.int .i64 z) ∧ w_.cell? ⟨b1, o1 + i, none⟩ = some (.int .i64 x))) (by kernel_rfl) ?_ (fun hHeld => ?_)
                    · (first | with_reducible exact QE | with_reducible assumption)
                    refine tk 0 ?_; try simp only [Act.put, pz1, pz2, pz3]
                    refine tk 1 ?_; try simp only [Act.put, pz1, pz2, pz3]
                    refine tk 2 ?_; try simp only [Act.put, pz1, pz2, pz3]
                    refine tk 3 ?_; try simp only [Act.put, pz1, pz2, pz3]
                    refine tk 4 ?_; try simp only [Act.put, pz1, pz2, pz3]
                    refine tk 5 ?_; try simp only [Act.put, pz1, pz2, pz3]
                    refine tk 6 ?_; try simp only [Act.put, pz1, pz2, pz3]
                    refine tk 7 ?_; try simp only [Act.put, pz1, pz2, pz3]
                    refine tk 8 ?_; try simp only [Act.put, pz1, pz2, pz3]
                    refine wpAnyH_done (by kernel_rfl) ?_ _
                    refine NoPanic.normal ?_
                    go_wp2_with fail
                    go_ret
                    exact ⟨by rw [HTT.out]; rfl, (by first | exact HBq | exact drew_below HBq)⟩
                  · have HZX : Hid ((fun y => y == x) z = false) := Lib.hid hp
                    refine wp_region_noPanic ?_
                    refine wp_region_held_drew (S := (fun w_ => w_.cell? ⟨b1, o1 + k, none⟩ = some (.int .i64 z) ∧ w_.cell? ⟨b1, o1 + i, none⟩ = some (.int .i64 x))) (by kernel_rfl) ?_ (fun hHeld => ?_)
                    · (first | with_reducible exact QE | with_reducible assumption)
                    refine tk 0 ?_; try simp only [Act.put, pz1, pz2, pz3]
                    refine tk 1 ?_; try simp only [Act.put, pz1, pz2, pz3]
                    refine tk 2 ?_; try simp only [Act.put, pz1, pz2, pz3]
                    refine tk 3 ?_; try simp only [Act.put, pz1, pz2, pz3]
                    refine tk 4 ?_; try simp only [Act.put, pz1, pz2, pz3]
                    refine tk 5 ?_; try simp only [Act.put, pz1, pz2, pz3]
                    refine tk 6 ?_; try simp only [Act.put, pz1, pz2, pz3]
                    refine tk 7 ?_; try simp only [Act.put, pz1, pz2, pz3]
                    refine tk 8 ?_; try simp only [Act.put, pz1, pz2, pz3]
                    refine wpAnyH_done (by kernel_rfl) ?_ _
                    refine NoPanic.normal ?_
                    go_wp2_with fail
                    go_roundw
                    case rel => exact ⟨k + 1, by omega, by go_num, Lib.hid (any_next HZ.out HZK.out HZX.out), (by first | exact HBq | exact drew_below HBq), (by first | exact hbq | exact drew_below hbq)⟩
                    case measure => simp [intOf]; omega
                · have hki : k = i := by omega
                  subst hki
                  have HNX : Hid (sheetsIn s.ns (L.take (k + 1)).reverse (L.drop (k + 1)) = T) := Lib.hid (by rw [← HI.out, HST.out, HIN.out, HZ.out]; rfl)
                  go_wp2_with fail
                  go_roundw
                  case rel => exact ⟨k + 1, by omega, by go_num, HNX, hbq⟩
                  case measure => simp [intOf]; omega
        · have hjn : i = n := by omega
          subst hjn
          have HTT : Hid (T = true) := Lib.hid (by have := HI.out; rw [← HN.out, shIn_end] at this; exact this.symm)
          go_wp2_with fail
          go_ret
          exact ⟨by rw [HTT.out]; rfl, HBr⟩
end Go.Proofs.YteokeghenjobaaaGreatDoor
namespace Go.Proofs.YteokeghenjobaaaGreatDoor
open Go.ChangeShapes Go.WideShapes Go.ChangeAt Go.RowKit
attribute [local go_sem ↓] Go.wp_at_zero Go.wp_at_succ
def prevOk (pre : List Bk) (b : Bk) : Bool := match pre.getLast? with
  | some p => decide (p.id < b.id)
  | none => true
def bkOk (s : Sf) : List Bk → List Bk → Bool
  | _, [] => true
  | pre, b :: l => decide (1 ≤ b.id) && (decide (b.id < s.nb) && (prevOk pre b && (mayN b.nm && (!pre.any (fun c => sameS c.nm b.nm) && bkOk s (pre ++ [b]) l))))
theorem bk_step {s : Sf} {i : Nat} {b : Bk} (h : s.bs[i]? = some b) : bkOk s (s.bs.take i) (s.bs.drop i) = (decide (1 ≤ b.id) && (decide (b.id < s.nb) && (prevOk (s.bs.take i) b && (mayN b.nm && (!(s.bs.take i).any (fun c => sameS c.nm b.nm) && bkOk s (s.bs.take (i + 1)) (s.bs.drop (i + 1))))))) := by
  have h1 : s.bs.take (i + 1) = s.bs.take i ++ [b] := by rw [List.take_add_one, h]; rfl
  rw [drop_next h, h1]
  rfl
theorem bk_end {s : Sf} {q : List Bk} : bkOk s q (s.bs.drop s.bs.length) = true := by
  rw [List.drop_length]
  rfl
theorem prevOk_at {s : Sf} {j : Nat} {p b : Bk} (h : s.bs[j]? = some p) : prevOk (s.bs.take (j + 1)) b = decide (p.id < b.id) := by
  have h1 : s.bs.take (j + 1) = s.bs.take j ++ [p] := by rw [List.take_add_one, h]; rfl
  unfold prevOk
  rw [h1]
  simp
def rbkB (s : Sf) : Bool := decide (s.bs.length ≤ 6) && (inI s.nb 1 65536 && bkOk s [] s.bs)
theorem rbooks_any (s : Sf) (v : Value) (w : World) (hS : ShR w w.heap.size v s) (hsz : ∀ b ∈ s.bs, b.nm.size ≤ 100000) (hlb : s.bs.length ≤ 100000) (T : Bool) (hB0 : rbkB s = T) :
    Calls Tryz.prog 79 #[v] w fun e' w' => e' = .returned (.bool T) ∧ Below w.heap.size w w' := by
  have hS0 := hS
  obtain ⟨Ab, cb, An, cn, rfl, hB, hN, hcb, hmb, hcn, hmn⟩ := hS.ex
  clear hS
  have HB : Below w.heap.size w (w.alloc (.cells #[.int .i64 s.nb, .int .i64 s.nn, .int .i64 s.ns, .slice Ab s.bs.length cb, .slice An s.ts.length cn] 25)) := ((Below.refl w.heap.size w).alloc (by first | (simp; done) | (simp; omega)) _)
  have B1 : Blk (w.alloc (.cells #[.int .i64 s.nb, .int .i64 s.nn, .int .i64 s.ns, .slice Ab s.bs.length cb, .slice An s.ts.length cn] 25)) w.heap.size 25 #[.int .i64 s.nb, .int .i64 s.nn, .int .i64 s.ns, .slice Ab s.bs.length cb, .slice An s.ts.length cn] := Blk.new_ w 25 #[.int .i64 s.nb, .int .i64 s.nn, .int .i64 s.ns, .slice Ab s.bs.length cb, .slice An s.ts.length cn]
  have HTB := Lib.hid hB0
  have HSZ := Lib.hid hsz
  obtain ⟨n, hn⟩ : ∃ n, s.bs.length = n := ⟨_, rfl⟩
  have hu : rbkB s = (decide (n ≤ 6) && (inI s.nb 1 65536 && bkOk s [] s.bs)) := by unfold rbkB; rw [hn]
  have HU := Lib.hid (hu.symm.trans hB0)
  have HN := Lib.hid hn
  rw [hn] at HB B1 hlb ⊢
  clear hN hcb hmb hcn hmn hS0 hB0 hsz hn hu HTB
  by_cases c0 : 6 < n
  · have g0 : (6 : Int) < (n : Int) := by omega
    have HTT : Hid (T = false) := Lib.hid (by rw [← HU.out, decide_eq_false (by omega : ¬ n ≤ 6)]; rfl)
    go_enter Tryz.func79, Tryz.ntmps79
    go_wp2_with fail
    go_ret
    exact ⟨by rw [HTT.out]; rfl, HB⟩
  · have g0 : ¬ (6 : Int) < (n : Int) := by omega
    by_cases c1 : s.nb < 1
    · have HTT : Hid (T = false) := Lib.hid (by rw [← HU.out]; unfold inI; rw [decide_eq_false (by omega : ¬ 1 ≤ s.nb)]; simp)
      go_enter Tryz.func79, Tryz.ntmps79
      go_wp2_with fail
      go_ret
      exact ⟨by rw [HTT.out]; rfl, HB⟩
    · by_cases c2 : 65536 < s.nb
      · have HTT : Hid (T = false) := Lib.hid (by rw [← HU.out]; unfold inI; rw [decide_eq_false (by omega : ¬ s.nb ≤ 65536)]; simp)
        go_enter Tryz.func79, Tryz.ntmps79
        go_wp2_with fail
        go_ret
        exact ⟨by rw [HTT.out]; rfl, HB⟩
      · have HT0 : Hid (bkOk s (s.bs.take 0) (s.bs.drop 0) = T) := Lib.hid (by rw [← HU.out, decide_eq_true (by omega : n ≤ 6), inI_of (by omega) (by omega)]; rfl)
        clear HU
        go_enter Tryz.func79, Tryz.ntmps79
        obtain ⟨W, hW⟩ : ∃ V : World, V = (w.alloc (.cells #[.int .i64 s.nb, .int .i64 s.nn, .int .i64 s.ns, .slice Ab n cb, .slice An s.ts.length cn] 25)) := ⟨_, rfl⟩
        rw [← hW] at HB B1
        go_upto_region 4 with fail
        rw [← hW]
        clear hW
        go_wp2_with fail
        go_loopw [3] (fun iv wr => ∃ i : Nat, i ≤ n ∧ iv = .int .i64 i ∧ Hid (bkOk s (s.bs.take i) (s.bs.drop i) = T) ∧ Below w.heap.size w wr ∧ Blk wr w.heap.size 25 #[.int .i64 s.nb, .int .i64 s.nn, .int .i64 s.ns, .slice Ab n cb, .slice An s.ts.length cn]) (fun iv _ => n - (intOf iv).toNat)
        case atStart => exact ⟨0, by omega, rfl, HT0, HB, B1⟩
        case round =>
          clear HT0 HB B1
          obtain ⟨i, hi, rfl, HI, HBr, C1⟩ := hrel
          obtain ⟨wo, hwo⟩ : ∃ V : World, V = wr := ⟨_, rfl⟩
          subst hwo
          have k0 := C1.cell_ 0
          have k3 := C1.cell_ 3
          simp at k0 k3
          by_cases hlt : i < n
          · have hlx : i < s.bs.length := by have := HN.out; omega
            obtain ⟨b, hx⟩ : ∃ x, s.bs[i]? = some x := ⟨_, List.getElem?_eq_getElem hlx⟩
            obtain ⟨b1, o1, rfl, l1, q1⟩ := SlE.at_ hB (by rw [List.length_map]; omega)
            have he : (s.bs.map bkC)[i]? = some (bkC b) := by rw [List.getElem?_map, hx]; rfl
            have y0 : wo.cell? ⟨b1, o1 + i * 2, none⟩ = some (.int .i64 b.id) := (HBr.cell (p := ⟨b1, _, none⟩) l1).trans (q1 i _ he 0 _ rfl)
            have y1 : wo.cell? ⟨b1, o1 + i * 2 + 1, none⟩ = some (.string b.nm) := (HBr.cell (p := ⟨b1, _, none⟩) l1).trans (q1 i _ he 1 _ rfl)
            have i0 : (0 : Int) ≤ (i : Int) := by omega
            have i1 : (i : Int) < (n : Int) := by omega
            have HST := Lib.hid (bk_step hx)
            have HQ1 := Lib.hid q1
            have HX := Lib.hid hx
            have hbs := HSZ.out b (List.mem_of_getElem? hx)
            have hAL : Below wo.heap.size wo (wo.alloc (.cells #[.int .i64 b.id, .string b.nm] 60)) := (Below.refl _ _).alloc (Nat.le_refl _) _
            have BX : Blk (wo.alloc (.cells #[.int .i64 b.id, .string b.nm] 60)) wo.heap.size 60 #[.int .i64 b.id, .string b.nm] := Blk.new_ wo 60 _
            have C2 := C1.below hAL C1.lt
            have HBa := btr HBr HBr.size hAL
            clear hx he q1 hlx
            go_upto_region 7 with fail
            obtain ⟨wa, hwa⟩ : ∃ V : World, V = wo.alloc (.cells #[.int .i64 b.id, .string b.nm] 60) := ⟨_, rfl⟩
            obtain ⟨gx, hgx⟩ : ∃ V : Nat, V = wo.heap.size := ⟨_, rfl⟩
            rw [← hwa, ← hgx] at BX
            rw [← hwa] at C2 HBa
            rw [← hwa, ← hgx]
            clear hwa hgx hAL y0 y1 k0 k3 C1 HBr
            have x0 := BX.cell_ 0
            have x1 := BX.cell_ 1
            have k0 := C2.cell_ 0
            have k3 := C2.cell_ 3
            simp at x0 x1 k0 k3
            by_cases d1 : b.id < 1
            · have HTT : Hid (T = false) := Lib.hid (by rw [← HI.out, HST.out, decide_eq_false (by omega : ¬ 1 ≤ b.id)]; rfl)
              have QD : wa.drew.cell? ⟨gx, 0, none⟩ = some (.int .i64 b.id) ∧ wa.drew.cell? ⟨gx, 1, none⟩ = some (.string b.nm) ∧ wa.drew.cell? ⟨w.heap.size, 0, none⟩ = some (.int .i64 s.nb) ∧ wa.drew.cell? ⟨w.heap.size, 3, none⟩ = some (.slice (some ⟨b1, o1, none⟩) n cb) := ⟨drew_cell x0, drew_cell x1, drew_cell k0, drew_cell k3⟩
              refine wp_region_noPanic ?_
              refine wp_region_held_drew (S := (fun w_ => w_.cell? ⟨gx, 0, none⟩ = some (.int .i64 b.id) ∧ w_.cell? ⟨gx, 1, none⟩ = some (.string b.nm) ∧ w_.cell? ⟨w.heap.size, 0, none⟩ = some (.int .i64 s.nb) ∧ w_.cell? ⟨w.heap.size, 3, none⟩ = some (.slice (some ⟨b1, o1, none⟩) n cb))) (by kernel_rfl) ?_ (fun hHeld => ?_)
              · (first | with_reducible exact QD | with_reducible assumption)
              refine tk 0 ?_; try simp only [Act.put, pz1, pz2, pz3]
              refine tk 1 ?_; try simp only [Act.put, pz1, pz2, pz3]
              refine tk 2 ?_; try simp only [Act.put, pz1, pz2, pz3]
              refine tk 3 ?_; try simp only [Act.put, pz1, pz2, pz3]
              refine tu 4 ?_
              try simp only [Act.put, pz1, pz2, pz3]
              refine tu 5 ?_
              try simp only [Act.put, pz1, pz2, pz3]
              refine tu 6 ?_
              try simp only [Act.put, pz1, pz2, pz3]
              refine tu 7 ?_
              try simp only [Act.put, pz1, pz2, pz3]
              refine tu 8 ?_
              try simp only [Act.put, pz1, pz2, pz3]
              refine tk 9 ?_; try simp only [Act.put, pz1, pz2, pz3]
              refine tk 10 ?_; try simp only [Act.put, pz1, pz2, pz3]
              refine tu 11 ?_
              try simp only [Act.put, pz1, pz2, pz3]
              refine tu 12 ?_
              try simp only [Act.put, pz1, pz2, pz3]
              refine tu 13 ?_
              try simp only [Act.put, pz1, pz2, pz3]
              refine tu 14 ?_
              try simp only [Act.put, pz1, pz2, pz3]
              refine tu 15 ?_
              try simp only [Act.put, pz1, pz2, pz3]
              refine tu 16 ?_
              try simp only [Act.put, pz1, pz2, pz3]
              refine tu 17 ?_
              try simp only [Act.put, pz1, pz2, pz3]
              refine tu 18 ?_
              try simp only [Act.put, pz1, pz2, pz3]
              refine tu 19 ?_
              try simp only [Act.put, pz1, pz2, pz3]
              refine tu 20 ?_
              try simp only [Act.put, pz1, pz2, pz3]
              refine tu 21 ?_
              try simp only [Act.put, pz1, pz2, pz3]
              refine tu 22 ?_
              try simp only [Act.put, pz1, pz2, pz3]
              refine tu 23 ?_
              try simp only [Act.put, pz1, pz2, pz3]
              refine tu 24 ?_
              try simp only [Act.put, pz1, pz2, pz3]
              refine tk 25 ?_; try simp only [Act.put, pz1, pz2, pz3]
              refine tk 26 ?_; try simp only [Act.put, pz1, pz2, pz3]
              refine tu 27 ?_
              try simp only [Act.put, pz1, pz2, pz3]
              refine tu 28 ?_
              try simp only [Act.put, pz1, pz2, pz3]
              refine tu 29 ?_
              try simp only [Act.put, pz1, pz2, pz3]
              refine tu 30 ?_
              try simp only [Act.put, pz1, pz2, pz3]
              refine tk 31 ?_; try simp only [Act.put, pz1, pz2, pz3]
              refine wpAnyH_done (by kernel_rfl) ?_ _
              refine NoPanic.normal ?_
              go_wp2_with fail
              go_ret
              exact ⟨by rw [HTT.out]; rfl, (by first | exact HBa | exact drew_below HBa)⟩
            · by_cases d2 : s.nb ≤ b.id
              · have HTT : Hid (T = false) := Lib.hid (by rw [← HI.out, HST.out, decide_eq_false (by omega : ¬ b.id < s.nb)]; simp)
                have QD : wa.drew.cell? ⟨gx, 0, none⟩ = some (.int .i64 b.id) ∧ wa.drew.cell? ⟨gx, 1, none⟩ = some (.string b.nm) ∧ wa.drew.cell? ⟨w.heap.size, 0, none⟩ = some (.int .i64 s.nb) ∧ wa.drew.cell? ⟨w.heap.size, 3, none⟩ = some (.slice (some ⟨b1, o1, none⟩) n cb) := ⟨drew_cell x0, drew_cell x1, drew_cell k0, drew_cell k3⟩
                refine wp_region_noPanic ?_
                refine wp_region_held_drew (S := (fun w_ => w_.cell? ⟨gx, 0, none⟩ = some (.int .i64 b.id) ∧ w_.cell? ⟨gx, 1, none⟩ = some (.string b.nm) ∧ w_.cell? ⟨w.heap.size, 0, none⟩ = some (.int .i64 s.nb) ∧ w_.cell? ⟨w.heap.size, 3, none⟩ = some (.slice (some ⟨b1, o1, none⟩) n cb))) (by kernel_rfl) ?_ (fun hHeld => ?_)
                · (first | with_reducible exact QD | with_reducible assumption)
                refine tk 0 ?_; try simp only [Act.put, pz1, pz2, pz3]
                refine tk 1 ?_; try simp only [Act.put, pz1, pz2, pz3]
                refine tk 2 ?_; try simp only [Act.put, pz1, pz2, pz3]
                refine tk 3 ?_; try simp only [Act.put, pz1, pz2, pz3]
                refine tk 4 ?_; try simp only [Act.put, pz1, pz2, pz3]
                refine tk 5 ?_; try simp only [Act.put, pz1, pz2, pz3]
                refine tk 6 ?_; try simp only [Act.put, pz1, pz2, pz3]
                refine tk 7 ?_; try simp only [Act.put, pz1, pz2, pz3]
                refine tk 8 ?_; try simp only [Act.put, pz1, pz2, pz3]
                refine tk 9 ?_; try simp only [Act.put, pz1, pz2, pz3]
                refine tk 10 ?_; try simp only [Act.put, pz1, pz2, pz3]
                refine tu 11 ?_
                try simp only [Act.put, pz1, pz2, pz3]
                refine tu 12 ?_
                try simp only [Act.put, pz1, pz2, pz3]
                refine tu 13 ?_
                try simp only [Act.put, pz1, pz2, pz3]
                refine tu 14 ?_
                try simp only [Act.put, pz1, pz2, pz3]
                refine tu 15 ?_
                try simp only [Act.put, pz1, pz2, pz3]
                refine tu 16 ?_
                try simp only [Act.put, pz1, pz2, pz3]
                refine tu 17 ?_
                try simp only [Act.put, pz1, pz2, pz3]
                refine tu 18 ?_
                try simp only [Act.put, pz1, pz2, pz3]
                refine tu 19 ?_
                try simp only [Act.put, pz1, pz2, pz3]
                refine tu 20 ?_
                try simp only [Act.put, pz1, pz2, pz3]
                refine tu 21 ?_
                try simp only [Act.put, pz1, pz2, pz3]
                refine tu 22 ?_
                try simp only [Act.put, pz1, pz2, pz3]
                refine tu 23 ?_
                try simp only [Act.put, pz1, pz2, pz3]
                refine tu 24 ?_
                try simp only [Act.put, pz1, pz2, pz3]
                refine tk 25 ?_; try simp only [Act.put, pz1, pz2, pz3]
                refine tk 26 ?_; try simp only [Act.put, pz1, pz2, pz3]
                refine tu 27 ?_
                try simp only [Act.put, pz1, pz2, pz3]
                refine tu 28 ?_
                try simp only [Act.put, pz1, pz2, pz3]
                refine tu 29 ?_
                try simp only [Act.put, pz1, pz2, pz3]
                refine tu 30 ?_
                try simp only [Act.put, pz1, pz2, pz3]
                refine tk 31 ?_; try simp only [Act.put, pz1, pz2, pz3]
                refine wpAnyH_done (by kernel_rfl) ?_ _
                refine NoPanic.normal ?_
                go_wp2_with fail
                go_ret
                exact ⟨by rw [HTT.out]; rfl, (by first | exact HBa | exact drew_below HBa)⟩
              · obtain ⟨N, hNm⟩ : ∃ N, mayN b.nm = N := ⟨_, rfl⟩
                have HNM : Hid (nameB b.nm.data.toList = N) := Lib.hid hNm
                have HN2 := Lib.hid hNm
                clear hNm
                rcases (by omega : i = 0 ∨ 0 < i) with hi0 | hi0
                · have hdz : decide (0 < i) = false := decide_eq_false (by omega)
                  have HPO : Hid (prevOk (s.bs.take i) b = true) := Lib.hid (by subst hi0; rfl)
                  have QD : wa.drew.cell? ⟨gx, 0, none⟩ = some (.int .i64 b.id) ∧ wa.drew.cell? ⟨gx, 1, none⟩ = some (.string b.nm) ∧ wa.drew.cell? ⟨w.heap.size, 0, none⟩ = some (.int .i64 s.nb) ∧ wa.drew.cell? ⟨w.heap.size, 3, none⟩ = some (.slice (some ⟨b1, o1, none⟩) n cb) := ⟨drew_cell x0, drew_cell x1, drew_cell k0, drew_cell k3⟩
                  clear hi0
                  cases N
                  · have HTT : Hid (T = false) := Lib.hid (by rw [← HI.out, HST.out, HN2.out]; simp)
                    refine wp_region_noPanic ?_
                    refine wp_region_held_drew (S := (fun w_ => w_.cell? ⟨gx, 0, none⟩ = some (.int .i64 b.id) ∧ w_.cell? ⟨gx, 1, none⟩ = some (.string b.nm) ∧ w_.cell? ⟨w.heap.size, 0, none⟩ = some (.int .i64 s.nb) ∧ w_.cell? ⟨w.heap.size, 3, none⟩ = some (.slice (some ⟨b1, o1, none⟩) n cb))) (by kernel_rfl) ?_ (fun hHeld => ?_)
                    · (first | with_reducible exact QD | with_reducible assumption)
                    refine tk 0 ?_; try simp only [Act.put, pz1, pz2, pz3]
                    refine tk 1 ?_; try simp only [Act.put, pz1, pz2, pz3]
                    refine tk 2 ?_; try simp only [Act.put, pz1, pz2, pz3]
                    refine tk 3 ?_; try simp only [Act.put, pz1, pz2, pz3]
                    refine tk 4 ?_; try simp only [Act.put, pz1, pz2, pz3]
                    refine tk 5 ?_; try simp only [Act.put, pz1, pz2, pz3]
                    refine tk 6 ?_; try simp only [Act.put, pz1, pz2, pz3]
                    refine tk 7 ?_; try simp only [Act.put, pz1, pz2, pz3]
                    refine tk 8 ?_; try simp only [Act.put, pz1, pz2, pz3]
                    refine tk 9 ?_; try simp only [Act.put, pz1, pz2, pz3]
                    refine tk 10 ?_; try simp only [Act.put, pz1, pz2, pz3]
                    refine tk 11 ?_; try simp only [Act.put, pz1, pz2, pz3]
                    refine tk 12 ?_; try simp only [Act.put, pz1, pz2, pz3]
                    refine tk 13 ?_; try simp only [Act.put, pz1, pz2, pz3]
                    refine tu 14 ?_
                    try simp only [Act.put, pz1, pz2, pz3]
                    refine tu 15 ?_
                    try simp only [Act.put, pz1, pz2, pz3]
                    refine tu 16 ?_
                    try simp only [Act.put, pz1, pz2, pz3]
                    refine tu 17 ?_
                    try simp only [Act.put, pz1, pz2, pz3]
                    refine tu 18 ?_
                    try simp only [Act.put, pz1, pz2, pz3]
                    refine tu 19 ?_
                    try simp only [Act.put, pz1, pz2, pz3]
                    refine tu 20 ?_
                    try simp only [Act.put, pz1, pz2, pz3]
                    refine tu 21 ?_
                    try simp only [Act.put, pz1, pz2, pz3]
                    refine tu 22 ?_
                    try simp only [Act.put, pz1, pz2, pz3]
                    refine tu 23 ?_
                    try simp only [Act.put, pz1, pz2, pz3]
                    refine tk 24 ?_; try simp only [Act.put, pz1, pz2, pz3]
                    refine tk 25 ?_; try simp only [Act.put, pz1, pz2, pz3]
                    refine tk 26 ?_; try simp only [Act.put, pz1, pz2, pz3]
                    refine tk 27 ?_; try simp only [Act.put, pz1, pz2, pz3]
                    refine tk 28 ?_; try simp only [Act.put, pz1, pz2, pz3]
                    refine wpAnyH_ready (rs := [29]) (by kernel_rfl) (by simp) ?_
                    refine AllReadyH.cons (o := ⟨some 61, .call { callee := .value (.func 111), args := #[.tmp 60], argTypes := #[9] }, 4, "ref.go:16", #[⟨28, .data⟩, ⟨26, .chain⟩, ⟨26, .guard⟩], some (26, false)⟩) rfl (fun K hK => ?_) AllReadyH.nil
                    go_simp
                    (go_at_call 111; ((with_reducible refine (rmay_any3 b.nm _ _ hbs HNM.out).mono ?_); rintro e' wN ⟨rfl, rfl⟩))
                    go_wp2_with fail
                    refine hK.out _ _ ?_ (fun hNew => ?_)
                    · (first | with_reducible exact QD | with_reducible assumption)
                    clear hK K hHeld
                    have hHeld := hNew
                    clear hNew
                    try simp only [Act.put, pz1, pz2, pz3]
                    refine tk 30 ?_; try simp only [Act.put, pz1, pz2, pz3]
                    refine tk 31 ?_; try simp only [Act.put, pz1, pz2, pz3]
                    refine wpAnyH_done (by kernel_rfl) ?_ _
                    refine NoPanic.normal ?_
                    go_wp2_with fail
                    go_ret
                    exact ⟨by rw [HTT.out]; rfl, (by first | exact HBa | exact drew_below HBa)⟩
                  · skip
                    refine wp_region_noPanic ?_
                    refine wp_region_held_drew (S := (fun w_ => w_.cell? ⟨gx, 0, none⟩ = some (.int .i64 b.id) ∧ w_.cell? ⟨gx, 1, none⟩ = some (.string b.nm) ∧ w_.cell? ⟨w.heap.size, 0, none⟩ = some (.int .i64 s.nb) ∧ w_.cell? ⟨w.heap.size, 3, none⟩ = some (.slice (some ⟨b1, o1, none⟩) n cb))) (by kernel_rfl) ?_ (fun hHeld => ?_)
                    · (first | with_reducible exact QD | with_reducible assumption)
                    refine tk 0 ?_; try simp only [Act.put, pz1, pz2, pz3]
                    refine tk 1 ?_; try simp only [Act.put, pz1, pz2, pz3]
                    refine tk 2 ?_; try simp only [Act.put, pz1, pz2, pz3]
                    refine tk 3 ?_; try simp only [Act.put, pz1, pz2, pz3]
                    refine tk 4 ?_; try simp only [Act.put, pz1, pz2, pz3]
                    refine tk 5 ?_; try simp only [Act.put, pz1, pz2, pz3]
                    refine tk 6 ?_; try simp only [Act.put, pz1, pz2, pz3]
                    refine tk 7 ?_; try simp only [Act.put, pz1, pz2, pz3]
                    refine tk 8 ?_; try simp only [Act.put, pz1, pz2, pz3]
                    refine tk 9 ?_; try simp only [Act.put, pz1, pz2, pz3]
                    refine tk 10 ?_; try simp only [Act.put, pz1, pz2, pz3]
                    refine tk 11 ?_; try simp only [Act.put, pz1, pz2, pz3]
                    refine tk 12 ?_; try simp only [Act.put, pz1, pz2, pz3]
                    refine tk 13 ?_; try simp only [Act.put, pz1, pz2, pz3]
                    refine tu 14 ?_
                    try simp only [Act.put, pz1, pz2, pz3]
                    refine tu 15 ?_
                    try simp only [Act.put, pz1, pz2, pz3]
                    refine tu 16 ?_
                    try simp only [Act.put, pz1, pz2, pz3]
                    refine tu 17 ?_
                    try simp only [Act.put, pz1, pz2, pz3]
                    refine tu 18 ?_
                    try simp only [Act.put, pz1, pz2, pz3]
                    refine tu 19 ?_
                    try simp only [Act.put, pz1, pz2, pz3]
                    refine tu 20 ?_
                    try simp only [Act.put, pz1, pz2, pz3]
                    refine tu 21 ?_
                    try simp only [Act.put, pz1, pz2, pz3]
                    refine tu 22 ?_
                    try simp only [Act.put, pz1, pz2, pz3]
                    refine tu 23 ?_
                    try simp only [Act.put, pz1, pz2, pz3]
                    refine tk 24 ?_; try simp only [Act.put, pz1, pz2, pz3]
                    refine tk 25 ?_; try simp only [Act.put, pz1, pz2, pz3]
                    refine tk 26 ?_; try simp only [Act.put, pz1, pz2, pz3]
                    refine tk 27 ?_; try simp only [Act.put, pz1, pz2, pz3]
                    refine tk 28 ?_; try simp only [Act.put, pz1, pz2, pz3]
                    refine wpAnyH_ready (rs := [29]) (by kernel_rfl) (by simp) ?_
                    refine AllReadyH.cons (o := ⟨some 61, .call { callee := .value (.func 111), args := #[.tmp 60], argTypes := #[9] }, 4, "ref.go:16", #[⟨28, .data⟩, ⟨26, .chain⟩, ⟨26, .guard⟩], some (26, false)⟩) rfl (fun K hK => ?_) AllReadyH.nil
                    go_simp
                    (go_at_call 111; ((with_reducible refine (rmay_any3 b.nm _ _ hbs HNM.out).mono ?_); rintro e' wN ⟨rfl, rfl⟩))
                    go_wp2_with fail
                    refine hK.out _ _ ?_ (fun hNew => ?_)
                    · (first | with_reducible exact QD | with_reducible assumption)
                    clear hK K hHeld
                    have hHeld := hNew
                    clear hNew
                    try simp only [Act.put, pz1, pz2, pz3]
                    refine tk 30 ?_; try simp only [Act.put, pz1, pz2, pz3]
                    refine tk 31 ?_; try simp only [Act.put, pz1, pz2, pz3]
                    refine wpAnyH_done (by kernel_rfl) ?_ _
                    refine NoPanic.normal ?_
                    go_wp2_with fail
                    obtain ⟨wn, hwn⟩ : ∃ V : World, V = wa.drew := ⟨_, rfl⟩
                    have hDn := below_dr wa
                    rw [← hwn] at hDn ⊢
                    have HBn := btr HBa HBa.size hDn
                    have BXn := BX.below hDn BX.lt
                    have Cn := C2.below hDn C2.lt
                    clear hwn hDn QD x0 x1 k0 k3 HBa BX C2
                    have H0 : Hid ((s.bs.take 0).any (fun c => sameS c.nm b.nm) = false) := Lib.hid rfl
                    go_loopw [5] (fun kv wr => ∃ k : Nat, k ≤ i ∧ kv = .int .i64 k ∧ Hid ((s.bs.take k).any (fun c => sameS c.nm b.nm) = false) ∧ Below w.heap.size w wr ∧ Below wn.heap.size wn wr) (fun kv _ => i - (intOf kv).toNat)
                    case atStart => exact ⟨0, by omega, rfl, H0, HBn, Below.refl _ _⟩
                    case round =>
                      clear H0 HBn
                      obtain ⟨k, hk, rfl, HZ, HBq, hbq⟩ := hrel
                      by_cases hlk : k < i
                      · obtain ⟨z, hz⟩ : ∃ z, s.bs[k]? = some z := ⟨_, List.getElem?_eq_getElem (by have := HN.out; omega)⟩
                        have hez : (s.bs.map bkC)[k]? = some (bkC z) := by rw [List.getElem?_map, hz]; rfl
                        have cz : wr.cell? ⟨b1, o1 + k * 2 + 1, none⟩ = some (.string z.nm) := (HBq.cell (p := ⟨b1, _, none⟩) l1).trans (HQ1.out k _ hez 1 _ rfl)
                        have BXq := BXn.below hbq BXn.lt
                        have Cq := Cn.below hbq Cn.lt
                        have x1 := BXq.cell_ 1
                        have k3 := Cq.cell_ 3
                        simp at x1 k3
                        have HZK := Lib.hid hz
                        have n0 : (0 : Int) ≤ (k : Int) := by omega
                        have n1 : (k : Int) < (i : Int) := by omega
                        have n2 : (k : Int) < (n : Int) := by omega
                        have QE : wr.drew.cell? ⟨w.heap.size, 3, none⟩ = some (.slice (some ⟨b1, o1, none⟩) n cb) ∧ wr.drew.cell? ⟨b1, o1 + k * 2 + 1, none⟩ = some (.string z.nm) ∧ wr.drew.cell? ⟨gx, 1, none⟩ = some (.string b.nm) := ⟨drew_cell k3, drew_cell cz, drew_cell x1⟩
                        clear hz hez cz x1 k3
                        go_upto_region 12 with fail
                        rcases (by cases hq : (z.nm.toList == b.nm.toList) <;> simp : (z.nm.toList == b.nm.toList) = true ∨ (z.nm.toList == b.nm.toList) = false) with hp | hp
                        · have HTT : Hid (T = false) := Lib.hid (by rw [← HI.out, HST.out, List.any_eq_true.2 ⟨z, List.mem_take_iff_getElem.2 ⟨k, by have := HN.out; omega, (List.getElem?_eq_some_iff.1 HZK.out).2⟩, (show sameS z.nm b.nm = true from hp)⟩]; simp)
                          refine wp_region_noPanic ?_
                          refine wp_region_held_drew (S := (fun w_ => w_.cell? ⟨w.heap.size, 3, none⟩ = some (.slice (some ⟨b1, o1, none⟩) n cb) ∧ w_.cell? ⟨b1, o1 + k * 2 + 1, none⟩ = some (.string z.nm) ∧ w_.cell? ⟨gx, 1, none⟩ = some (.string b.nm))) (by kernel_rfl) ?_ (fun hHeld => ?_)
                          · (first | with_reducible exact QE | with_reducible assumption)
                          refine tk 0 ?_; try simp only [Act.put, pz1, pz2, pz3]
                          refine tk 1 ?_; try simp only [Act.put, pz1, pz2, pz3]
                          refine tk 2 ?_; try simp only [Act.put, pz1, pz2, pz3]
                          refine tk 3 ?_; try simp only [Act.put, pz1, pz2, pz3]
                          refine tk 4 ?_; try simp only [Act.put, pz1, pz2, pz3]
                          refine tk 5 ?_; try simp only [Act.put, pz1, pz2, pz3]
                          refine tk 6 ?_; try simp only [Act.put, pz1, pz2, pz3]
                          refine tk 7 ?_; try simp only [Act.put, pz1, pz2, pz3]
                          refine tk 8 ?_; try simp only [Act.put, pz1, pz2, pz3]
                          refine wpAnyH_done (by kernel_rfl) ?_ _
                          refine NoPanic.normal ?_
                          go_wp2_with fail
                          go_ret
                          exact ⟨by rw [HTT.out]; rfl, (by first | exact HBq | exact drew_below HBq)⟩
                        · have HZX : Hid ((fun c : Bk => sameS c.nm b.nm) z = false) := Lib.hid hp
                          refine wp_region_noPanic ?_
                          refine wp_region_held_drew (S := (fun w_ => w_.cell? ⟨w.heap.size, 3, none⟩ = some (.slice (some ⟨b1, o1, none⟩) n cb) ∧ w_.cell? ⟨b1, o1 + k * 2 + 1, none⟩ = some (.string z.nm) ∧ w_.cell? ⟨gx, 1, none⟩ = some (.string b.nm))) (by kernel_rfl) ?_ (fun hHeld => ?_)
                          · (first | with_reducible exact QE | with_reducible assumption)
                          refine tk 0 ?_; try simp only [Act.put, pz1, pz2, pz3]
                          refine tk 1 ?_; try simp only [Act.put, pz1, pz2, pz3]
                          refine tk 2 ?_; try simp only [Act.put, pz1, pz2, pz3]
                          refine tk 3 ?_; try simp only [Act.put, pz1, pz2, pz3]
                          refine tk 4 ?_; try simp only [Act.put, pz1, pz2, pz3]
                          refine tk 5 ?_; try simp only [Act.put, pz1, pz2, pz3]
                          refine tk 6 ?_; try simp only [Act.put, pz1, pz2, pz3]
                          refine tk 7 ?_; try simp only [Act.put, pz1, pz2, pz3]
                          refine tk 8 ?_; try simp only [Act.put, pz1, pz2, pz3]
                          refine wpAnyH_done (by kernel_rfl) ?_ _
                          refine NoPanic.normal ?_
                          go_wp2_with fail
                          go_roundw
                          case rel => exact ⟨k + 1, by omega, by go_num, Lib.hid (any_next HZ.out HZK.out HZX.out), (by first | exact HBq | exact drew_below HBq), (by first | exact hbq | exact drew_below hbq)⟩
                          case measure => simp [intOf]; omega
                      · have hki : k = i := by omega
                        subst hki
                        have HNX : Hid (bkOk s (s.bs.take (k + 1)) (s.bs.drop (k + 1)) = T) := Lib.hid (by rw [← HI.out, HST.out, HN2.out, HZ.out, HPO.out, decide_eq_true (by omega : 1 ≤ b.id), decide_eq_true (by omega : b.id < s.nb)]; rfl)
                        have Cq := Cn.below hbq Cn.lt
                        go_wp2_with fail
                        go_roundw
                        case rel => exact ⟨k + 1, by omega, by go_num, HNX, HBq, Cq⟩
                        case measure => simp [intOf]; omega
                · obtain ⟨j, hj⟩ : ∃ j, i = j + 1 := ⟨i - 1, by omega⟩
                  obtain ⟨p, hp0⟩ : ∃ p, s.bs[j]? = some p := ⟨_, List.getElem?_eq_getElem (by have := HN.out; omega)⟩
                  have hep : (s.bs.map bkC)[j]? = some (bkC p) := by rw [List.getElem?_map, hp0]; rfl
                  have yp0 := HQ1.out j _ hep 0 _ rfl
                  simp only [Nat.add_zero] at yp0
                  have yp := (HBa.cell (p := ⟨b1, _, none⟩) l1).trans yp0
                  have HPO : Hid (prevOk (s.bs.take i) b = decide (p.id < b.id)) := Lib.hid (by rw [hj]; exact prevOk_at hp0)
                  have j00 : (0 : Int) ≤ (j : Int) := by omega
                  have j01 : (j : Int) < (n : Int) := by omega
                  have jsub : (i : Int) - 1 = (j : Int) := by omega
                  have jwr : IntKind.i64.wrap (j : Int) = (j : Int) := wrapS _ (by omega) (by omega)
                  have QD : wa.drew.cell? ⟨gx, 0, none⟩ = some (.int .i64 b.id) ∧ wa.drew.cell? ⟨gx, 1, none⟩ = some (.string b.nm) ∧ wa.drew.cell? ⟨w.heap.size, 0, none⟩ = some (.int .i64 s.nb) ∧ wa.drew.cell? ⟨w.heap.size, 3, none⟩ = some (.slice (some ⟨b1, o1, none⟩) n cb) ∧ wa.drew.cell? ⟨b1, o1 + j * 2, none⟩ = some (.int .i64 p.id) := ⟨drew_cell x0, drew_cell x1, drew_cell k0, drew_cell k3, drew_cell yp⟩
                  clear hj hp0 hep yp0 yp
                  by_cases d3 : b.id ≤ p.id
                  · have HTT : Hid (T = false) := Lib.hid (by rw [← HI.out, HST.out, HPO.out, decide_eq_false (by omega : ¬ p.id < b.id)]; simp)
                    refine wp_region_noPanic ?_
                    refine wp_region_held_drew (S := (fun w_ => w_.cell? ⟨gx, 0, none⟩ = some (.int .i64 b.id) ∧ w_.cell? ⟨gx, 1, none⟩ = some (.string b.nm) ∧ w_.cell? ⟨w.heap.size, 0, none⟩ = some (.int .i64 s.nb) ∧ w_.cell? ⟨w.heap.size, 3, none⟩ = some (.slice (some ⟨b1, o1, none⟩) n cb) ∧ w_.cell? ⟨b1, o1 + j * 2, none⟩ = some (.int .i64 p.id))) (by kernel_rfl) ?_ (fun hHeld => ?_)
                    · (first | with_reducible exact QD | with_reducible assumption)
                    refine tk 0 ?_; try simp only [Act.put, pz1, pz2, pz3]
                    refine tk 1 ?_; try simp only [Act.put, pz1, pz2, pz3]
                    refine tk 2 ?_; try simp only [Act.put, pz1, pz2, pz3]
                    refine tk 3 ?_; try simp only [Act.put, pz1, pz2, pz3]
                    refine tk 4 ?_; try simp only [Act.put, pz1, pz2, pz3]
                    refine tk 5 ?_; try simp only [Act.put, pz1, pz2, pz3]
                    refine tk 6 ?_; try simp only [Act.put, pz1, pz2, pz3]
                    refine tk 7 ?_; try simp only [Act.put, pz1, pz2, pz3]
                    refine tk 8 ?_; try simp only [Act.put, pz1, pz2, pz3]
                    refine tk 9 ?_; try simp only [Act.put, pz1, pz2, pz3]
                    refine tk 10 ?_; try simp only [Act.put, pz1, pz2, pz3]
                    refine tk 11 ?_; try simp only [Act.put, pz1, pz2, pz3]
                    refine tk 12 ?_; try simp only [Act.put, pz1, pz2, pz3]
                    refine tk 13 ?_; try simp only [Act.put, pz1, pz2, pz3]
                    refine tk 14 ?_; try simp only [Act.put, pz1, pz2, pz3]
                    refine tk 15 ?_; try simp only [Act.put, pz1, pz2, pz3]
                    refine tk 16 ?_; try simp only [Act.put, pz1, pz2, pz3]
                    refine tk 17 ?_; try simp only [Act.put, pz1, pz2, pz3]
                    refine tk 18 ?_; try simp only [Act.put, pz1, pz2, pz3]
                    refine tk 19 ?_; try simp only [Act.put, pz1, pz2, pz3]
                    refine tk 20 ?_; try simp only [Act.put, pz1, pz2, pz3]
                    refine tk 21 ?_; try simp only [Act.put, pz1, pz2, pz3]
                    refine tk 22 ?_; try simp only [Act.put, pz1, pz2, pz3]
                    refine tk 23 ?_; try simp only [Act.put, pz1, pz2, pz3]
                    refine tk 24 ?_; try simp only [Act.put, pz1, pz2, pz3]
                    refine tk 25 ?_; try simp only [Act.put, pz1, pz2, pz3]
                    refine tk 26 ?_; try simp only [Act.put, pz1, pz2, pz3]
                    refine tu 27 ?_
                    try simp only [Act.put, pz1, pz2, pz3]
                    refine tu 28 ?_
                    try simp only [Act.put, pz1, pz2, pz3]
                    refine tu 29 ?_
                    try simp only [Act.put, pz1, pz2, pz3]
                    refine tu 30 ?_
                    try simp only [Act.put, pz1, pz2, pz3]
                    refine tk 31 ?_; try simp only [Act.put, pz1, pz2, pz3]
                    refine wpAnyH_done (by kernel_rfl) ?_ _
                    refine NoPanic.normal ?_
                    go_wp2_with fail
                    go_ret
                    exact ⟨by rw [HTT.out]; rfl, (by first | exact HBa | exact drew_below HBa)⟩
                  · have HPT : Hid (prevOk (s.bs.take i) b = true) := Lib.hid (by rw [HPO.out]; exact decide_eq_true (by omega))
                    clear HPO
                    have HPO := HPT
                    cases N
                    · have HTT : Hid (T = false) := Lib.hid (by rw [← HI.out, HST.out, HN2.out]; simp)
                      refine wp_region_noPanic ?_
                      refine wp_region_held_drew (S := (fun w_ => w_.cell? ⟨gx, 0, none⟩ = some (.int .i64 b.id) ∧ w_.cell? ⟨gx, 1, none⟩ = some (.string b.nm) ∧ w_.cell? ⟨w.heap.size, 0, none⟩ = some (.int .i64 s.nb) ∧ w_.cell? ⟨w.heap.size, 3, none⟩ = some (.slice (some ⟨b1, o1, none⟩) n cb) ∧ w_.cell? ⟨b1, o1 + j * 2, none⟩ = some (.int .i64 p.id))) (by kernel_rfl) ?_ (fun hHeld => ?_)
                      · (first | with_reducible exact QD | with_reducible assumption)
                      refine tk 0 ?_; try simp only [Act.put, pz1, pz2, pz3]
                      refine tk 1 ?_; try simp only [Act.put, pz1, pz2, pz3]
                      refine tk 2 ?_; try simp only [Act.put, pz1, pz2, pz3]
                      refine tk 3 ?_; try simp only [Act.put, pz1, pz2, pz3]
                      refine tk 4 ?_; try simp only [Act.put, pz1, pz2, pz3]
                      refine tk 5 ?_; try simp only [Act.put, pz1, pz2, pz3]
                      refine tk 6 ?_; try simp only [Act.put, pz1, pz2, pz3]
                      refine tk 7 ?_; try simp only [Act.put, pz1, pz2, pz3]
                      refine tk 8 ?_; try simp only [Act.put, pz1, pz2, pz3]
                      refine tk 9 ?_; try simp only [Act.put, pz1, pz2, pz3]
                      refine tk 10 ?_; try simp only [Act.put, pz1, pz2, pz3]
                      refine tk 11 ?_; try simp only [Act.put, pz1, pz2, pz3]
                      refine tk 12 ?_; try simp only [Act.put, pz1, pz2, pz3]
                      refine tk 13 ?_; try simp only [Act.put, pz1, pz2, pz3]
                      refine tk 14 ?_; try simp only [Act.put, pz1, pz2, pz3]
                      refine tk 15 ?_; try simp only [Act.put, pz1, pz2, pz3]
                      refine tk 16 ?_; try simp only [Act.put, pz1, pz2, pz3]
                      refine tk 17 ?_; try simp only [Act.put, pz1, pz2, pz3]
                      refine tk 18 ?_; try simp only [Act.put, pz1, pz2, pz3]
                      refine tk 19 ?_; try simp only [Act.put, pz1, pz2, pz3]
                      refine tk 20 ?_; try simp only [Act.put, pz1, pz2, pz3]
                      refine tk 21 ?_; try simp only [Act.put, pz1, pz2, pz3]
                      refine tk 22 ?_; try simp only [Act.put, pz1, pz2, pz3]
                      refine tk 23 ?_; try simp only [Act.put, pz1, pz2, pz3]
                      refine tk 24 ?_; try simp only [Act.put, pz1, pz2, pz3]
                      refine tk 25 ?_; try simp only [Act.put, pz1, pz2, pz3]
                      refine tk 26 ?_; try simp only [Act.put, pz1, pz2, pz3]
                      refine tk 27 ?_; try simp only [Act.put, pz1, pz2, pz3]
                      refine tk 28 ?_; try simp only [Act.put, pz1, pz2, pz3]
                      refine wpAnyH_ready (rs := [29]) (by kernel_rfl) (by simp) ?_
                      refine AllReadyH.cons (o := ⟨some 61, .call { callee := .value (.func 111), args := #[.tmp 60], argTypes := #[9] }, 4, "ref.go:16", #[⟨28, .data⟩, ⟨26, .chain⟩, ⟨26, .guard⟩], some (26, false)⟩) rfl (fun K hK => ?_) AllReadyH.nil
                      go_simp
                      (go_at_call 111; ((with_reducible refine (rmay_any3 b.nm _ _ hbs HNM.out).mono ?_); rintro e' wN ⟨rfl, rfl⟩))
                      go_wp2_with fail
                      refine hK.out _ _ ?_ (fun hNew => ?_)
                      · (first | with_reducible exact QD | with_reducible assumption)
                      clear hK K hHeld
                      have hHeld := hNew
                      clear hNew
                      try simp only [Act.put, pz1, pz2, pz3]
                      refine tk 30 ?_; try simp only [Act.put, pz1, pz2, pz3]
                      refine tk 31 ?_; try simp only [Act.put, pz1, pz2, pz3]
                      refine wpAnyH_done (by kernel_rfl) ?_ _
                      refine NoPanic.normal ?_
                      go_wp2_with fail
                      go_ret
                      exact ⟨by rw [HTT.out]; rfl, (by first | exact HBa | exact drew_below HBa)⟩
                    · skip
                      refine wp_region_noPanic ?_
                      refine wp_region_held_drew (S := (fun w_ => w_.cell? ⟨gx, 0, none⟩ = some (.int .i64 b.id) ∧ w_.cell? ⟨gx, 1, none⟩ = some (.string b.nm) ∧ w_.cell? ⟨w.heap.size, 0, none⟩ = some (.int .i64 s.nb) ∧ w_.cell? ⟨w.heap.size, 3, none⟩ = some (.slice (some ⟨b1, o1, none⟩) n cb) ∧ w_.cell? ⟨b1, o1 + j * 2, none⟩ = some (.int .i64 p.id))) (by kernel_rfl) ?_ (fun hHeld => ?_)
                      · (first | with_reducible exact QD | with_reducible assumption)
                      refine tk 0 ?_; try simp only [Act.put, pz1, pz2, pz3]
                      refine tk 1 ?_; try simp only [Act.put, pz1, pz2, pz3]
                      refine tk 2 ?_; try simp only [Act.put, pz1, pz2, pz3]
                      refine tk 3 ?_; try simp only [Act.put, pz1, pz2, pz3]
                      refine tk 4 ?_; try simp only [Act.put, pz1, pz2, pz3]
                      refine tk 5 ?_; try simp only [Act.put, pz1, pz2, pz3]
                      refine tk 6 ?_; try simp only [Act.put, pz1, pz2, pz3]
                      refine tk 7 ?_; try simp only [Act.put, pz1, pz2, pz3]
                      refine tk 8 ?_; try simp only [Act.put, pz1, pz2, pz3]
                      refine tk 9 ?_; try simp only [Act.put, pz1, pz2, pz3]
                      refine tk 10 ?_; try simp only [Act.put, pz1, pz2, pz3]
                      refine tk 11 ?_; try simp only [Act.put, pz1, pz2, pz3]
                      refine tk 12 ?_; try simp only [Act.put, pz1, pz2, pz3]
                      refine tk 13 ?_; try simp only [Act.put, pz1, pz2, pz3]
                      refine tk 14 ?_; try simp only [Act.put, pz1, pz2, pz3]
                      refine tk 15 ?_; try simp only [Act.put, pz1, pz2, pz3]
                      refine tk 16 ?_; try simp only [Act.put, pz1, pz2, pz3]
                      refine tk 17 ?_; try simp only [Act.put, pz1, pz2, pz3]
                      refine tk 18 ?_; try simp only [Act.put, pz1, pz2, pz3]
                      refine tk 19 ?_; try simp only [Act.put, pz1, pz2, pz3]
                      refine tk 20 ?_; try simp only [Act.put, pz1, pz2, pz3]
                      refine tk 21 ?_; try simp only [Act.put, pz1, pz2, pz3]
                      refine tk 22 ?_; try simp only [Act.put, pz1, pz2, pz3]
                      refine tk 23 ?_; try simp only [Act.put, pz1, pz2, pz3]
                      refine tk 24 ?_; try simp only [Act.put, pz1, pz2, pz3]
                      refine tk 25 ?_; try simp only [Act.put, pz1, pz2, pz3]
                      refine tk 26 ?_; try simp only [Act.put, pz1, pz2, pz3]
                      refine tk 27 ?_; try simp only [Act.put, pz1, pz2, pz3]
                      refine tk 28 ?_; try simp only [Act.put, pz1, pz2, pz3]
                      refine wpAnyH_ready (rs := [29]) (by kernel_rfl) (by simp) ?_
                      refine AllReadyH.cons (o := ⟨some 61, .call { callee := .value (.func 111), args := #[.tmp 60], argTypes := #[9] }, 4, "ref.go:16", #[⟨28, .data⟩, ⟨26, .chain⟩, ⟨26, .guard⟩], some (26, false)⟩) rfl (fun K hK => ?_) AllReadyH.nil
                      go_simp
                      (go_at_call 111; ((with_reducible refine (rmay_any3 b.nm _ _ hbs HNM.out).mono ?_); rintro e' wN ⟨rfl, rfl⟩))
                      go_wp2_with fail
                      refine hK.out _ _ ?_ (fun hNew => ?_)
                      · (first | with_reducible exact QD | with_reducible assumption)
                      clear hK K hHeld
                      have hHeld := hNew
                      clear hNew
                      try simp only [Act.put, pz1, pz2, pz3]
                      refine tk 30 ?_; try simp only [Act.put, pz1, pz2, pz3]
                      refine tk 31 ?_; try simp only [Act.put, pz1, pz2, pz3]
                      refine wpAnyH_done (by kernel_rfl) ?_ _
                      refine NoPanic.normal ?_
                      go_wp2_with fail
                      obtain ⟨wn, hwn⟩ : ∃ V : World, V = wa.drew := ⟨_, rfl⟩
                      have hDn := below_dr wa
                      rw [← hwn] at hDn ⊢
                      have HBn := btr HBa HBa.size hDn
                      have BXn := BX.below hDn BX.lt
                      have Cn := C2.below hDn C2.lt
                      clear hwn hDn QD x0 x1 k0 k3 HBa BX C2
                      have H0 : Hid ((s.bs.take 0).any (fun c => sameS c.nm b.nm) = false) := Lib.hid rfl
                      go_loopw [5] (fun kv wr => ∃ k : Nat, k ≤ i ∧ kv = .int .i64 k ∧ Hid ((s.bs.take k).any (fun c => sameS c.nm b.nm) = false) ∧ Below w.heap.size w wr ∧ Below wn.heap.size wn wr) (fun kv _ => i - (intOf kv).toNat)
                      case atStart => exact ⟨0, by omega, rfl, H0, HBn, Below.refl _ _⟩
                      case round =>
                        clear H0 HBn
                        obtain ⟨k, hk, rfl, HZ, HBq, hbq⟩ := hrel
                        by_cases hlk : k < i
                        · obtain ⟨z, hz⟩ : ∃ z, s.bs[k]? = some z := ⟨_, List.getElem?_eq_getElem (by have := HN.out; omega)⟩
                          have hez : (s.bs.map bkC)[k]? = some (bkC z) := by rw [List.getElem?_map, hz]; rfl
                          have cz : wr.cell? ⟨b1, o1 + k * 2 + 1, none⟩ = some (.string z.nm) := (HBq.cell (p := ⟨b1, _, none⟩) l1).trans (HQ1.out k _ hez 1 _ rfl)
                          have BXq := BXn.below hbq BXn.lt
                          have Cq := Cn.below hbq Cn.lt
                          have x1 := BXq.cell_ 1
                          have k3 := Cq.cell_ 3
                          simp at x1 k3
                          have HZK := Lib.hid hz
                          have n0 : (0 : Int) ≤ (k : Int) := by omega
                          have n1 : (k : Int) < (i : Int) := by omega
                          have n2 : (k : Int) < (n : Int) := by omega
                          have QE : wr.drew.cell? ⟨w.heap.size, 3, none⟩ = some (.slice (some ⟨b1, o1, none⟩) n cb) ∧ wr.drew.cell? ⟨b1, o1 + k * 2 + 1, none⟩ = some (.string z.nm) ∧ wr.drew.cell? ⟨gx, 1, none⟩ = some (.string b.nm) := ⟨drew_cell k3, drew_cell cz, drew_cell x1⟩
                          clear hz hez cz x1 k3
                          go_upto_region 12 with fail
                          rcases (by cases hq : (z.nm.toList == b.nm.toList) <;> simp : (z.nm.toList == b.nm.toList) = true ∨ (z.nm.toList == b.nm.toList) = false) with hp | hp
                          · have HTT : Hid (T = false) := Lib.hid (by rw [← HI.out, HST.out, List.any_eq_true.2 ⟨z, List.mem_take_iff_getElem.2 ⟨k, by have := HN.out; omega, (List.getElem?_eq_some_iff.1 HZK.out).2⟩, (show sameS z.nm b.nm = true from hp)⟩]; simp)
                            refine wp_region_noPanic ?_
                            refine wp_region_held_drew (S := (fun w_ => w_.cell? ⟨w.heap.size, 3, none⟩ = some (.slice (some ⟨b1, o1, none⟩) n cb) ∧ w_.cell? ⟨b1, o1 + k * 2 + 1, none⟩ = some (.string z.nm) ∧ w_.cell? ⟨gx, 1, none⟩ = some (.string b.nm))) (by kernel_rfl) ?_ (fun hHeld => ?_)
                            · (first | with_reducible exact QE | with_reducible assumption)
                            refine tk 0 ?_; try simp only [Act.put, pz1, pz2, pz3]
                            refine tk 1 ?_; try simp only [Act.put, pz1, pz2, pz3]
                            refine tk 2 ?_; try simp only [Act.put, pz1, pz2, pz3]
                            refine tk 3 ?_; try simp only [Act.put, pz1, pz2, pz3]
                            refine tk 4 ?_; try simp only [Act.put, pz1, pz2, pz3]
                            refine tk 5 ?_; try simp only [Act.put, pz1, pz2, pz3]
                            refine tk 6 ?_; try simp only [Act.put, pz1, pz2, pz3]
                            refine tk 7 ?_; try simp only [Act.put, pz1, pz2, pz3]
                            refine tk 8 ?_; try simp only [Act.put, pz1, pz2, pz3]
                            refine wpAnyH_done (by kernel_rfl) ?_ _
                            refine NoPanic.normal ?_
                            go_wp2_with fail
                            go_ret
                            exact ⟨by rw [HTT.out]; rfl, (by first | exact HBq | exact drew_below HBq)⟩
                          · have HZX : Hid ((fun c : Bk => sameS c.nm b.nm) z = false) := Lib.hid hp
                            refine wp_region_noPanic ?_
                            refine wp_region_held_drew (S := (fun w_ => w_.cell? ⟨w.heap.size, 3, none⟩ = some (.slice (some ⟨b1, o1, none⟩) n cb) ∧ w_.cell? ⟨b1, o1 + k * 2 + 1, none⟩ = some (.string z.nm) ∧ w_.cell? ⟨gx, 1, none⟩ = some (.string b.nm))) (by kernel_rfl) ?_ (fun hHeld => ?_)
                            · (first | with_reducible exact QE | with_reducible assumption)
                            refine tk 0 ?_; try simp only [Act.put, pz1, pz2, pz3]
                            refine tk 1 ?_; try simp only [Act.put, pz1, pz2, pz3]
                            refine tk 2 ?_; try simp only [Act.put, pz1, pz2, pz3]
                            refine tk 3 ?_; try simp only [Act.put, pz1, pz2, pz3]
                            refine tk 4 ?_; try simp only [Act.put, pz1, pz2, pz3]
                            refine tk 5 ?_; try simp only [Act.put, pz1, pz2, pz3]
                            refine tk 6 ?_; try simp only [Act.put, pz1, pz2, pz3]
                            refine tk 7 ?_; try simp only [Act.put, pz1, pz2, pz3]
                            refine tk 8 ?_; try simp only [Act.put, pz1, pz2, pz3]
                            refine wpAnyH_done (by kernel_rfl) ?_ _
                            refine NoPanic.normal ?_
                            go_wp2_with fail
                            go_roundw
                            case rel => exact ⟨k + 1, by omega, by go_num, Lib.hid (any_next HZ.out HZK.out HZX.out), (by first | exact HBq | exact drew_below HBq), (by first | exact hbq | exact drew_below hbq)⟩
                            case measure => simp [intOf]; omega
                        · have hki : k = i := by omega
                          subst hki
                          have HNX : Hid (bkOk s (s.bs.take (k + 1)) (s.bs.drop (k + 1)) = T) := Lib.hid (by rw [← HI.out, HST.out, HN2.out, HZ.out, HPO.out, decide_eq_true (by omega : 1 ≤ b.id), decide_eq_true (by omega : b.id < s.nb)]; rfl)
                          have Cq := Cn.below hbq Cn.lt
                          go_wp2_with fail
                          go_roundw
                          case rel => exact ⟨k + 1, by omega, by go_num, HNX, HBq, Cq⟩
                          case measure => simp [intOf]; omega
          · have hjn : i = n := by omega
            subst hjn
            have HTT : Hid (T = true) := Lib.hid (by have := HI.out; rw [← HN.out, bk_end] at this; exact this.symm)
            go_wp2_with fail
            go_ret
            exact ⟨by rw [HTT.out]; rfl, HBr⟩
end Go.Proofs.YteokeghenjobaaaGreatDoor
namespace Go.Proofs.YteokeghenjobaaaGreatDoor
open Go.ChangeShapes Go.WideShapes Go.ChangeAt Go.RowKit
attribute [local go_sem ↓] Go.wp_at_zero Go.wp_at_succ
def z5 (w : World) (g : Nat) : World := st5 w g 0 (.int .i64 0) (.int .i64 0) (.int .i64 0) (.slice none 0 0) (.slice none 0 0)
def renC (s : Sf) (y : Int) (x : ByteArray) : Int := cond (mayS s) (cond (decide (bookAt s y < 0)) 4 (cond (mayN x) (cond (bookTk s x y) 7 0) 6)) 2
def renS (s : Sf) (y : Int) (x : ByteArray) : Sf := { s with bs := s.bs.set (bookAt s y).toNat ⟨y, x⟩ }
def nameAt (s : Sf) (y : Int) : ByteArray := match s.ts[(noteAt s y).toNat]? with
  | some n => n.nm
  | none => ByteArray.empty
def movC (s : Sf) (y z : Int) : Int := cond (mayS s) (cond (decide (noteAt s y < 0) || decide (bookAt s z < 0)) 4 (cond (noteTk s z (nameAt s y) y) 7 0)) 2
def movS (s : Sf) (y z : Int) : Sf := match s.ts[(noteAt s y).toNat]? with
  | some n => { s with ts := s.ts.set (noteAt s y).toNat { n with bk := z } }
  | none => s
end Go.Proofs.YteokeghenjobaaaGreatDoor
namespace Go.Proofs.YteokeghenjobaaaGreatDoor
open Go.ChangeShapes Go.WideShapes Go.ChangeAt Go.RowKit
attribute [local go_sem ↓] Go.wp_at_zero Go.wp_at_succ
structure MkF (s : Sf) (x : ByteArray) : Prop where
  may : MayF s
  nm : mayN x = true
  tk : bookTk s x 0 = false
  bl : s.bs.length < 6
  nb : s.nb < 65536
theorem tkB_iff {s : Sf} {x : ByteArray} {y : Int} : bookTk s x y = false ↔ ∀ b ∈ s.bs, b.nm.toList = x.toList → b.id = y := by
  unfold bookTk
  rw [List.any_eq_false]
  constructor
  · intro h b hb he
    have := h b hb
    simpa [sameS, he] using this
  · intro h b hb
    simp only [sameS, Bool.and_eq_true, beq_iff_eq, bne_iff_ne, ne_eq, not_and, Decidable.not_not]
    exact h b hb
theorem tkN_iff {s : Sf} {z : Int} {x : ByteArray} {y : Int} : noteTk s z x y = false ↔ ∀ n ∈ s.ts, n.bk = z → n.nm.toList = x.toList → n.id = y := by
  unfold noteTk
  rw [List.any_eq_false]
  constructor
  · intro h n hn hb he
    have := h n hn
    simpa [sameS, he, hb] using this
  · intro h n hn
    simp only [sameS, Bool.and_eq_true, beq_iff_eq, bne_iff_ne, ne_eq, not_and, Decidable.not_not]
    exact h n hn
theorem mayNt_iff {s : Sf} {n : Nt} : mayNt s n = true ↔ mayN n.nm = true ∧ (∃ b ∈ s.bs, b.id = n.bk) ∧ noteTk s n.bk n.nm n.id = false ∧ mayTg n.tg = true := by
  unfold mayNt
  simp only [Bool.and_eq_true, Bool.not_eq_true', decide_eq_true_eq]
  rw [book_is]
theorem MkF.may2 {s : Sf} {x : ByteArray} (h : MkF s x) : MayF (makeS s x) := by
  have hF := h.may
  have hnb := hF.nb
  have hone : ∀ b ∈ s.bs, 0 < b.id ∧ b.id ≤ s.nb - 1 := fun b hb => ⟨(hF.bs b hb).1, (hF.bs b hb).2.1⟩
  have hno : ∀ b ∈ s.bs, b.nm.toList ≠ x.toList := fun b hb he => by
    have h1 := tkB_iff.1 h.tk b hb he
    have h2 := hone b hb
    omega
  have hlt := h.nb
  refine ⟨⟨by show 1 ≤ s.nb + 1; omega, by show s.nb + 1 ≤ 65536; omega⟩, hF.nn, hF.ns, by show (s.bs ++ [_]).length ≤ 6; rw [List.length_append]; have := h.bl; simp; omega, hF.tl, fun b hb => ?_, ?_, fun n hn => ⟨(hF.ts n hn).1, (hF.ts n hn).2.1, ?_⟩, hF.tord, hF.sh⟩
  · have hb' : b ∈ s.bs ++ [⟨s.nb, x⟩] := hb
    have htk : bookTk (makeS s x) b.nm b.id = false := by
      rw [tkB_iff]
      intro c hc he
      have hc' : c ∈ s.bs ++ [⟨s.nb, x⟩] := hc
      rcases List.mem_append.1 hb' with hb1 | hb1 <;> rcases List.mem_append.1 hc' with hc1 | hc1
      · exact hF.names hc1 hb1 he
      · rw [List.mem_singleton] at hc1
        subst hc1
        exact absurd he.symm (hno b hb1)
      · rw [List.mem_singleton] at hb1
        subst hb1
        exact absurd he (hno c hc1)
      · rw [List.mem_singleton] at hb1 hc1
        rw [hb1, hc1]
    rcases List.mem_append.1 hb' with hb1 | hb1
    · have h2 := hF.bs b hb1
      exact ⟨h2.1, by show b.id ≤ s.nb + 1 - 1; omega, h2.2.2.1, htk⟩
    · rw [List.mem_singleton] at hb1
      subst hb1
      exact ⟨by show 0 < s.nb; omega, by show s.nb ≤ s.nb + 1 - 1; omega, h.nm, htk⟩
  · show (s.bs ++ [(⟨s.nb, x⟩ : Bk)]).Pairwise _
    rw [List.pairwise_append]
    refine ⟨hF.bo, List.pairwise_singleton _ _, fun a ha b hb => ?_⟩
    rw [List.mem_singleton] at hb
    subst hb
    have := hone a ha
    show a.id < s.nb
    omega
  · obtain ⟨q1, ⟨b, hb, hbe⟩, q3, q4⟩ := mayNt_iff.1 (hF.ts n hn).2.2
    exact mayNt_iff.2 ⟨q1, ⟨b, List.mem_append_left _ hb, hbe⟩, q3, q4⟩
theorem MkF.drop {s : Sf} {x : ByteArray} (h : MkF s x) : dropC (makeS s x) s.nb = 0 ∧ { dropS (makeS s x) s.nb with nb := s.nb } = s := by
  have hF := h.may
  have h0 : 0 ≤ bookAt (makeS s x) s.nb := (book_is _).2 ⟨⟨s.nb, x⟩, List.mem_append_right _ (by simp), rfl⟩
  constructor
  · unfold dropC
    rw [mayS_conv h.may2, decide_eq_false (by omega)]
    rfl
  · have e1 : (s.bs ++ [(⟨s.nb, x⟩ : Bk)]).filter (fun b => !(b.id == s.nb)) = s.bs := by
      rw [List.filter_append]
      have : s.bs.filter (fun b => !(b.id == s.nb)) = s.bs := by
        rw [List.filter_eq_self]
        intro b hb
        have := (hF.bs b hb).2.1
        have hne : b.id ≠ s.nb := by omega
        simp [hne]
      rw [this]
      simp
    have e2 : s.ts.filter (fun n => !(n.bk == s.nb)) = s.ts := by
      rw [List.filter_eq_self]
      intro n hn
      obtain ⟨b, hb, he⟩ := (mayNt_iff.1 (hF.ts n hn).2.2).2.1
      have := (hF.bs b hb).2.1
      have hne : n.bk ≠ s.nb := by omega
      simp [hne]
    show (⟨s.nb, s.nn, s.ns, (s.bs ++ [(⟨s.nb, x⟩ : Bk)]).filter (fun b => !(b.id == s.nb)), s.ts.filter (fun n => !(n.bk == s.nb))⟩ : Sf) = s
    rw [e1, e2]
theorem renS_at {s : Sf} {y : Int} {x : ByteArray} {k : Nat} (h : bookAt s y = (k : Int)) : renS s y x = { s with bs := s.bs.set k ⟨y, x⟩ } := by
  unfold renS
  rw [h]
  rfl
theorem movS_at {s : Sf} {y z : Int} {k : Nat} {n : Nt} (h : noteAt s y = (k : Int)) (hn : s.ts[k]? = some n) : movS s y z = { s with ts := s.ts.set k { n with bk := z } } := by
  unfold movS
  rw [h]
  simp [hn]
structure RnF (s : Sf) (y : Int) (x : ByteArray) (k : Nat) (b : Bk) : Prop where
  may : MayF s
  at_ : bookAt s y = (k : Int)
  bk : s.bs[k]? = some b
  id : b.id = y
  nm : mayN x = true
  tk : bookTk s x y = false
theorem RnF.eq {s : Sf} {y : Int} {x : ByteArray} {k : Nat} {b : Bk} (h : RnF s y x k b) : renS s y x = { s with bs := s.bs.set k ⟨y, x⟩ } := by
  unfold renS
  rw [h.at_]
  rfl
theorem set_mem {α : Type} {l : List α} {k : Nat} {a c : α} (h : c ∈ l.set k a) : c = a ∨ ∃ j, j ≠ k ∧ l[j]? = some c := by
  obtain ⟨j, hj, he⟩ := List.mem_iff_getElem.1 h
  have h1 := List.getElem?_eq_getElem hj
  rw [he, List.getElem?_set] at h1
  split at h1
  · rename_i hjk
    left
    split at h1
    · exact (Option.some.inj h1).symm
    · cases h1
  · rename_i hjk
    exact Or.inr ⟨j, fun e => hjk e.symm, h1⟩
theorem set_ids {l : List Bk} {k : Nat} {b : Bk} {x : ByteArray} (hb : l[k]? = some b) : (l.set k ⟨b.id, x⟩).map Bk.id = l.map Bk.id := by
  rw [List.map_set]
  apply List.ext_getElem?
  intro j
  rw [List.getElem?_set, List.getElem?_map]
  split
  · rename_i h
    subst h
    rw [hb]
    have := (List.getElem?_eq_some_iff.1 hb).1
    simp [this]
  · rfl
theorem RnF.may2 {s : Sf} {y : Int} {x : ByteArray} {k : Nat} {b : Bk} (h : RnF s y x k b) : MayF (renS s y x) := by
  have hF := h.may
  rw [h.eq]
  have hbm := List.mem_of_getElem? h.bk
  have hids := set_ids (x := x) h.bk
  rw [h.id] at hids
  have hmem : ∀ c ∈ s.bs.set k ⟨y, x⟩, (c = ⟨y, x⟩) ∨ (c ∈ s.bs ∧ c.id ≠ y) := by
    intro c hc
    rcases set_mem hc with h1 | ⟨j, hj, he⟩
    · exact Or.inl h1
    · refine Or.inr ⟨List.mem_of_getElem? he, fun e => hj ?_⟩
      have hcb := hF.bidinj (List.mem_of_getElem? he) hbm (e.trans h.id.symm)
      obtain ⟨h1, e1⟩ := List.getElem?_eq_some_iff.1 he
      obtain ⟨h2, e2⟩ := List.getElem?_eq_some_iff.1 h.bk
      rcases Nat.lt_trichotomy j k with hlt | rfl | hlt
      · have := List.pairwise_iff_getElem.1 hF.bo j k h1 h2 hlt
        rw [e1, e2, hcb] at this
        omega
      · rfl
      · have := List.pairwise_iff_getElem.1 hF.bo k j h2 h1 hlt
        rw [e1, e2, hcb] at this
        omega
  refine ⟨hF.nb, hF.nn, hF.ns, by show (s.bs.set k _).length ≤ 6; rw [List.length_set]; exact hF.bl, hF.tl, fun c hc => ?_, ?_, fun n hn => ⟨(hF.ts n hn).1, (hF.ts n hn).2.1, ?_⟩, hF.tord, hF.sh⟩
  · have hc0 : c ∈ s.bs.set k ⟨y, x⟩ := hc
    have htk : bookTk { s with bs := s.bs.set k ⟨y, x⟩ } c.nm c.id = false := by
      rw [tkB_iff]
      intro d hd he
      rcases hmem d hd with rfl | ⟨hd1, hd2⟩ <;> rcases hmem c hc0 with rfl | ⟨hc1, hc2⟩
      · rfl
      · exact absurd (tkB_iff.1 h.tk c hc1 he.symm) hc2
      · exact absurd (tkB_iff.1 h.tk d hd1 he) hd2
      · exact hF.names hd1 hc1 he
    rcases hmem c hc0 with rfl | ⟨hc1, hc2⟩
    · have h2 := hF.bs b hbm
      rw [h.id] at h2
      exact ⟨h2.1, h2.2.1, h.nm, htk⟩
    · have h2 := hF.bs c hc1
      exact ⟨h2.1, h2.2.1, h2.2.2.1, htk⟩
  · have h1 : (s.bs.map Bk.id).Pairwise (· < ·) := List.pairwise_map.2 hF.bo
    rw [← hids] at h1
    exact List.pairwise_map.1 h1
  · obtain ⟨q1, ⟨c, hc, hce⟩, q3, q4⟩ := mayNt_iff.1 (hF.ts n hn).2.2
    have : n.bk ∈ (s.bs.set k ⟨y, x⟩).map Bk.id := by
      rw [hids]
      exact List.mem_map.2 ⟨c, hc, hce⟩
    obtain ⟨d, hd, hde⟩ := List.mem_map.1 this
    exact mayNt_iff.2 ⟨q1, ⟨d, hd, hde⟩, q3, q4⟩
theorem RnF.back {s : Sf} {y : Int} {x : ByteArray} {k : Nat} {b : Bk} (h : RnF s y x k b) : renC (renS s y x) y b.nm = 0 ∧ renS (renS s y x) y b.nm = s := by
  have hF := h.may
  have hbm := List.mem_of_getElem? h.bk
  have hids := set_ids (x := x) h.bk
  rw [h.id] at hids
  have hlt := (List.getElem?_eq_some_iff.1 h.bk).1
  have hidx : bookAt (renS s y x) y = (k : Int) := by
    have h1 : ∀ l : List Bk, idxP (fun b : Bk => b.id == y) l = idxP (fun i : Int => i == y) (l.map Bk.id) := by
      intro l
      unfold idxP
      rw [List.findIdx?_map]
      rfl
    show idxP _ (renS s y x).bs = _
    rw [h.eq, h1]
    show idxP _ ((s.bs.set k ⟨y, x⟩).map Bk.id) = _
    rw [hids, ← h1]
    exact h.at_
  constructor
  · unfold renC
    rw [mayS_conv h.may2, hidx, decide_eq_false (by omega), (hF.bs b hbm).2.2.1]
    have : bookTk (renS s y x) b.nm y = false := by
      rw [tkB_iff, h.eq]
      intro d hd he
      rcases set_mem hd with rfl | ⟨j, hj, hje⟩
      · rfl
      · have := hF.names (List.mem_of_getElem? hje) hbm he
        rw [this, h.id]
    rw [this]
    rfl
  · have : renS (renS s y x) y b.nm = { renS s y x with bs := (renS s y x).bs.set k ⟨y, b.nm⟩ } := renS_at hidx
    rw [this, h.eq]
    show ({ s with bs := (s.bs.set k ⟨y, x⟩).set k ⟨y, b.nm⟩ } : Sf) = s
    rw [List.set_set]
    have hbe : (⟨y, b.nm⟩ : Bk) = b := by rw [← h.id]
    rw [hbe]
    have : s.bs.set k b = s.bs := by
      obtain ⟨h1, e1⟩ := List.getElem?_eq_some_iff.1 h.bk
      rw [← e1]
      exact List.set_getElem_self h1
    rw [this]
structure MvF (s : Sf) (y z : Int) (k : Nat) (n : Nt) : Prop where
  may : MayF s
  at_ : noteAt s y = (k : Int)
  nt : s.ts[k]? = some n
  id : n.id = y
  bk : ∃ b ∈ s.bs, b.id = z
  tk : noteTk s z n.nm y = false
theorem MvF.eq {s : Sf} {y z : Int} {k : Nat} {n : Nt} (h : MvF s y z k n) : movS s y z = { s with ts := s.ts.set k { n with bk := z } } := by
  unfold movS
  rw [h.at_]
  simp [h.nt]
theorem setN_map {β : Type} {l : List Nt} {k : Nat} {n : Nt} {z : Int} (f : Nt → β) (hf : f { n with bk := z } = f n) (hn : l[k]? = some n) : (l.set k { n with bk := z }).map f = l.map f := by
  rw [List.map_set, hf]
  apply List.ext_getElem?
  intro j
  rw [List.getElem?_set, List.getElem?_map]
  split
  · rename_i h
    subst h
    rw [hn]
    have := (List.getElem?_eq_some_iff.1 hn).1
    simp [this]
  · rfl
theorem MvF.may2 {s : Sf} {y z : Int} {k : Nat} {n : Nt} (h : MvF s y z k n) : MayF (movS s y z) := by
  have hF := h.may
  rw [h.eq]
  have hnm := List.mem_of_getElem? h.nt
  have hmem : ∀ c ∈ s.ts.set k { n with bk := z }, (c = { n with bk := z }) ∨ (c ∈ s.ts ∧ c.id ≠ y) := by
    intro c hc
    rcases set_mem hc with h1 | ⟨j, hj, he⟩
    · exact Or.inl h1
    · refine Or.inr ⟨List.mem_of_getElem? he, fun e => hj ?_⟩
      have hcb := hF.idinj (List.mem_of_getElem? he) hnm (e.trans h.id.symm)
      obtain ⟨h1, e1⟩ := List.getElem?_eq_some_iff.1 he
      obtain ⟨h2, e2⟩ := List.getElem?_eq_some_iff.1 h.nt
      rcases Nat.lt_trichotomy j k with hlt | rfl | hlt
      · have := List.pairwise_iff_getElem.1 hF.tord j k h1 h2 hlt
        rw [e1, e2, hcb] at this
        omega
      · rfl
      · have := List.pairwise_iff_getElem.1 hF.tord k j h2 h1 hlt
        rw [e1, e2, hcb] at this
        omega
  obtain ⟨q1, q2, q3⟩ := (sh_iff _ _ _).1 hF.sh
  have hfm : (s.ts.set k { n with bk := z }).flatMap Nt.sh = s.ts.flatMap Nt.sh := by
    rw [List.flatMap_def, List.flatMap_def, setN_map Nt.sh rfl h.nt]
  refine ⟨hF.nb, hF.nn, hF.ns, hF.bl, by show (s.ts.set k _).length ≤ 12; rw [List.length_set]; exact hF.tl, hF.bs, hF.bo, fun c hc => ?_, ?_, ?_⟩
  · have hc0 : c ∈ s.ts.set k { n with bk := z } := hc
    have htk : ∀ c ∈ s.ts.set k { n with bk := z }, noteTk { s with ts := s.ts.set k { n with bk := z } } c.bk c.nm c.id = false := by
      intro c hc
      rw [tkN_iff]
      intro d hd hdb he
      rcases hmem d hd with rfl | ⟨hd1, hd2⟩ <;> rcases hmem c hc with rfl | ⟨hc1, hc2⟩
      · rfl
      · exact absurd (tkN_iff.1 h.tk c hc1 hdb.symm he.symm) hc2
      · exact absurd (tkN_iff.1 h.tk d hd1 hdb he) hd2
      · exact hF.nnames hd1 hc1 hdb he
    rcases hmem c hc0 with rfl | ⟨hc1, hc2⟩
    · have h2 := hF.ts n hnm
      obtain ⟨m1, m2, m3, m4⟩ := mayNt_iff.1 h2.2.2
      exact ⟨h2.1, h2.2.1, mayNt_iff.2 ⟨m1, h.bk, htk _ hc0, m4⟩⟩
    · have h2 := hF.ts c hc1
      obtain ⟨m1, m2, m3, m4⟩ := mayNt_iff.1 h2.2.2
      exact ⟨h2.1, h2.2.1, mayNt_iff.2 ⟨m1, m2, htk _ hc0, m4⟩⟩
  · have h1 : (s.ts.map Nt.id).Pairwise (· < ·) := List.pairwise_map.2 hF.tord
    rw [← setN_map Nt.id rfl h.nt (z := z)] at h1
    exact List.pairwise_map.1 h1
  · refine (sh_iff _ _ _).2 ⟨fun c hc => ?_, ?_, ?_⟩
    · rcases hmem c hc with rfl | ⟨hc1, _⟩
      · exact q1 n hnm
      · exact q1 c hc1
    · show ∀ x ∈ (s.ts.set k { n with bk := z }).flatMap Nt.sh, _
      rw [hfm]
      exact q2
    · show ((s.ts.set k { n with bk := z }).flatMap Nt.sh).Nodup
      rw [hfm]
      exact q3
theorem MvF.back {s : Sf} {y z : Int} {k : Nat} {n : Nt} (h : MvF s y z k n) : movC (movS s y z) y n.bk = 0 ∧ movS (movS s y z) y n.bk = s := by
  have hF := h.may
  have hnm := List.mem_of_getElem? h.nt
  have hlt := (List.getElem?_eq_some_iff.1 h.nt).1
  have hidx : noteAt (movS s y z) y = (k : Int) := by
    have h1 : ∀ l : List Nt, idxP (fun b : Nt => b.id == y) l = idxP (fun i : Int => i == y) (l.map Nt.id) := by
      intro l
      unfold idxP
      rw [List.findIdx?_map]
      rfl
    show idxP _ (movS s y z).ts = _
    rw [h.eq, h1]
    show idxP _ ((s.ts.set k { n with bk := z }).map Nt.id) = _
    rw [setN_map Nt.id rfl h.nt, ← h1]
    exact h.at_
  have hget : (movS s y z).ts[k]? = some { n with bk := z } := by
    rw [h.eq]
    show (s.ts.set k { n with bk := z })[k]? = _
    rw [List.getElem?_set_self hlt]
  have hnam : nameAt (movS s y z) y = n.nm := by
    unfold nameAt
    rw [hidx]
    simp [hget]
  obtain ⟨m1, m2, m3, m4⟩ := mayNt_iff.1 (hF.ts n hnm).2.2
  constructor
  · have hbk : 0 ≤ bookAt (movS s y z) n.bk := by
      rw [h.eq]
      exact (book_is (s := { s with ts := s.ts.set k { n with bk := z } }) _).2 m2
    have htk : noteTk (movS s y z) n.bk n.nm y = false := by
      rw [tkN_iff, h.eq]
      intro d hd hdb he
      rcases set_mem hd with rfl | ⟨j, hj, hje⟩
      · exact h.id
      · have := tkN_iff.1 m3 d (List.mem_of_getElem? hje) hdb he
        rw [this, h.id]
    unfold movC
    rw [mayS_conv h.may2, hidx, hnam, htk, decide_eq_false (by omega), decide_eq_false (by omega)]
    rfl
  · have : movS (movS s y z) y n.bk = { movS s y z with ts := (movS s y z).ts.set k { n with bk := n.bk } } := by
      have := movS_at (z := n.bk) hidx hget
      exact this
    rw [this, h.eq]
    show ({ s with ts := (s.ts.set k { n with bk := z }).set k { n with bk := n.bk } } : Sf) = s
    rw [List.set_set]
    have : s.ts.set k { n with bk := n.bk } = s.ts := by
      obtain ⟨h1, e1⟩ := List.getElem?_eq_some_iff.1 h.nt
      have e2 : ({ n with bk := n.bk } : Nt) = n := rfl
      rw [e2, ← e1]
      exact List.set_getElem_self h1
    rw [this]
end Go.Proofs.YteokeghenjobaaaGreatDoor
namespace Go.Proofs.YteokeghenjobaaaGreatDoor
open Go.ChangeShapes Go.WideShapes Go.ChangeAt Go.RowKit
attribute [local go_sem ↓] Go.wp_at_zero Go.wp_at_succ
theorem bkOk_iff {s : Sf} : ∀ (l pre : List Bk), bkOk s pre l = true ↔ (∀ b ∈ l, 1 ≤ b.id ∧ b.id < s.nb ∧ mayN b.nm = true) ∧ (∀ a, pre.getLast? = some a → ∀ b ∈ l, a.id < b.id) ∧ (l.Pairwise fun a b => a.id < b.id) ∧ (l.Pairwise fun a b => sameS a.nm b.nm = false) ∧ ∀ a ∈ pre, ∀ b ∈ l, sameS a.nm b.nm = false
  | [], pre => by simp [bkOk]
  | x :: l, pre => by
    have ih := bkOk_iff (s := s) l (pre ++ [x])
    have hp : prevOk pre x = true ↔ ∀ a, pre.getLast? = some a → a.id < x.id := by
      unfold prevOk
      cases pre.getLast? with
      | none => simp
      | some p => simp
    show (decide (1 ≤ x.id) && (decide (x.id < s.nb) && (prevOk pre x && (mayN x.nm && (!pre.any (fun c => sameS c.nm x.nm) && bkOk s (pre ++ [x]) l))))) = true ↔ _
    rw [Bool.and_eq_true, Bool.and_eq_true, Bool.and_eq_true, Bool.and_eq_true, Bool.and_eq_true, ih, hp, decide_eq_true_eq, decide_eq_true_eq, Bool.not_eq_true', List.any_eq_false, List.pairwise_cons, List.pairwise_cons]
    constructor
    · rintro ⟨h1, h2, h3, h4, h5, h6, h7, h8, h9, h10⟩
      have hx : ∀ b ∈ l, x.id < b.id := fun b hb => h7 x (by simp) b hb
      refine ⟨fun b hb => ?_, fun a ha b hb => ?_, ⟨hx, h8⟩, ⟨fun b hb => h10 x (by simp) b hb, h9⟩, fun a ha b hb => ?_⟩
      · rcases List.mem_cons.1 hb with rfl | hb
        · exact ⟨h1, h2, h4⟩
        · exact h6 b hb
      · have := h3 a ha
        rcases List.mem_cons.1 hb with rfl | hb
        · exact this
        · have := hx b hb
          omega
      · rcases List.mem_cons.1 hb with rfl | hb
        · simpa using h5 a ha
        · exact h10 a (by simp [ha]) b hb
    · rintro ⟨h1, h2, ⟨h3, h4⟩, ⟨h5, h6⟩, h7⟩
      refine ⟨(h1 x (by simp)).1, (h1 x (by simp)).2.1, fun a ha => h2 a ha x (by simp), (h1 x (by simp)).2.2, fun a ha => by simp [h7 a ha x (by simp)], fun b hb => h1 b (by simp [hb]), fun a ha b hb => ?_, h4, h6, fun a ha b hb => ?_⟩
      · have : x = a := by simpa using ha
        subst this
        exact h3 b hb
      · rcases List.mem_append.1 ha with ha | ha
        · exact h7 a ha b (by simp [hb])
        · have : a = x := by simpa using ha
          subst this
          exact h5 b hb
theorem pair_at {l : List Bk} {R : Bk → Bk → Prop} (h : l.Pairwise R) {a b : Bk} (ha : a ∈ l) (hb : b ∈ l) (hne : a ≠ b) : R a b ∨ R b a := by
  obtain ⟨i, hi, rfl⟩ := List.mem_iff_getElem.1 ha
  obtain ⟨j, hj, rfl⟩ := List.mem_iff_getElem.1 hb
  have := List.pairwise_iff_getElem.1 h
  rcases Nat.lt_trichotomy i j with hij | rfl | hij
  · exact Or.inl (this i j hi hj hij)
  · exact absurd rfl hne
  · exact Or.inr (this j i hj hi hij)
theorem sameS_comm {a b : ByteArray} : sameS a b = sameS b a := by
  unfold sameS
  rw [Bool.eq_iff_iff, beq_iff_eq, beq_iff_eq]
  exact eq_comm
theorem rbk_eq (s : Sf) : rbkB s = (inI s.nb 1 65536 && (decide (s.bs.length ≤ 6) && booksFrom s 0 s.bs)) := by
  unfold rbkB
  rw [Bool.eq_iff_iff, Bool.and_eq_true, Bool.and_eq_true, Bool.and_eq_true, Bool.and_eq_true, bkOk_iff]
  constructor
  · rintro ⟨h1, h2, h3, -, h4, h5, -⟩
    refine ⟨h2, h1, books_conv s.bs 0 (fun b hb => ⟨by have := h3 b hb; omega, by have := h3 b hb; omega, (h3 b hb).2.2, tkB_iff.2 fun c hc he => ?_⟩) h4⟩
    by_cases hcb : c = b
    · rw [hcb]
    · have hs : sameS c.nm b.nm = true := by simp [sameS, he]
      rcases pair_at h5 hc hb hcb with h | h
      · rw [hs] at h
        cases h
      · rw [sameS_comm, hs] at h
        cases h
  · rintro ⟨h1, h2, h3⟩
    obtain ⟨q1, q2⟩ := books_all s.bs 0 h3
    refine ⟨h2, h1, fun b hb => ⟨by have := q1 b hb; omega, by have := q1 b hb; omega, (q1 b hb).2.2.1⟩, fun a ha => by simp at ha, q2, ?_, fun a ha => by simp at ha⟩
    refine q2.imp_of_mem fun {a b} ha hb hlt => ?_
    cases hs : sameS a.nm b.nm
    · rfl
    · have := tkB_iff.1 (q1 b hb).2.2.2 a ha (by simpa [sameS] using hs)
      omega
end Go.Proofs.YteokeghenjobaaaGreatDoor
