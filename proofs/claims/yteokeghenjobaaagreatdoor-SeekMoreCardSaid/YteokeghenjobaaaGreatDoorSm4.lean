/- A term more finds no others; in another order terms find the same; a term twice finds what it finds once. -/
import Derived.Test.YteokeghenjobaaaGreatDoorSm3
import Derived.Test.YteokeghenjobaaaGreatDoorSm1
import Derived.Test.YteokeghenjobaaaGreatDoorRows
import Derived.SevenTiedAt
import Derived.LaidHandle
import Derived.Lib.LaidIn
import Derived.Lib.LaidU8T
import Derived.PinnedBridge
import Derived.ChangeMaps5
set_option linter.unusedSimpArgs false
set_option linter.unusedVariables false
set_option maxRecDepth 100000
set_option maxHeartbeats 16000000
namespace Go.Proofs.YteokeghenjobaaaGreatDoor
open Go.ChangeShapes Go.WideShapes Go.ChangeAt Go.RowKit
attribute [local go_sem ↓] Go.wp_at_zero Go.wp_at_succ
attribute [local go_sem] Oper.semAt_some
theorem more_walk (s : Sf) (v : Value) (q t : ByteArray) (w : World) (hS : ShR w w.heap.size v s) (hT : Tabs w) :
    Calls Tryz.prog 7 #[v, .string q, .string t] w fun e' w' => e' = .returned (.bool true) ∧ Below w.heap.size w w' := by
  have hS0 := hS
  obtain ⟨Ab, cb, An, cn, rfl, hB, hN, hcb, hmb, hcn, hmn⟩ := hS.ex
  clear hS
  obtain ⟨n, hn⟩ : ∃ n, s.ts.length = n := ⟨_, rfl⟩
  obtain ⟨bn, hbn⟩ : ∃ n, s.bs.length = n := ⟨_, rfl⟩
  have HB : Below w.heap.size w (w.alloc (.cells #[.int .i64 s.nb, .int .i64 s.nn, .int .i64 s.ns, .slice Ab s.bs.length cb, .slice An s.ts.length cn] 25)) := ((Below.refl w.heap.size w).alloc (by first | (simp; done) | (simp; omega)) _)
  have B1 : Blk (w.alloc (.cells #[.int .i64 s.nb, .int .i64 s.nn, .int .i64 s.ns, .slice Ab s.bs.length cb, .slice An s.ts.length cn] 25)) w.heap.size 25 #[.int .i64 s.nb, .int .i64 s.nn, .int .i64 s.ns, .slice Ab s.bs.length cb, .slice An s.ts.length cn] := Blk.new_ w 25 #[.int .i64 s.nb, .int .i64 s.nn, .int .i64 s.ns, .slice Ab s.bs.length cb, .slice An s.ts.length cn]
  have S1 : ShR (w.alloc (.cells #[.int .i64 s.nb, .int .i64 s.nn, .int .i64 s.ns, .slice Ab s.bs.length cb, .slice An s.ts.length cn] 25)) ((w.alloc (.cells #[.int .i64 s.nb, .int .i64 s.nn, .int .i64 s.ns, .slice Ab s.bs.length cb, .slice An s.ts.length cn] 25))).heap.size (.agg #[.int .i64 s.nb, .int .i64 s.nn, .int .i64 s.ns, .slice Ab s.bs.length cb, .slice An s.ts.length cn]) s := hS0.next HB
  have T1 := hT.next HB
  simp only [hn, hbn] at HB B1 S1 T1 ⊢
  obtain ⟨G, hG⟩ : ∃ G, greatS s = G := ⟨_, rfl⟩
  obtain ⟨M, hM⟩ : ∃ M, mayS s = M := ⟨_, rfl⟩
  obtain ⟨mq, hmq⟩ : ∃ m, mayQ q.data.toList = m := ⟨_, rfl⟩
  obtain ⟨mt, hmt⟩ : ∃ m, mayQ t.data.toList = m := ⟨_, rfl⟩
  have HG := Lib.hid hG
  have HM := Lib.hid hM
  have HMQ := Lib.hid hmq
  have HMT := Lib.hid hmt
  clear hG hM hmq hmt hn hbn hS0 hB hN hcb hmb hcn hmn
  cases G
  case true =>
    skip
    go_enter Tryz.func7, Tryz.ntmps7
    go_wp2_with (first
        | (go_at_call 9; ((with_reducible refine (greatShelf_any s _ _ S1 _ HG.out).mono ?_); rintro e' wg ⟨rfl, b3⟩; have S1 := S1.next b3; have T1 := T1.next b3; have B1 := B1.below b3 B1.lt; have HB := btr HB HB.size b3; (try clear k0 k1 k2 k3 k4); have k0 := B1.cell_ 0; have k1 := B1.cell_ 1; have k2 := B1.cell_ 2; have k3 := B1.cell_ 3; have k4 := B1.cell_ 4; simp at k0 k1 k2 k3 k4; (try replace ra := SlE.next ra b3); (try replace rb := SlE.next rb b3); (try replace rc := SlE.next rc b3); (try replace rd := SlE.next rd b3); (try replace re := SlE.next re b3); clear b3))
        | (go_at_call 28; ((with_reducible refine (smay_any s _ _ S1 T1 _ HM.out).mono ?_); rintro e' wm ⟨rfl, b4⟩; have S1 := S1.next b4; have T1 := T1.next b4; have B1 := B1.below b4 B1.lt; have HB := btr HB HB.size b4; (try clear k0 k1 k2 k3 k4); have k0 := B1.cell_ 0; have k1 := B1.cell_ 1; have k2 := B1.cell_ 2; have k3 := B1.cell_ 3; have k4 := B1.cell_ 4; simp at k0 k1 k2 k3 k4; (try replace ra := SlE.next ra b4); (try replace rb := SlE.next rb b4); (try replace rc := SlE.next rc b4); (try replace rd := SlE.next rd b4); (try replace re := SlE.next re b4); clear b4))
        | (go_at_call 23; ((with_reducible refine (mayq_go q _ HQS.out _ HMQ.out).mono ?_); rintro e' wq ⟨rfl, b5⟩; have S1 := S1.next b5; have T1 := T1.next b5; have B1 := B1.below b5 B1.lt; have HB := btr HB HB.size b5; (try clear k0 k1 k2 k3 k4); have k0 := B1.cell_ 0; have k1 := B1.cell_ 1; have k2 := B1.cell_ 2; have k3 := B1.cell_ 3; have k4 := B1.cell_ 4; simp at k0 k1 k2 k3 k4; (try replace ra := SlE.next ra b5); (try replace rb := SlE.next rb b5); (try replace rc := SlE.next rc b5); (try replace rd := SlE.next rd b5); (try replace re := SlE.next re b5); clear b5))
        | (go_at_call 23; ((with_reducible refine (mayq_go t _ HTS.out _ HMT.out).mono ?_); rintro e' wq ⟨rfl, b5⟩; have S1 := S1.next b5; have T1 := T1.next b5; have B1 := B1.below b5 B1.lt; have HB := btr HB HB.size b5; (try clear k0 k1 k2 k3 k4); have k0 := B1.cell_ 0; have k1 := B1.cell_ 1; have k2 := B1.cell_ 2; have k3 := B1.cell_ 3; have k4 := B1.cell_ 4; simp at k0 k1 k2 k3 k4; (try replace ra := SlE.next ra b5); (try replace rb := SlE.next rb b5); (try replace rc := SlE.next rc b5); (try replace rd := SlE.next rd b5); (try replace re := SlE.next re b5); clear b5))
        | (go_at_call 10; ((with_reducible refine (awakeK_any _ T1).mono ?_); rintro e' w9 ⟨rfl, b9⟩; have HB := btr HB HB.size b9; clear b9)))
    go_ret
    exact ⟨rfl, HB⟩
  by_cases hq : (60 : Int) < (q.size : Int)
  · go_enter Tryz.func7, Tryz.ntmps7
    go_wp2_with (first
        | (go_at_call 9; ((with_reducible refine (greatShelf_any s _ _ S1 _ HG.out).mono ?_); rintro e' wg ⟨rfl, b3⟩; have S1 := S1.next b3; have T1 := T1.next b3; have B1 := B1.below b3 B1.lt; have HB := btr HB HB.size b3; (try clear k0 k1 k2 k3 k4); have k0 := B1.cell_ 0; have k1 := B1.cell_ 1; have k2 := B1.cell_ 2; have k3 := B1.cell_ 3; have k4 := B1.cell_ 4; simp at k0 k1 k2 k3 k4; (try replace ra := SlE.next ra b3); (try replace rb := SlE.next rb b3); (try replace rc := SlE.next rc b3); (try replace rd := SlE.next rd b3); (try replace re := SlE.next re b3); clear b3))
        | (go_at_call 28; ((with_reducible refine (smay_any s _ _ S1 T1 _ HM.out).mono ?_); rintro e' wm ⟨rfl, b4⟩; have S1 := S1.next b4; have T1 := T1.next b4; have B1 := B1.below b4 B1.lt; have HB := btr HB HB.size b4; (try clear k0 k1 k2 k3 k4); have k0 := B1.cell_ 0; have k1 := B1.cell_ 1; have k2 := B1.cell_ 2; have k3 := B1.cell_ 3; have k4 := B1.cell_ 4; simp at k0 k1 k2 k3 k4; (try replace ra := SlE.next ra b4); (try replace rb := SlE.next rb b4); (try replace rc := SlE.next rc b4); (try replace rd := SlE.next rd b4); (try replace re := SlE.next re b4); clear b4))
        | (go_at_call 23; ((with_reducible refine (mayq_go q _ HQS.out _ HMQ.out).mono ?_); rintro e' wq ⟨rfl, b5⟩; have S1 := S1.next b5; have T1 := T1.next b5; have B1 := B1.below b5 B1.lt; have HB := btr HB HB.size b5; (try clear k0 k1 k2 k3 k4); have k0 := B1.cell_ 0; have k1 := B1.cell_ 1; have k2 := B1.cell_ 2; have k3 := B1.cell_ 3; have k4 := B1.cell_ 4; simp at k0 k1 k2 k3 k4; (try replace ra := SlE.next ra b5); (try replace rb := SlE.next rb b5); (try replace rc := SlE.next rc b5); (try replace rd := SlE.next rd b5); (try replace re := SlE.next re b5); clear b5))
        | (go_at_call 23; ((with_reducible refine (mayq_go t _ HTS.out _ HMT.out).mono ?_); rintro e' wq ⟨rfl, b5⟩; have S1 := S1.next b5; have T1 := T1.next b5; have B1 := B1.below b5 B1.lt; have HB := btr HB HB.size b5; (try clear k0 k1 k2 k3 k4); have k0 := B1.cell_ 0; have k1 := B1.cell_ 1; have k2 := B1.cell_ 2; have k3 := B1.cell_ 3; have k4 := B1.cell_ 4; simp at k0 k1 k2 k3 k4; (try replace ra := SlE.next ra b5); (try replace rb := SlE.next rb b5); (try replace rc := SlE.next rc b5); (try replace rd := SlE.next rd b5); (try replace re := SlE.next re b5); clear b5))
        | (go_at_call 10; ((with_reducible refine (awakeK_any _ T1).mono ?_); rintro e' w9 ⟨rfl, b9⟩; have HB := btr HB HB.size b9; clear b9)))
    go_ret
    exact ⟨rfl, HB⟩
  by_cases ht : (60 : Int) < (t.size : Int)
  · go_enter Tryz.func7, Tryz.ntmps7
    go_wp2_with (first
        | (go_at_call 9; ((with_reducible refine (greatShelf_any s _ _ S1 _ HG.out).mono ?_); rintro e' wg ⟨rfl, b3⟩; have S1 := S1.next b3; have T1 := T1.next b3; have B1 := B1.below b3 B1.lt; have HB := btr HB HB.size b3; (try clear k0 k1 k2 k3 k4); have k0 := B1.cell_ 0; have k1 := B1.cell_ 1; have k2 := B1.cell_ 2; have k3 := B1.cell_ 3; have k4 := B1.cell_ 4; simp at k0 k1 k2 k3 k4; (try replace ra := SlE.next ra b3); (try replace rb := SlE.next rb b3); (try replace rc := SlE.next rc b3); (try replace rd := SlE.next rd b3); (try replace re := SlE.next re b3); clear b3))
        | (go_at_call 28; ((with_reducible refine (smay_any s _ _ S1 T1 _ HM.out).mono ?_); rintro e' wm ⟨rfl, b4⟩; have S1 := S1.next b4; have T1 := T1.next b4; have B1 := B1.below b4 B1.lt; have HB := btr HB HB.size b4; (try clear k0 k1 k2 k3 k4); have k0 := B1.cell_ 0; have k1 := B1.cell_ 1; have k2 := B1.cell_ 2; have k3 := B1.cell_ 3; have k4 := B1.cell_ 4; simp at k0 k1 k2 k3 k4; (try replace ra := SlE.next ra b4); (try replace rb := SlE.next rb b4); (try replace rc := SlE.next rc b4); (try replace rd := SlE.next rd b4); (try replace re := SlE.next re b4); clear b4))
        | (go_at_call 23; ((with_reducible refine (mayq_go q _ HQS.out _ HMQ.out).mono ?_); rintro e' wq ⟨rfl, b5⟩; have S1 := S1.next b5; have T1 := T1.next b5; have B1 := B1.below b5 B1.lt; have HB := btr HB HB.size b5; (try clear k0 k1 k2 k3 k4); have k0 := B1.cell_ 0; have k1 := B1.cell_ 1; have k2 := B1.cell_ 2; have k3 := B1.cell_ 3; have k4 := B1.cell_ 4; simp at k0 k1 k2 k3 k4; (try replace ra := SlE.next ra b5); (try replace rb := SlE.next rb b5); (try replace rc := SlE.next rc b5); (try replace rd := SlE.next rd b5); (try replace re := SlE.next re b5); clear b5))
        | (go_at_call 23; ((with_reducible refine (mayq_go t _ HTS.out _ HMT.out).mono ?_); rintro e' wq ⟨rfl, b5⟩; have S1 := S1.next b5; have T1 := T1.next b5; have B1 := B1.below b5 B1.lt; have HB := btr HB HB.size b5; (try clear k0 k1 k2 k3 k4); have k0 := B1.cell_ 0; have k1 := B1.cell_ 1; have k2 := B1.cell_ 2; have k3 := B1.cell_ 3; have k4 := B1.cell_ 4; simp at k0 k1 k2 k3 k4; (try replace ra := SlE.next ra b5); (try replace rb := SlE.next rb b5); (try replace rc := SlE.next rc b5); (try replace rd := SlE.next rd b5); (try replace re := SlE.next re b5); clear b5))
        | (go_at_call 10; ((with_reducible refine (awakeK_any _ T1).mono ?_); rintro e' w9 ⟨rfl, b9⟩; have HB := btr HB HB.size b9; clear b9)))
    go_ret
    exact ⟨rfl, HB⟩
  have HQS : Hid (q.size ≤ 100000) := Lib.hid (by omega)
  have HTS : Hid (t.size ≤ 100000) := Lib.hid (by omega)
  have HSZ : Hid (q.size ≤ 60 ∧ t.size ≤ 60) := Lib.hid (by omega)
  rcases (by cases hz : q.toList.isEmpty <;> simp : q.toList.isEmpty = true ∨ q.toList.isEmpty = false) with eq | eq
  · go_enter Tryz.func7, Tryz.ntmps7
    go_wp2_with (first
        | (go_at_call 9; ((with_reducible refine (greatShelf_any s _ _ S1 _ HG.out).mono ?_); rintro e' wg ⟨rfl, b3⟩; have S1 := S1.next b3; have T1 := T1.next b3; have B1 := B1.below b3 B1.lt; have HB := btr HB HB.size b3; (try clear k0 k1 k2 k3 k4); have k0 := B1.cell_ 0; have k1 := B1.cell_ 1; have k2 := B1.cell_ 2; have k3 := B1.cell_ 3; have k4 := B1.cell_ 4; simp at k0 k1 k2 k3 k4; (try replace ra := SlE.next ra b3); (try replace rb := SlE.next rb b3); (try replace rc := SlE.next rc b3); (try replace rd := SlE.next rd b3); (try replace re := SlE.next re b3); clear b3))
        | (go_at_call 28; ((with_reducible refine (smay_any s _ _ S1 T1 _ HM.out).mono ?_); rintro e' wm ⟨rfl, b4⟩; have S1 := S1.next b4; have T1 := T1.next b4; have B1 := B1.below b4 B1.lt; have HB := btr HB HB.size b4; (try clear k0 k1 k2 k3 k4); have k0 := B1.cell_ 0; have k1 := B1.cell_ 1; have k2 := B1.cell_ 2; have k3 := B1.cell_ 3; have k4 := B1.cell_ 4; simp at k0 k1 k2 k3 k4; (try replace ra := SlE.next ra b4); (try replace rb := SlE.next rb b4); (try replace rc := SlE.next rc b4); (try replace rd := SlE.next rd b4); (try replace re := SlE.next re b4); clear b4))
        | (go_at_call 23; ((with_reducible refine (mayq_go q _ HQS.out _ HMQ.out).mono ?_); rintro e' wq ⟨rfl, b5⟩; have S1 := S1.next b5; have T1 := T1.next b5; have B1 := B1.below b5 B1.lt; have HB := btr HB HB.size b5; (try clear k0 k1 k2 k3 k4); have k0 := B1.cell_ 0; have k1 := B1.cell_ 1; have k2 := B1.cell_ 2; have k3 := B1.cell_ 3; have k4 := B1.cell_ 4; simp at k0 k1 k2 k3 k4; (try replace ra := SlE.next ra b5); (try replace rb := SlE.next rb b5); (try replace rc := SlE.next rc b5); (try replace rd := SlE.next rd b5); (try replace re := SlE.next re b5); clear b5))
        | (go_at_call 23; ((with_reducible refine (mayq_go t _ HTS.out _ HMT.out).mono ?_); rintro e' wq ⟨rfl, b5⟩; have S1 := S1.next b5; have T1 := T1.next b5; have B1 := B1.below b5 B1.lt; have HB := btr HB HB.size b5; (try clear k0 k1 k2 k3 k4); have k0 := B1.cell_ 0; have k1 := B1.cell_ 1; have k2 := B1.cell_ 2; have k3 := B1.cell_ 3; have k4 := B1.cell_ 4; simp at k0 k1 k2 k3 k4; (try replace ra := SlE.next ra b5); (try replace rb := SlE.next rb b5); (try replace rc := SlE.next rc b5); (try replace rd := SlE.next rd b5); (try replace re := SlE.next re b5); clear b5))
        | (go_at_call 10; ((with_reducible refine (awakeK_any _ T1).mono ?_); rintro e' w9 ⟨rfl, b9⟩; have HB := btr HB HB.size b9; clear b9)))
    go_ret
    exact ⟨rfl, HB⟩
  rcases (by cases hz : t.toList.isEmpty <;> simp : t.toList.isEmpty = true ∨ t.toList.isEmpty = false) with et | et
  · go_enter Tryz.func7, Tryz.ntmps7
    go_wp2_with (first
        | (go_at_call 9; ((with_reducible refine (greatShelf_any s _ _ S1 _ HG.out).mono ?_); rintro e' wg ⟨rfl, b3⟩; have S1 := S1.next b3; have T1 := T1.next b3; have B1 := B1.below b3 B1.lt; have HB := btr HB HB.size b3; (try clear k0 k1 k2 k3 k4); have k0 := B1.cell_ 0; have k1 := B1.cell_ 1; have k2 := B1.cell_ 2; have k3 := B1.cell_ 3; have k4 := B1.cell_ 4; simp at k0 k1 k2 k3 k4; (try replace ra := SlE.next ra b3); (try replace rb := SlE.next rb b3); (try replace rc := SlE.next rc b3); (try replace rd := SlE.next rd b3); (try replace re := SlE.next re b3); clear b3))
        | (go_at_call 28; ((with_reducible refine (smay_any s _ _ S1 T1 _ HM.out).mono ?_); rintro e' wm ⟨rfl, b4⟩; have S1 := S1.next b4; have T1 := T1.next b4; have B1 := B1.below b4 B1.lt; have HB := btr HB HB.size b4; (try clear k0 k1 k2 k3 k4); have k0 := B1.cell_ 0; have k1 := B1.cell_ 1; have k2 := B1.cell_ 2; have k3 := B1.cell_ 3; have k4 := B1.cell_ 4; simp at k0 k1 k2 k3 k4; (try replace ra := SlE.next ra b4); (try replace rb := SlE.next rb b4); (try replace rc := SlE.next rc b4); (try replace rd := SlE.next rd b4); (try replace re := SlE.next re b4); clear b4))
        | (go_at_call 23; ((with_reducible refine (mayq_go q _ HQS.out _ HMQ.out).mono ?_); rintro e' wq ⟨rfl, b5⟩; have S1 := S1.next b5; have T1 := T1.next b5; have B1 := B1.below b5 B1.lt; have HB := btr HB HB.size b5; (try clear k0 k1 k2 k3 k4); have k0 := B1.cell_ 0; have k1 := B1.cell_ 1; have k2 := B1.cell_ 2; have k3 := B1.cell_ 3; have k4 := B1.cell_ 4; simp at k0 k1 k2 k3 k4; (try replace ra := SlE.next ra b5); (try replace rb := SlE.next rb b5); (try replace rc := SlE.next rc b5); (try replace rd := SlE.next rd b5); (try replace re := SlE.next re b5); clear b5))
        | (go_at_call 23; ((with_reducible refine (mayq_go t _ HTS.out _ HMT.out).mono ?_); rintro e' wq ⟨rfl, b5⟩; have S1 := S1.next b5; have T1 := T1.next b5; have B1 := B1.below b5 B1.lt; have HB := btr HB HB.size b5; (try clear k0 k1 k2 k3 k4); have k0 := B1.cell_ 0; have k1 := B1.cell_ 1; have k2 := B1.cell_ 2; have k3 := B1.cell_ 3; have k4 := B1.cell_ 4; simp at k0 k1 k2 k3 k4; (try replace ra := SlE.next ra b5); (try replace rb := SlE.next rb b5); (try replace rc := SlE.next rc b5); (try replace rd := SlE.next rd b5); (try replace re := SlE.next re b5); clear b5))
        | (go_at_call 10; ((with_reducible refine (awakeK_any _ T1).mono ?_); rintro e' w9 ⟨rfl, b9⟩; have HB := btr HB HB.size b9; clear b9)))
    go_ret
    exact ⟨rfl, HB⟩
  cases M
  case false =>
    skip
    go_enter Tryz.func7, Tryz.ntmps7
    go_wp2_with (first
        | (go_at_call 9; ((with_reducible refine (greatShelf_any s _ _ S1 _ HG.out).mono ?_); rintro e' wg ⟨rfl, b3⟩; have S1 := S1.next b3; have T1 := T1.next b3; have B1 := B1.below b3 B1.lt; have HB := btr HB HB.size b3; (try clear k0 k1 k2 k3 k4); have k0 := B1.cell_ 0; have k1 := B1.cell_ 1; have k2 := B1.cell_ 2; have k3 := B1.cell_ 3; have k4 := B1.cell_ 4; simp at k0 k1 k2 k3 k4; (try replace ra := SlE.next ra b3); (try replace rb := SlE.next rb b3); (try replace rc := SlE.next rc b3); (try replace rd := SlE.next rd b3); (try replace re := SlE.next re b3); clear b3))
        | (go_at_call 28; ((with_reducible refine (smay_any s _ _ S1 T1 _ HM.out).mono ?_); rintro e' wm ⟨rfl, b4⟩; have S1 := S1.next b4; have T1 := T1.next b4; have B1 := B1.below b4 B1.lt; have HB := btr HB HB.size b4; (try clear k0 k1 k2 k3 k4); have k0 := B1.cell_ 0; have k1 := B1.cell_ 1; have k2 := B1.cell_ 2; have k3 := B1.cell_ 3; have k4 := B1.cell_ 4; simp at k0 k1 k2 k3 k4; (try replace ra := SlE.next ra b4); (try replace rb := SlE.next rb b4); (try replace rc := SlE.next rc b4); (try replace rd := SlE.next rd b4); (try replace re := SlE.next re b4); clear b4))
        | (go_at_call 23; ((with_reducible refine (mayq_go q _ HQS.out _ HMQ.out).mono ?_); rintro e' wq ⟨rfl, b5⟩; have S1 := S1.next b5; have T1 := T1.next b5; have B1 := B1.below b5 B1.lt; have HB := btr HB HB.size b5; (try clear k0 k1 k2 k3 k4); have k0 := B1.cell_ 0; have k1 := B1.cell_ 1; have k2 := B1.cell_ 2; have k3 := B1.cell_ 3; have k4 := B1.cell_ 4; simp at k0 k1 k2 k3 k4; (try replace ra := SlE.next ra b5); (try replace rb := SlE.next rb b5); (try replace rc := SlE.next rc b5); (try replace rd := SlE.next rd b5); (try replace re := SlE.next re b5); clear b5))
        | (go_at_call 23; ((with_reducible refine (mayq_go t _ HTS.out _ HMT.out).mono ?_); rintro e' wq ⟨rfl, b5⟩; have S1 := S1.next b5; have T1 := T1.next b5; have B1 := B1.below b5 B1.lt; have HB := btr HB HB.size b5; (try clear k0 k1 k2 k3 k4); have k0 := B1.cell_ 0; have k1 := B1.cell_ 1; have k2 := B1.cell_ 2; have k3 := B1.cell_ 3; have k4 := B1.cell_ 4; simp at k0 k1 k2 k3 k4; (try replace ra := SlE.next ra b5); (try replace rb := SlE.next rb b5); (try replace rc := SlE.next rc b5); (try replace rd := SlE.next rd b5); (try replace re := SlE.next re b5); clear b5))
        | (go_at_call 10; ((with_reducible refine (awakeK_any _ T1).mono ?_); rintro e' w9 ⟨rfl, b9⟩; have HB := btr HB HB.size b9; clear b9)))
    go_ret
    exact ⟨rfl, HB⟩
  cases mq
  case false =>
    skip
    go_enter Tryz.func7, Tryz.ntmps7
    go_wp2_with (first
        | (go_at_call 9; ((with_reducible refine (greatShelf_any s _ _ S1 _ HG.out).mono ?_); rintro e' wg ⟨rfl, b3⟩; have S1 := S1.next b3; have T1 := T1.next b3; have B1 := B1.below b3 B1.lt; have HB := btr HB HB.size b3; (try clear k0 k1 k2 k3 k4); have k0 := B1.cell_ 0; have k1 := B1.cell_ 1; have k2 := B1.cell_ 2; have k3 := B1.cell_ 3; have k4 := B1.cell_ 4; simp at k0 k1 k2 k3 k4; (try replace ra := SlE.next ra b3); (try replace rb := SlE.next rb b3); (try replace rc := SlE.next rc b3); (try replace rd := SlE.next rd b3); (try replace re := SlE.next re b3); clear b3))
        | (go_at_call 28; ((with_reducible refine (smay_any s _ _ S1 T1 _ HM.out).mono ?_); rintro e' wm ⟨rfl, b4⟩; have S1 := S1.next b4; have T1 := T1.next b4; have B1 := B1.below b4 B1.lt; have HB := btr HB HB.size b4; (try clear k0 k1 k2 k3 k4); have k0 := B1.cell_ 0; have k1 := B1.cell_ 1; have k2 := B1.cell_ 2; have k3 := B1.cell_ 3; have k4 := B1.cell_ 4; simp at k0 k1 k2 k3 k4; (try replace ra := SlE.next ra b4); (try replace rb := SlE.next rb b4); (try replace rc := SlE.next rc b4); (try replace rd := SlE.next rd b4); (try replace re := SlE.next re b4); clear b4))
        | (go_at_call 23; ((with_reducible refine (mayq_go q _ HQS.out _ HMQ.out).mono ?_); rintro e' wq ⟨rfl, b5⟩; have S1 := S1.next b5; have T1 := T1.next b5; have B1 := B1.below b5 B1.lt; have HB := btr HB HB.size b5; (try clear k0 k1 k2 k3 k4); have k0 := B1.cell_ 0; have k1 := B1.cell_ 1; have k2 := B1.cell_ 2; have k3 := B1.cell_ 3; have k4 := B1.cell_ 4; simp at k0 k1 k2 k3 k4; (try replace ra := SlE.next ra b5); (try replace rb := SlE.next rb b5); (try replace rc := SlE.next rc b5); (try replace rd := SlE.next rd b5); (try replace re := SlE.next re b5); clear b5))
        | (go_at_call 23; ((with_reducible refine (mayq_go t _ HTS.out _ HMT.out).mono ?_); rintro e' wq ⟨rfl, b5⟩; have S1 := S1.next b5; have T1 := T1.next b5; have B1 := B1.below b5 B1.lt; have HB := btr HB HB.size b5; (try clear k0 k1 k2 k3 k4); have k0 := B1.cell_ 0; have k1 := B1.cell_ 1; have k2 := B1.cell_ 2; have k3 := B1.cell_ 3; have k4 := B1.cell_ 4; simp at k0 k1 k2 k3 k4; (try replace ra := SlE.next ra b5); (try replace rb := SlE.next rb b5); (try replace rc := SlE.next rc b5); (try replace rd := SlE.next rd b5); (try replace re := SlE.next re b5); clear b5))
        | (go_at_call 10; ((with_reducible refine (awakeK_any _ T1).mono ?_); rintro e' w9 ⟨rfl, b9⟩; have HB := btr HB HB.size b9; clear b9)))
    go_ret
    exact ⟨rfl, HB⟩
  cases mt
  case false =>
    skip
    go_enter Tryz.func7, Tryz.ntmps7
    go_wp2_with (first
        | (go_at_call 9; ((with_reducible refine (greatShelf_any s _ _ S1 _ HG.out).mono ?_); rintro e' wg ⟨rfl, b3⟩; have S1 := S1.next b3; have T1 := T1.next b3; have B1 := B1.below b3 B1.lt; have HB := btr HB HB.size b3; (try clear k0 k1 k2 k3 k4); have k0 := B1.cell_ 0; have k1 := B1.cell_ 1; have k2 := B1.cell_ 2; have k3 := B1.cell_ 3; have k4 := B1.cell_ 4; simp at k0 k1 k2 k3 k4; (try replace ra := SlE.next ra b3); (try replace rb := SlE.next rb b3); (try replace rc := SlE.next rc b3); (try replace rd := SlE.next rd b3); (try replace re := SlE.next re b3); clear b3))
        | (go_at_call 28; ((with_reducible refine (smay_any s _ _ S1 T1 _ HM.out).mono ?_); rintro e' wm ⟨rfl, b4⟩; have S1 := S1.next b4; have T1 := T1.next b4; have B1 := B1.below b4 B1.lt; have HB := btr HB HB.size b4; (try clear k0 k1 k2 k3 k4); have k0 := B1.cell_ 0; have k1 := B1.cell_ 1; have k2 := B1.cell_ 2; have k3 := B1.cell_ 3; have k4 := B1.cell_ 4; simp at k0 k1 k2 k3 k4; (try replace ra := SlE.next ra b4); (try replace rb := SlE.next rb b4); (try replace rc := SlE.next rc b4); (try replace rd := SlE.next rd b4); (try replace re := SlE.next re b4); clear b4))
        | (go_at_call 23; ((with_reducible refine (mayq_go q _ HQS.out _ HMQ.out).mono ?_); rintro e' wq ⟨rfl, b5⟩; have S1 := S1.next b5; have T1 := T1.next b5; have B1 := B1.below b5 B1.lt; have HB := btr HB HB.size b5; (try clear k0 k1 k2 k3 k4); have k0 := B1.cell_ 0; have k1 := B1.cell_ 1; have k2 := B1.cell_ 2; have k3 := B1.cell_ 3; have k4 := B1.cell_ 4; simp at k0 k1 k2 k3 k4; (try replace ra := SlE.next ra b5); (try replace rb := SlE.next rb b5); (try replace rc := SlE.next rc b5); (try replace rd := SlE.next rd b5); (try replace re := SlE.next re b5); clear b5))
        | (go_at_call 23; ((with_reducible refine (mayq_go t _ HTS.out _ HMT.out).mono ?_); rintro e' wq ⟨rfl, b5⟩; have S1 := S1.next b5; have T1 := T1.next b5; have B1 := B1.below b5 B1.lt; have HB := btr HB HB.size b5; (try clear k0 k1 k2 k3 k4); have k0 := B1.cell_ 0; have k1 := B1.cell_ 1; have k2 := B1.cell_ 2; have k3 := B1.cell_ 3; have k4 := B1.cell_ 4; simp at k0 k1 k2 k3 k4; (try replace ra := SlE.next ra b5); (try replace rb := SlE.next rb b5); (try replace rc := SlE.next rc b5); (try replace rd := SlE.next rd b5); (try replace re := SlE.next re b5); clear b5))
        | (go_at_call 10; ((with_reducible refine (awakeK_any _ T1).mono ?_); rintro e' w9 ⟨rfl, b9⟩; have HB := btr HB HB.size b9; clear b9)))
    go_ret
    exact ⟨rfl, HB⟩
  obtain ⟨tq, htq⟩ := mayQ_some HMQ.out
  obtain ⟨tt, htt⟩ := mayQ_some HMT.out
  have hF := mayF_of HM.out
  obtain ⟨LA, hLA⟩ : ∃ l, findL s tq = l := ⟨_, rfl⟩
  obtain ⟨LB, hLB⟩ : ∃ l, findL s (tq ++ tt) = l := ⟨_, rfl⟩
  obtain ⟨la, hla⟩ : ∃ l, LA.length = l := ⟨_, rfl⟩
  obtain ⟨lb, hlb⟩ : ∃ l, LB.length = l := ⟨_, rfl⟩
  have hqt : q.size + t.size < 200 := by have := HSZ.out; omega
  have hqq : q.size + q.size < 200 := by have := HSZ.out; omega
  have e1 : findL s (tt ++ tq) = LB := by rw [← hLB]; exact findL_congr (fun n _ => by rw [hitB_app, hitB_app, Bool.and_comm])
  have e2 : findL s (tq ++ tq) = LA := by rw [← hLA]; exact findL_congr (fun n _ => by rw [hitB_app, Bool.and_self])
  have HFA : Hid (∀ (w_ : World) (v_ : Value), ShR w_ w_.heap.size v_ s → Tabs w_ → Calls Tryz.prog 12 #[v_, .string q] w_ fun e' w' => ∃ (A : Option Addr) (c : Nat), e' = .returned (.tuple #[.slice A la c, .int .i64 0]) ∧ SlE 2 w' w'.heap.size A (LA.map itC) ∧ Below w_.heap.size w_ w') := Lib.hid (fun w_ v_ h1 h2 => by
    have h := find_go s v_ q tq w_ h1 h2 HM.out htq la (by rw [hLA]; exact hla)
    rw [hLA] at h
    exact h)
  have HFB : Hid (∀ (w_ : World) (v_ : Value), ShR w_ w_.heap.size v_ s → Tabs w_ → Calls Tryz.prog 12 #[v_, .string (q ++ ⟨#[32]⟩ ++ t)] w_ fun e' w' => ∃ (A : Option Addr) (c : Nat), e' = .returned (.tuple #[.slice A lb c, .int .i64 0]) ∧ SlE 2 w' w'.heap.size A (LB.map itC) ∧ Below w_.heap.size w_ w') := Lib.hid (fun w_ v_ h1 h2 => by
    have h := find_go s v_ (q ++ ⟨#[32]⟩ ++ t) (tq ++ tt) w_ h1 h2 HM.out (read_join htq htt eq et hqt) lb (by rw [hLB]; exact hlb)
    rw [hLB] at h
    exact h)
  have HFC : Hid (∀ (w_ : World) (v_ : Value), ShR w_ w_.heap.size v_ s → Tabs w_ → Calls Tryz.prog 12 #[v_, .string (t ++ ⟨#[32]⟩ ++ q)] w_ fun e' w' => ∃ (A : Option Addr) (c : Nat), e' = .returned (.tuple #[.slice A lb c, .int .i64 0]) ∧ SlE 2 w' w'.heap.size A (LB.map itC) ∧ Below w_.heap.size w_ w') := Lib.hid (fun w_ v_ h1 h2 => by
    have h := find_go s v_ (t ++ ⟨#[32]⟩ ++ q) (tt ++ tq) w_ h1 h2 HM.out (read_join htt htq et eq (by omega)) lb (by rw [e1]; exact hlb)
    rw [e1] at h
    exact h)
  have HFD : Hid (∀ (w_ : World) (v_ : Value), ShR w_ w_.heap.size v_ s → Tabs w_ → Calls Tryz.prog 12 #[v_, .string (q ++ ⟨#[32]⟩ ++ q)] w_ fun e' w' => ∃ (A : Option Addr) (c : Nat), e' = .returned (.tuple #[.slice A la c, .int .i64 0]) ∧ SlE 2 w' w'.heap.size A (LA.map itC) ∧ Below w_.heap.size w_ w') := Lib.hid (fun w_ v_ h1 h2 => by
    have h := find_go s v_ (q ++ ⟨#[32]⟩ ++ q) (tq ++ tq) w_ h1 h2 HM.out (read_join htq htq eq eq hqq) la (by rw [e2]; exact hla)
    rw [e2] at h
    exact h)
  have hla12 : la ≤ 12 := by rw [← hla, ← hLA]; exact findL_le hF tq
  have hlb12 : lb ≤ 12 := by rw [← hlb, ← hLB]; exact findL_le hF _
  have hsub : ∀ x ∈ LB, x ∈ LA := fun x hx => by
    rw [← hLB, findL_mem] at hx
    rw [← hLA, findL_mem]
    obtain ⟨n, h1, h2, h3⟩ := hx
    rw [hitB_app, Bool.and_eq_true] at h2
    exact ⟨n, h1, h2.1, h3⟩
  have hba : lb ≤ la := by
    rw [← hla, ← hlb, ← hLA, ← hLB, findL_len, findL_len]
    rw [← List.countP_eq_length_filter, ← List.countP_eq_length_filter]
    refine List.countP_mono_left (fun n hn h => ?_)
    rw [hitB_app, Bool.and_eq_true] at h
    exact h.1
  have HNEXT : Hid (∀ (k : Nat) (x y : It), LB[k]? = some x → LB[k + 1]? = some y → (Op.bytesLess y.nm.toList x.nm.toList = false) ∧ ((y.nm.toList == x.nm.toList) = false ∨ ((y.nm.toList == x.nm.toList) = true ∧ x.id < y.id))) := Lib.hid (fun k x y h1 h2 => findL_next hF (tq ++ tt) k x y (by rw [hLB]; exact h1) (by rw [hLB]; exact h2))
  have HSUB := Lib.hid hsub
  have HLA := Lib.hid hla
  have HLB := Lib.hid hlb
  have g1 : ¬ 9223372036854775807 < q.size + 1 := by have := HSZ.out; omega
  have g2 : ¬ 9223372036854775807 < q.size + 1 + t.size := by have := HSZ.out; omega
  have g3 : ¬ 9223372036854775807 < t.size + 1 := by have := HSZ.out; omega
  have g4 : ¬ 9223372036854775807 < t.size + 1 + q.size := by have := HSZ.out; omega
  have g5 : ¬ 9223372036854775807 < q.size + 1 + q.size := by have := HSZ.out; omega
  have g6 : ¬ la < lb := by omega
  have g7 : ¬ (la : Int) < (lb : Int) := by omega
  clear htq htt hF hLA hLB hla hlb e1 e2 hsub hba hqt hqq
  go_enter Tryz.func7, Tryz.ntmps7
  go_upto_region 9 with (first
        | (go_at_call 9; ((with_reducible refine (greatShelf_any s _ _ S1 _ HG.out).mono ?_); rintro e' wg ⟨rfl, b3⟩; have S1 := S1.next b3; have T1 := T1.next b3; have B1 := B1.below b3 B1.lt; have HB := btr HB HB.size b3; (try clear k0 k1 k2 k3 k4); have k0 := B1.cell_ 0; have k1 := B1.cell_ 1; have k2 := B1.cell_ 2; have k3 := B1.cell_ 3; have k4 := B1.cell_ 4; simp at k0 k1 k2 k3 k4; (try replace ra := SlE.next ra b3); (try replace rb := SlE.next rb b3); (try replace rc := SlE.next rc b3); (try replace rd := SlE.next rd b3); (try replace re := SlE.next re b3); clear b3))
        | (go_at_call 28; ((with_reducible refine (smay_any s _ _ S1 T1 _ HM.out).mono ?_); rintro e' wm ⟨rfl, b4⟩; have S1 := S1.next b4; have T1 := T1.next b4; have B1 := B1.below b4 B1.lt; have HB := btr HB HB.size b4; (try clear k0 k1 k2 k3 k4); have k0 := B1.cell_ 0; have k1 := B1.cell_ 1; have k2 := B1.cell_ 2; have k3 := B1.cell_ 3; have k4 := B1.cell_ 4; simp at k0 k1 k2 k3 k4; (try replace ra := SlE.next ra b4); (try replace rb := SlE.next rb b4); (try replace rc := SlE.next rc b4); (try replace rd := SlE.next rd b4); (try replace re := SlE.next re b4); clear b4))
        | (go_at_call 23; ((with_reducible refine (mayq_go q _ HQS.out _ HMQ.out).mono ?_); rintro e' wq ⟨rfl, b5⟩; have S1 := S1.next b5; have T1 := T1.next b5; have B1 := B1.below b5 B1.lt; have HB := btr HB HB.size b5; (try clear k0 k1 k2 k3 k4); have k0 := B1.cell_ 0; have k1 := B1.cell_ 1; have k2 := B1.cell_ 2; have k3 := B1.cell_ 3; have k4 := B1.cell_ 4; simp at k0 k1 k2 k3 k4; (try replace ra := SlE.next ra b5); (try replace rb := SlE.next rb b5); (try replace rc := SlE.next rc b5); (try replace rd := SlE.next rd b5); (try replace re := SlE.next re b5); clear b5))
        | (go_at_call 23; ((with_reducible refine (mayq_go t _ HTS.out _ HMT.out).mono ?_); rintro e' wq ⟨rfl, b5⟩; have S1 := S1.next b5; have T1 := T1.next b5; have B1 := B1.below b5 B1.lt; have HB := btr HB HB.size b5; (try clear k0 k1 k2 k3 k4); have k0 := B1.cell_ 0; have k1 := B1.cell_ 1; have k2 := B1.cell_ 2; have k3 := B1.cell_ 3; have k4 := B1.cell_ 4; simp at k0 k1 k2 k3 k4; (try replace ra := SlE.next ra b5); (try replace rb := SlE.next rb b5); (try replace rc := SlE.next rc b5); (try replace rd := SlE.next rd b5); (try replace re := SlE.next re b5); clear b5))
        | (go_at_call 12; ((with_reducible refine (HFA.out _ _ S1 T1).mono ?_); rintro e' wfa ⟨Aa, ca, rfl, ra, b6⟩; have S1 := S1.next b6; have T1 := T1.next b6; have B1 := B1.below b6 B1.lt; have HB := btr HB HB.size b6; (try clear k0 k1 k2 k3 k4); have k0 := B1.cell_ 0; have k1 := B1.cell_ 1; have k2 := B1.cell_ 2; have k3 := B1.cell_ 3; have k4 := B1.cell_ 4; simp at k0 k1 k2 k3 k4; (try replace rb := SlE.next rb b6); (try replace rc := SlE.next rc b6); (try replace rd := SlE.next rd b6); clear b6))
        | (go_at_call 12; ((with_reducible refine (HFB.out _ _ S1 T1).mono ?_); rintro e' wfb ⟨Ab, cb, rfl, rb, b6⟩; have S1 := S1.next b6; have T1 := T1.next b6; have B1 := B1.below b6 B1.lt; have HB := btr HB HB.size b6; (try clear k0 k1 k2 k3 k4); have k0 := B1.cell_ 0; have k1 := B1.cell_ 1; have k2 := B1.cell_ 2; have k3 := B1.cell_ 3; have k4 := B1.cell_ 4; simp at k0 k1 k2 k3 k4; (try replace ra := SlE.next ra b6); (try replace rc := SlE.next rc b6); (try replace rd := SlE.next rd b6); clear b6))
        | (go_at_call 12; ((with_reducible refine (HFC.out _ _ S1 T1).mono ?_); rintro e' wfc ⟨Ac, cc, rfl, rc, b6⟩; have S1 := S1.next b6; have T1 := T1.next b6; have B1 := B1.below b6 B1.lt; have HB := btr HB HB.size b6; (try clear k0 k1 k2 k3 k4); have k0 := B1.cell_ 0; have k1 := B1.cell_ 1; have k2 := B1.cell_ 2; have k3 := B1.cell_ 3; have k4 := B1.cell_ 4; simp at k0 k1 k2 k3 k4; (try replace ra := SlE.next ra b6); (try replace rb := SlE.next rb b6); (try replace rd := SlE.next rd b6); clear b6))
        | (go_at_call 12; ((with_reducible refine (HFD.out _ _ S1 T1).mono ?_); rintro e' wfd ⟨Ad, cd, rfl, rd, b6⟩; have S1 := S1.next b6; have T1 := T1.next b6; have B1 := B1.below b6 B1.lt; have HB := btr HB HB.size b6; (try clear k0 k1 k2 k3 k4); have k0 := B1.cell_ 0; have k1 := B1.cell_ 1; have k2 := B1.cell_ 2; have k3 := B1.cell_ 3; have k4 := B1.cell_ 4; simp at k0 k1 k2 k3 k4; (try replace ra := SlE.next ra b6); (try replace rb := SlE.next rb b6); (try replace rc := SlE.next rc b6); clear b6))
        | (go_at_call 18; ((with_reducible refine (sameItems_yes LB _ _ lb _ _ _ HLB.out (by omega) rb rc).mono ?_); rintro e' wi ⟨rfl, b7⟩; have S1 := S1.next b7; have T1 := T1.next b7; have B1 := B1.below b7 B1.lt; have HB := btr HB HB.size b7; (try clear k0 k1 k2 k3 k4); have k0 := B1.cell_ 0; have k1 := B1.cell_ 1; have k2 := B1.cell_ 2; have k3 := B1.cell_ 3; have k4 := B1.cell_ 4; simp at k0 k1 k2 k3 k4; (try replace ra := SlE.next ra b7); (try replace rb := SlE.next rb b7); (try replace rc := SlE.next rc b7); (try replace rd := SlE.next rd b7); (try replace re := SlE.next re b7); clear b7))
        | (go_at_call 18; ((with_reducible refine (sameItems_yes LA _ _ la _ _ _ HLA.out (by omega) rd ra).mono ?_); rintro e' wj ⟨rfl, b8⟩; have S1 := S1.next b8; have T1 := T1.next b8; have B1 := B1.below b8 B1.lt; have HB := btr HB HB.size b8; (try clear k0 k1 k2 k3 k4); have k0 := B1.cell_ 0; have k1 := B1.cell_ 1; have k2 := B1.cell_ 2; have k3 := B1.cell_ 3; have k4 := B1.cell_ 4; simp at k0 k1 k2 k3 k4; (try replace ra := SlE.next ra b8); (try replace rb := SlE.next rb b8); (try replace rc := SlE.next rc b8); (try replace rd := SlE.next rd b8); (try replace re := SlE.next re b8); clear b8)))
  clear g1 g2 g3 g4 g5 g6 g7 hq ht eq et rc rd
  have hB0 := HB
  have hT0 := T1
  clear HB T1 S1 B1 k0 k1 k2 k3 k4
  obtain ⟨wF, hwF⟩ : ∃ V, V = wj := ⟨_, rfl⟩
  rw [← hwF] at hB0 hT0 ra rb ⊢
  clear hwF
  go_wp2_with fail
  go_loopw [15] (fun i wr => ∃ k : Nat, k ≤ lb ∧ i = .int .i64 k ∧ Below wF.heap.size wF wr) (fun i _ => lb - (intOf i).toNat)
  case atStart => exact ⟨0, by omega, rfl, Below.refl _ _⟩
  case round =>
    obtain ⟨k, hk, rfl, HBr⟩ := hrel
    by_cases hlt : k < lb
    · have hlx : k < LB.length := by have := HLB.out; omega
      have i0 : (0 : Int) ≤ (k : Int) := by omega
      have i1 : (k : Int) < (lb : Int) := by omega
      obtain ⟨y, hx⟩ : ∃ y, LB[k]? = some y := ⟨_, List.getElem?_eq_getElem hlx⟩
      obtain ⟨b2, o2, rfl, l2, q2⟩ := rb.at_ (by rw [List.length_map]; omega)
      have he : (LB.map itC)[k]? = some (itC y) := by rw [List.getElem?_map, hx]; rfl
      have HIN : Hid (∀ w_, Below wF.heap.size wF w_ → Calls Tryz.prog 30 #[.slice Aa la ca, .agg #[.int .i64 y.id, .string y.nm]] w_ fun e' w' => e' = .returned (.bool true) ∧ Below w_.heap.size w_ w') := Lib.hid (fun w_ h => in_go LA Aa la ca y w_ HLA.out (SlE.next ra h) (by omega) true (in_true (HSUB.out y (List.mem_of_getElem? hx))))
      have HY : Hid (∀ w_, Below wF.heap.size wF w_ → w_.cell? ⟨b2, o2 + k * 2, none⟩ = some (.int .i64 y.id) ∧ w_.cell? ⟨b2, o2 + k * 2 + 1, none⟩ = some (.string y.nm)) := Lib.hid (fun w_ h => ⟨(h.cell (p := ⟨b2, _, none⟩) l2).trans (q2 k _ he 0 _ rfl), (h.cell (p := ⟨b2, _, none⟩) l2).trans (q2 k _ he 1 _ rfl)⟩)
      have HE := drew_below HBr
      obtain ⟨y0, y1⟩ := HY.out _ HE
      rcases (show k = 0 ∨ ∃ j, k = j + 1 from by cases k with | zero => exact Or.inl rfl | succ j => exact Or.inr ⟨j, rfl⟩) with hk0 | ⟨j, hkj⟩
      · have g0 : decide (0 < k) = false := decide_eq_false (by omega)
        have QD : (Below wF.heap.size wF wr.drew ∧ wr.drew.cell? ⟨b2, o2 + k * 2, none⟩ = some (.int .i64 y.id) ∧ wr.drew.cell? ⟨b2, o2 + k * 2 + 1, none⟩ = some (.string y.nm)) := ⟨HE, y0, y1⟩
        clear hk0 hx he q2 hlx y0 y1
        go_upto_region 12 with fail
        refine wp_region_noPanic ?_
        refine wp_region_held_drew (S := (fun w_ => Below wF.heap.size wF w_ ∧ w_.cell? ⟨b2, o2 + k * 2, none⟩ = some (.int .i64 y.id) ∧ w_.cell? ⟨b2, o2 + k * 2 + 1, none⟩ = some (.string y.nm))) (by kernel_rfl) ?_ (fun hHeld => ?_)
        · (first | with_reducible exact QD | with_reducible exact hNext | assumption)
        refine tk 0 ⟨some 124, .move (.tmp 7), 29, "more.go:23", #[], none⟩ ?_; try simp only [Act.put, pz1, pz2, pz3]
        refine tk 1 ⟨some 125, .move (.tmp 9), 29, "more.go:23", #[], none⟩ ?_; try simp only [Act.put, pz1, pz2, pz3]
        refine tk 2 ⟨some 126, .move (.tmp 15), 3, "more.go:23", #[], none⟩ ?_; try simp only [Act.put, pz1, pz2, pz3]
        refine tk 3 ⟨some 127, .indexAddr 29 (.tmp 125) (.tmp 126), 0, "more.go:23", #[⟨1, .data⟩, ⟨2, .data⟩], none⟩ ?_; try simp only [Act.put, pz1, pz2, pz3]
        refine tk 4 ⟨some 128, .load 50 (.tmp 127), 50, "more.go:23", #[⟨3, .data⟩], none⟩ ?_; try simp only [Act.put, pz1, pz2, pz3]
        refine wpAnyH_ready (rs := [5]) (by kernel_rfl) (by simp) ?_
        refine AllReadyH.cons (o := ⟨some 129, .call { callee := .value (.func 30), args := #[.tmp 124, .tmp 128], argTypes := #[29, 50] }, 4, "more.go:23", #[⟨0, .data⟩, ⟨4, .data⟩], none⟩) rfl (fun K hK => ?_) AllReadyH.nil
        go_simp
        (go_at_call 30; ((with_reducible refine (HIN.out _ hHeld.1).mono ?_); rintro e' w5 ⟨rfl, b5⟩; have HZ := btr hHeld.1 hHeld.1.size b5; have hNext : (Below wF.heap.size wF w5 ∧ w5.cell? ⟨b2, o2 + k * 2, none⟩ = some (.int .i64 y.id) ∧ w5.cell? ⟨b2, o2 + k * 2 + 1, none⟩ = some (.string y.nm)) := ⟨HZ, HY.out _ HZ⟩))
        go_wp2_with fail
        refine hK.out _ _ ?_ (fun hNew => ?_)
        · (first | with_reducible exact QD | with_reducible exact hNext | assumption)
        clear hK K hHeld
        have hHeld := hNew
        clear hNew
        try simp only [Act.put, pz1, pz2, pz3]
        refine tk 6 ⟨some 130, .unOp .not 4 (.tmp 129), 4, "more.go:23", #[⟨5, .data⟩], none⟩ ?_; try simp only [Act.put, pz1, pz2, pz3]
        refine tk 7 ⟨some 131, .move (.tmp 130), 4, "more.go:23", #[⟨6, .data⟩, ⟨5, .chain⟩], none⟩ ?_; try simp only [Act.put, pz1, pz2, pz3]
        refine tk 8 ⟨some 132, .move (.tmp 15), 3, "more.go:23", #[⟨7, .guard⟩], some (7, false)⟩ ?_; try simp only [Act.put, pz1, pz2, pz3]
        refine tk 9 ⟨some 133, .binOp .gtr 3 (.tmp 132) (.const (.int .i64 0)) 3, 4, "more.go:23", #[⟨8, .data⟩, ⟨7, .guard⟩], some (7, false)⟩ ?_; try simp only [Act.put, pz1, pz2, pz3]
        refine tk 10 ⟨some 134, .move (.tmp 133), 4, "more.go:23", #[⟨9, .data⟩, ⟨7, .chain⟩, ⟨7, .guard⟩], some (7, false)⟩ ?_; try simp only [Act.put, pz1, pz2, pz3]
        refine tu 11 ⟨some 135, .move (.tmp 9), 29, "more.go:23", #[⟨10, .guard⟩], some (10, true)⟩ ?_
        try simp only [Act.put, pz1, pz2, pz3]
        refine tu 12 ⟨some 136, .move (.tmp 15), 3, "more.go:23", #[⟨10, .guard⟩], some (10, true)⟩ ?_
        try simp only [Act.put, pz1, pz2, pz3]
        refine tu 13 ⟨some 137, .indexAddr 29 (.tmp 135) (.tmp 136), 0, "more.go:23", #[⟨11, .data⟩, ⟨12, .data⟩, ⟨10, .guard⟩], some (10, true)⟩ ?_
        try simp only [Act.put, pz1, pz2, pz3]
        refine tu 14 ⟨some 138, .fieldAddr 50 (.tmp 137) 1, 0, "more.go:23", #[⟨13, .data⟩, ⟨10, .guard⟩], some (10, true)⟩ ?_
        try simp only [Act.put, pz1, pz2, pz3]
        refine tu 15 ⟨some 139, .load 9 (.tmp 138), 9, "more.go:23", #[⟨14, .data⟩, ⟨10, .guard⟩], some (10, true)⟩ ?_
        try simp only [Act.put, pz1, pz2, pz3]
        refine tu 16 ⟨some 140, .move (.tmp 9), 29, "more.go:23", #[⟨10, .guard⟩], some (10, true)⟩ ?_
        try simp only [Act.put, pz1, pz2, pz3]
        refine tu 17 ⟨some 141, .move (.tmp 15), 3, "more.go:23", #[⟨10, .guard⟩], some (10, true)⟩ ?_
        try simp only [Act.put, pz1, pz2, pz3]
        refine tu 18 ⟨some 142, .binOp .sub 3 (.tmp 141) (.const (.int .i64 1)) 3, 3, "more.go:23", #[⟨17, .data⟩, ⟨10, .guard⟩], some (10, true)⟩ ?_
        try simp only [Act.put, pz1, pz2, pz3]
        refine tu 19 ⟨some 143, .indexAddr 29 (.tmp 140) (.tmp 142), 0, "more.go:23", #[⟨16, .data⟩, ⟨18, .data⟩, ⟨10, .guard⟩], some (10, true)⟩ ?_
        try simp only [Act.put, pz1, pz2, pz3]
        refine tu 20 ⟨some 144, .fieldAddr 50 (.tmp 143) 1, 0, "more.go:23", #[⟨19, .data⟩, ⟨10, .guard⟩], some (10, true)⟩ ?_
        try simp only [Act.put, pz1, pz2, pz3]
        refine tu 21 ⟨some 145, .load 9 (.tmp 144), 9, "more.go:23", #[⟨20, .data⟩, ⟨10, .guard⟩], some (10, true)⟩ ?_
        try simp only [Act.put, pz1, pz2, pz3]
        refine tu 22 ⟨some 146, .binOp .lss 9 (.tmp 139) (.tmp 145) 9, 4, "more.go:23", #[⟨15, .data⟩, ⟨21, .data⟩, ⟨10, .guard⟩], some (10, true)⟩ ?_
        try simp only [Act.put, pz1, pz2, pz3]
        refine tu 23 ⟨some 147, .move (.tmp 146), 4, "more.go:23", #[⟨22, .data⟩, ⟨10, .chain⟩, ⟨10, .guard⟩], some (10, true)⟩ ?_
        try simp only [Act.put, pz1, pz2, pz3]
        refine tu 24 ⟨some 148, .move (.tmp 9), 29, "more.go:23", #[⟨23, .guard⟩], some (23, false)⟩ ?_
        try simp only [Act.put, pz1, pz2, pz3]
        refine tu 25 ⟨some 149, .move (.tmp 15), 3, "more.go:23", #[⟨23, .guard⟩], some (23, false)⟩ ?_
        try simp only [Act.put, pz1, pz2, pz3]
        refine tu 26 ⟨some 150, .indexAddr 29 (.tmp 148) (.tmp 149), 0, "more.go:23", #[⟨24, .data⟩, ⟨25, .data⟩, ⟨23, .guard⟩], some (23, false)⟩ ?_
        try simp only [Act.put, pz1, pz2, pz3]
        refine tu 27 ⟨some 151, .fieldAddr 50 (.tmp 150) 1, 0, "more.go:23", #[⟨26, .data⟩, ⟨23, .guard⟩], some (23, false)⟩ ?_
        try simp only [Act.put, pz1, pz2, pz3]
        refine tu 28 ⟨some 152, .load 9 (.tmp 151), 9, "more.go:23", #[⟨27, .data⟩, ⟨23, .guard⟩], some (23, false)⟩ ?_
        try simp only [Act.put, pz1, pz2, pz3]
        refine tu 29 ⟨some 153, .move (.tmp 9), 29, "more.go:23", #[⟨23, .guard⟩], some (23, false)⟩ ?_
        try simp only [Act.put, pz1, pz2, pz3]
        refine tu 30 ⟨some 154, .move (.tmp 15), 3, "more.go:23", #[⟨23, .guard⟩], some (23, false)⟩ ?_
        try simp only [Act.put, pz1, pz2, pz3]
        refine tu 31 ⟨some 155, .binOp .sub 3 (.tmp 154) (.const (.int .i64 1)) 3, 3, "more.go:23", #[⟨30, .data⟩, ⟨23, .guard⟩], some (23, false)⟩ ?_
        try simp only [Act.put, pz1, pz2, pz3]
        refine tu 32 ⟨some 156, .indexAddr 29 (.tmp 153) (.tmp 155), 0, "more.go:23", #[⟨29, .data⟩, ⟨31, .data⟩, ⟨23, .guard⟩], some (23, false)⟩ ?_
        try simp only [Act.put, pz1, pz2, pz3]
        refine tu 33 ⟨some 157, .fieldAddr 50 (.tmp 156) 1, 0, "more.go:23", #[⟨32, .data⟩, ⟨23, .guard⟩], some (23, false)⟩ ?_
        try simp only [Act.put, pz1, pz2, pz3]
        refine tu 34 ⟨some 158, .load 9 (.tmp 157), 9, "more.go:23", #[⟨33, .data⟩, ⟨23, .guard⟩], some (23, false)⟩ ?_
        try simp only [Act.put, pz1, pz2, pz3]
        refine tu 35 ⟨some 159, .binOp .eql 9 (.tmp 152) (.tmp 158) 9, 4, "more.go:23", #[⟨28, .data⟩, ⟨34, .data⟩, ⟨23, .guard⟩], some (23, false)⟩ ?_
        try simp only [Act.put, pz1, pz2, pz3]
        refine tu 36 ⟨some 160, .move (.tmp 159), 4, "more.go:23", #[⟨35, .data⟩, ⟨23, .chain⟩, ⟨23, .guard⟩], some (23, false)⟩ ?_
        try simp only [Act.put, pz1, pz2, pz3]
        refine tu 37 ⟨some 161, .move (.tmp 9), 29, "more.go:23", #[⟨36, .guard⟩], some (36, true)⟩ ?_
        try simp only [Act.put, pz1, pz2, pz3]
        refine tu 38 ⟨some 162, .move (.tmp 15), 3, "more.go:23", #[⟨36, .guard⟩], some (36, true)⟩ ?_
        try simp only [Act.put, pz1, pz2, pz3]
        refine tu 39 ⟨some 163, .indexAddr 29 (.tmp 161) (.tmp 162), 0, "more.go:23", #[⟨37, .data⟩, ⟨38, .data⟩, ⟨36, .guard⟩], some (36, true)⟩ ?_
        try simp only [Act.put, pz1, pz2, pz3]
        refine tu 40 ⟨some 164, .fieldAddr 50 (.tmp 163) 0, 0, "more.go:23", #[⟨39, .data⟩, ⟨36, .guard⟩], some (36, true)⟩ ?_
        try simp only [Act.put, pz1, pz2, pz3]
        refine tu 41 ⟨some 165, .load 3 (.tmp 164), 3, "more.go:23", #[⟨40, .data⟩, ⟨36, .guard⟩], some (36, true)⟩ ?_
        try simp only [Act.put, pz1, pz2, pz3]
        refine tu 42 ⟨some 166, .move (.tmp 9), 29, "more.go:23", #[⟨36, .guard⟩], some (36, true)⟩ ?_
        try simp only [Act.put, pz1, pz2, pz3]
        refine tu 43 ⟨some 167, .move (.tmp 15), 3, "more.go:23", #[⟨36, .guard⟩], some (36, true)⟩ ?_
        try simp only [Act.put, pz1, pz2, pz3]
        refine tu 44 ⟨some 168, .binOp .sub 3 (.tmp 167) (.const (.int .i64 1)) 3, 3, "more.go:23", #[⟨43, .data⟩, ⟨36, .guard⟩], some (36, true)⟩ ?_
        try simp only [Act.put, pz1, pz2, pz3]
        refine tu 45 ⟨some 169, .indexAddr 29 (.tmp 166) (.tmp 168), 0, "more.go:23", #[⟨42, .data⟩, ⟨44, .data⟩, ⟨36, .guard⟩], some (36, true)⟩ ?_
        try simp only [Act.put, pz1, pz2, pz3]
        refine tu 46 ⟨some 170, .fieldAddr 50 (.tmp 169) 0, 0, "more.go:23", #[⟨45, .data⟩, ⟨36, .guard⟩], some (36, true)⟩ ?_
        try simp only [Act.put, pz1, pz2, pz3]
        refine tu 47 ⟨some 171, .load 3 (.tmp 170), 3, "more.go:23", #[⟨46, .data⟩, ⟨36, .guard⟩], some (36, true)⟩ ?_
        try simp only [Act.put, pz1, pz2, pz3]
        refine tu 48 ⟨some 172, .binOp .leq 3 (.tmp 165) (.tmp 171) 3, 4, "more.go:23", #[⟨41, .data⟩, ⟨47, .data⟩, ⟨36, .guard⟩], some (36, true)⟩ ?_
        try simp only [Act.put, pz1, pz2, pz3]
        refine tu 49 ⟨some 173, .pick (.tmp 160) (.tmp 172) (.const (.bool false)), 4, "more.go:23", #[⟨36, .data⟩, ⟨48, .data⟩, ⟨23, .guard⟩], some (23, false)⟩ ?_
        try simp only [Act.put, pz1, pz2, pz3]
        refine tu 50 ⟨some 174, .pick (.tmp 147) (.const (.bool true)) (.tmp 173), 4, "more.go:23", #[⟨23, .data⟩, ⟨49, .data⟩, ⟨10, .guard⟩], some (10, true)⟩ ?_
        try simp only [Act.put, pz1, pz2, pz3]
        refine tk 51 ⟨some 175, .pick (.tmp 134) (.tmp 174) (.const (.bool false)), 4, "more.go:23", #[⟨10, .data⟩, ⟨50, .data⟩, ⟨7, .guard⟩], some (7, false)⟩ ?_; try simp only [Act.put, pz1, pz2, pz3]
        refine tk 52 ⟨some 176, .pick (.tmp 131) (.const (.bool true)) (.tmp 175), 4, "more.go:23", #[⟨7, .data⟩, ⟨51, .data⟩], none⟩ ?_; try simp only [Act.put, pz1, pz2, pz3]
        refine wpAnyH_done (by kernel_rfl) ?_ _
        refine NoPanic.normal ?_
        go_wp2_with fail
        go_roundw
        case rel => exact ⟨k + 1, by omega, by go_num, hHeld.1⟩
        case measure => simp [intOf]; omega
      · have hx0 : ∃ x, LB[j]? = some x := ⟨_, List.getElem?_eq_getElem (by omega)⟩
        obtain ⟨x, hx1⟩ := hx0
        have he1 : (LB.map itC)[j]? = some (itC x) := by rw [List.getElem?_map, hx1]; rfl
        have HX : Hid (∀ w_, Below wF.heap.size wF w_ → w_.cell? ⟨b2, o2 + j * 2, none⟩ = some (.int .i64 x.id) ∧ w_.cell? ⟨b2, o2 + j * 2 + 1, none⟩ = some (.string x.nm)) := Lib.hid (fun w_ h => ⟨(h.cell (p := ⟨b2, _, none⟩) l2).trans (q2 j _ he1 0 _ rfl), (h.cell (p := ⟨b2, _, none⟩) l2).trans (q2 j _ he1 1 _ rfl)⟩)
        obtain ⟨x0, x1⟩ := HX.out _ HE
        have hnx := HNEXT.out j x y hx1 (by rw [← hkj]; exact hx)
        have g0 : decide (0 < k) = true := decide_eq_true (by omega)
        have g1 : (k : Int) - 1 = (j : Int) := by omega
        have g2 : (j : Int) < (lb : Int) := by omega
        have g3 : (0 : Int) ≤ (j : Int) := by omega
        have g4 : IntKind.i64.wrap (j : Int) = (j : Int) := wrapS _ (by omega) (by omega)
        have QD : (Below wF.heap.size wF wr.drew ∧ wr.drew.cell? ⟨b2, o2 + k * 2, none⟩ = some (.int .i64 y.id) ∧ wr.drew.cell? ⟨b2, o2 + k * 2 + 1, none⟩ = some (.string y.nm) ∧ wr.drew.cell? ⟨b2, o2 + j * 2, none⟩ = some (.int .i64 x.id) ∧ wr.drew.cell? ⟨b2, o2 + j * 2 + 1, none⟩ = some (.string x.nm)) := ⟨HE, y0, y1, x0, x1⟩
        obtain ⟨u1, u2⟩ := hnx
        clear hkj hx hx1 he he1 q2 hlx y0 y1 x0 x1
        rcases u2 with u2 | ⟨u2, u3⟩
        · skip
          go_upto_region 12 with fail
          refine wp_region_noPanic ?_
          refine wp_region_held_drew (S := (fun w_ => Below wF.heap.size wF w_ ∧ w_.cell? ⟨b2, o2 + k * 2, none⟩ = some (.int .i64 y.id) ∧ w_.cell? ⟨b2, o2 + k * 2 + 1, none⟩ = some (.string y.nm) ∧ w_.cell? ⟨b2, o2 + j * 2, none⟩ = some (.int .i64 x.id) ∧ w_.cell? ⟨b2, o2 + j * 2 + 1, none⟩ = some (.string x.nm))) (by kernel_rfl) ?_ (fun hHeld => ?_)
          · (first | with_reducible exact QD | with_reducible exact hNext | assumption)
          refine tk 0 ⟨some 124, .move (.tmp 7), 29, "more.go:23", #[], none⟩ ?_; try simp only [Act.put, pz1, pz2, pz3]
          refine tk 1 ⟨some 125, .move (.tmp 9), 29, "more.go:23", #[], none⟩ ?_; try simp only [Act.put, pz1, pz2, pz3]
          refine tk 2 ⟨some 126, .move (.tmp 15), 3, "more.go:23", #[], none⟩ ?_; try simp only [Act.put, pz1, pz2, pz3]
          refine tk 3 ⟨some 127, .indexAddr 29 (.tmp 125) (.tmp 126), 0, "more.go:23", #[⟨1, .data⟩, ⟨2, .data⟩], none⟩ ?_; try simp only [Act.put, pz1, pz2, pz3]
          refine tk 4 ⟨some 128, .load 50 (.tmp 127), 50, "more.go:23", #[⟨3, .data⟩], none⟩ ?_; try simp only [Act.put, pz1, pz2, pz3]
          refine wpAnyH_ready (rs := [5]) (by kernel_rfl) (by simp) ?_
          refine AllReadyH.cons (o := ⟨some 129, .call { callee := .value (.func 30), args := #[.tmp 124, .tmp 128], argTypes := #[29, 50] }, 4, "more.go:23", #[⟨0, .data⟩, ⟨4, .data⟩], none⟩) rfl (fun K hK => ?_) AllReadyH.nil
          go_simp
          (go_at_call 30; ((with_reducible refine (HIN.out _ hHeld.1).mono ?_); rintro e' w5 ⟨rfl, b5⟩; have HZ := btr hHeld.1 hHeld.1.size b5; have hNext : (Below wF.heap.size wF w5 ∧ w5.cell? ⟨b2, o2 + k * 2, none⟩ = some (.int .i64 y.id) ∧ w5.cell? ⟨b2, o2 + k * 2 + 1, none⟩ = some (.string y.nm) ∧ w5.cell? ⟨b2, o2 + j * 2, none⟩ = some (.int .i64 x.id) ∧ w5.cell? ⟨b2, o2 + j * 2 + 1, none⟩ = some (.string x.nm)) := ⟨HZ, (HY.out _ HZ).1, (HY.out _ HZ).2, HX.out _ HZ⟩))
          go_wp2_with fail
          refine hK.out _ _ ?_ (fun hNew => ?_)
          · (first | with_reducible exact QD | with_reducible exact hNext | assumption)
          clear hK K hHeld
          have hHeld := hNew
          clear hNew
          try simp only [Act.put, pz1, pz2, pz3]
          refine tk 6 ⟨some 130, .unOp .not 4 (.tmp 129), 4, "more.go:23", #[⟨5, .data⟩], none⟩ ?_; try simp only [Act.put, pz1, pz2, pz3]
          refine tk 7 ⟨some 131, .move (.tmp 130), 4, "more.go:23", #[⟨6, .data⟩, ⟨5, .chain⟩], none⟩ ?_; try simp only [Act.put, pz1, pz2, pz3]
          refine tk 8 ⟨some 132, .move (.tmp 15), 3, "more.go:23", #[⟨7, .guard⟩], some (7, false)⟩ ?_; try simp only [Act.put, pz1, pz2, pz3]
          refine tk 9 ⟨some 133, .binOp .gtr 3 (.tmp 132) (.const (.int .i64 0)) 3, 4, "more.go:23", #[⟨8, .data⟩, ⟨7, .guard⟩], some (7, false)⟩ ?_; try simp only [Act.put, pz1, pz2, pz3]
          refine tk 10 ⟨some 134, .move (.tmp 133), 4, "more.go:23", #[⟨9, .data⟩, ⟨7, .chain⟩, ⟨7, .guard⟩], some (7, false)⟩ ?_; try simp only [Act.put, pz1, pz2, pz3]
          refine tk 11 ⟨some 135, .move (.tmp 9), 29, "more.go:23", #[⟨10, .guard⟩], some (10, true)⟩ ?_; try simp only [Act.put, pz1, pz2, pz3]
          refine tk 12 ⟨some 136, .move (.tmp 15), 3, "more.go:23", #[⟨10, .guard⟩], some (10, true)⟩ ?_; try simp only [Act.put, pz1, pz2, pz3]
          refine tk 13 ⟨some 137, .indexAddr 29 (.tmp 135) (.tmp 136), 0, "more.go:23", #[⟨11, .data⟩, ⟨12, .data⟩, ⟨10, .guard⟩], some (10, true)⟩ ?_; try simp only [Act.put, pz1, pz2, pz3]
          refine tk 14 ⟨some 138, .fieldAddr 50 (.tmp 137) 1, 0, "more.go:23", #[⟨13, .data⟩, ⟨10, .guard⟩], some (10, true)⟩ ?_; try simp only [Act.put, pz1, pz2, pz3]
          refine tk 15 ⟨some 139, .load 9 (.tmp 138), 9, "more.go:23", #[⟨14, .data⟩, ⟨10, .guard⟩], some (10, true)⟩ ?_; try simp only [Act.put, pz1, pz2, pz3]
          refine tk 16 ⟨some 140, .move (.tmp 9), 29, "more.go:23", #[⟨10, .guard⟩], some (10, true)⟩ ?_; try simp only [Act.put, pz1, pz2, pz3]
          refine tk 17 ⟨some 141, .move (.tmp 15), 3, "more.go:23", #[⟨10, .guard⟩], some (10, true)⟩ ?_; try simp only [Act.put, pz1, pz2, pz3]
          refine tk 18 ⟨some 142, .binOp .sub 3 (.tmp 141) (.const (.int .i64 1)) 3, 3, "more.go:23", #[⟨17, .data⟩, ⟨10, .guard⟩], some (10, true)⟩ ?_; try simp only [Act.put, pz1, pz2, pz3]
          refine tk 19 ⟨some 143, .indexAddr 29 (.tmp 140) (.tmp 142), 0, "more.go:23", #[⟨16, .data⟩, ⟨18, .data⟩, ⟨10, .guard⟩], some (10, true)⟩ ?_; try simp only [Act.put, pz1, pz2, pz3]
          refine tk 20 ⟨some 144, .fieldAddr 50 (.tmp 143) 1, 0, "more.go:23", #[⟨19, .data⟩, ⟨10, .guard⟩], some (10, true)⟩ ?_; try simp only [Act.put, pz1, pz2, pz3]
          refine tk 21 ⟨some 145, .load 9 (.tmp 144), 9, "more.go:23", #[⟨20, .data⟩, ⟨10, .guard⟩], some (10, true)⟩ ?_; try simp only [Act.put, pz1, pz2, pz3]
          refine tk 22 ⟨some 146, .binOp .lss 9 (.tmp 139) (.tmp 145) 9, 4, "more.go:23", #[⟨15, .data⟩, ⟨21, .data⟩, ⟨10, .guard⟩], some (10, true)⟩ ?_; try simp only [Act.put, pz1, pz2, pz3]
          refine tk 23 ⟨some 147, .move (.tmp 146), 4, "more.go:23", #[⟨22, .data⟩, ⟨10, .chain⟩, ⟨10, .guard⟩], some (10, true)⟩ ?_; try simp only [Act.put, pz1, pz2, pz3]
          refine tk 24 ⟨some 148, .move (.tmp 9), 29, "more.go:23", #[⟨23, .guard⟩], some (23, false)⟩ ?_; try simp only [Act.put, pz1, pz2, pz3]
          refine tk 25 ⟨some 149, .move (.tmp 15), 3, "more.go:23", #[⟨23, .guard⟩], some (23, false)⟩ ?_; try simp only [Act.put, pz1, pz2, pz3]
          refine tk 26 ⟨some 150, .indexAddr 29 (.tmp 148) (.tmp 149), 0, "more.go:23", #[⟨24, .data⟩, ⟨25, .data⟩, ⟨23, .guard⟩], some (23, false)⟩ ?_; try simp only [Act.put, pz1, pz2, pz3]
          refine tk 27 ⟨some 151, .fieldAddr 50 (.tmp 150) 1, 0, "more.go:23", #[⟨26, .data⟩, ⟨23, .guard⟩], some (23, false)⟩ ?_; try simp only [Act.put, pz1, pz2, pz3]
          refine tk 28 ⟨some 152, .load 9 (.tmp 151), 9, "more.go:23", #[⟨27, .data⟩, ⟨23, .guard⟩], some (23, false)⟩ ?_; try simp only [Act.put, pz1, pz2, pz3]
          refine tk 29 ⟨some 153, .move (.tmp 9), 29, "more.go:23", #[⟨23, .guard⟩], some (23, false)⟩ ?_; try simp only [Act.put, pz1, pz2, pz3]
          refine tk 30 ⟨some 154, .move (.tmp 15), 3, "more.go:23", #[⟨23, .guard⟩], some (23, false)⟩ ?_; try simp only [Act.put, pz1, pz2, pz3]
          refine tk 31 ⟨some 155, .binOp .sub 3 (.tmp 154) (.const (.int .i64 1)) 3, 3, "more.go:23", #[⟨30, .data⟩, ⟨23, .guard⟩], some (23, false)⟩ ?_; try simp only [Act.put, pz1, pz2, pz3]
          refine tk 32 ⟨some 156, .indexAddr 29 (.tmp 153) (.tmp 155), 0, "more.go:23", #[⟨29, .data⟩, ⟨31, .data⟩, ⟨23, .guard⟩], some (23, false)⟩ ?_; try simp only [Act.put, pz1, pz2, pz3]
          refine tk 33 ⟨some 157, .fieldAddr 50 (.tmp 156) 1, 0, "more.go:23", #[⟨32, .data⟩, ⟨23, .guard⟩], some (23, false)⟩ ?_; try simp only [Act.put, pz1, pz2, pz3]
          refine tk 34 ⟨some 158, .load 9 (.tmp 157), 9, "more.go:23", #[⟨33, .data⟩, ⟨23, .guard⟩], some (23, false)⟩ ?_; try simp only [Act.put, pz1, pz2, pz3]
          refine tk 35 ⟨some 159, .binOp .eql 9 (.tmp 152) (.tmp 158) 9, 4, "more.go:23", #[⟨28, .data⟩, ⟨34, .data⟩, ⟨23, .guard⟩], some (23, false)⟩ ?_; try simp only [Act.put, pz1, pz2, pz3]
          refine tk 36 ⟨some 160, .move (.tmp 159), 4, "more.go:23", #[⟨35, .data⟩, ⟨23, .chain⟩, ⟨23, .guard⟩], some (23, false)⟩ ?_; try simp only [Act.put, pz1, pz2, pz3]
          refine tu 37 ⟨some 161, .move (.tmp 9), 29, "more.go:23", #[⟨36, .guard⟩], some (36, true)⟩ ?_
          try simp only [Act.put, pz1, pz2, pz3]
          refine tu 38 ⟨some 162, .move (.tmp 15), 3, "more.go:23", #[⟨36, .guard⟩], some (36, true)⟩ ?_
          try simp only [Act.put, pz1, pz2, pz3]
          refine tu 39 ⟨some 163, .indexAddr 29 (.tmp 161) (.tmp 162), 0, "more.go:23", #[⟨37, .data⟩, ⟨38, .data⟩, ⟨36, .guard⟩], some (36, true)⟩ ?_
          try simp only [Act.put, pz1, pz2, pz3]
          refine tu 40 ⟨some 164, .fieldAddr 50 (.tmp 163) 0, 0, "more.go:23", #[⟨39, .data⟩, ⟨36, .guard⟩], some (36, true)⟩ ?_
          try simp only [Act.put, pz1, pz2, pz3]
          refine tu 41 ⟨some 165, .load 3 (.tmp 164), 3, "more.go:23", #[⟨40, .data⟩, ⟨36, .guard⟩], some (36, true)⟩ ?_
          try simp only [Act.put, pz1, pz2, pz3]
          refine tu 42 ⟨some 166, .move (.tmp 9), 29, "more.go:23", #[⟨36, .guard⟩], some (36, true)⟩ ?_
          try simp only [Act.put, pz1, pz2, pz3]
          refine tu 43 ⟨some 167, .move (.tmp 15), 3, "more.go:23", #[⟨36, .guard⟩], some (36, true)⟩ ?_
          try simp only [Act.put, pz1, pz2, pz3]
          refine tu 44 ⟨some 168, .binOp .sub 3 (.tmp 167) (.const (.int .i64 1)) 3, 3, "more.go:23", #[⟨43, .data⟩, ⟨36, .guard⟩], some (36, true)⟩ ?_
          try simp only [Act.put, pz1, pz2, pz3]
          refine tu 45 ⟨some 169, .indexAddr 29 (.tmp 166) (.tmp 168), 0, "more.go:23", #[⟨42, .data⟩, ⟨44, .data⟩, ⟨36, .guard⟩], some (36, true)⟩ ?_
          try simp only [Act.put, pz1, pz2, pz3]
          refine tu 46 ⟨some 170, .fieldAddr 50 (.tmp 169) 0, 0, "more.go:23", #[⟨45, .data⟩, ⟨36, .guard⟩], some (36, true)⟩ ?_
          try simp only [Act.put, pz1, pz2, pz3]
          refine tu 47 ⟨some 171, .load 3 (.tmp 170), 3, "more.go:23", #[⟨46, .data⟩, ⟨36, .guard⟩], some (36, true)⟩ ?_
          try simp only [Act.put, pz1, pz2, pz3]
          refine tu 48 ⟨some 172, .binOp .leq 3 (.tmp 165) (.tmp 171) 3, 4, "more.go:23", #[⟨41, .data⟩, ⟨47, .data⟩, ⟨36, .guard⟩], some (36, true)⟩ ?_
          try simp only [Act.put, pz1, pz2, pz3]
          refine tk 49 ⟨some 173, .pick (.tmp 160) (.tmp 172) (.const (.bool false)), 4, "more.go:23", #[⟨36, .data⟩, ⟨48, .data⟩, ⟨23, .guard⟩], some (23, false)⟩ ?_; try simp only [Act.put, pz1, pz2, pz3]
          refine tk 50 ⟨some 174, .pick (.tmp 147) (.const (.bool true)) (.tmp 173), 4, "more.go:23", #[⟨23, .data⟩, ⟨49, .data⟩, ⟨10, .guard⟩], some (10, true)⟩ ?_; try simp only [Act.put, pz1, pz2, pz3]
          refine tk 51 ⟨some 175, .pick (.tmp 134) (.tmp 174) (.const (.bool false)), 4, "more.go:23", #[⟨10, .data⟩, ⟨50, .data⟩, ⟨7, .guard⟩], some (7, false)⟩ ?_; try simp only [Act.put, pz1, pz2, pz3]
          refine tk 52 ⟨some 176, .pick (.tmp 131) (.const (.bool true)) (.tmp 175), 4, "more.go:23", #[⟨7, .data⟩, ⟨51, .data⟩], none⟩ ?_; try simp only [Act.put, pz1, pz2, pz3]
          refine wpAnyH_done (by kernel_rfl) ?_ _
          refine NoPanic.normal ?_
          go_wp2_with fail
          go_roundw
          case rel => exact ⟨k + 1, by omega, by go_num, hHeld.1⟩
          case measure => simp [intOf]; omega
        · have u4 : ¬ y.id ≤ x.id := by omega
          go_upto_region 12 with fail
          refine wp_region_noPanic ?_
          refine wp_region_held_drew (S := (fun w_ => Below wF.heap.size wF w_ ∧ w_.cell? ⟨b2, o2 + k * 2, none⟩ = some (.int .i64 y.id) ∧ w_.cell? ⟨b2, o2 + k * 2 + 1, none⟩ = some (.string y.nm) ∧ w_.cell? ⟨b2, o2 + j * 2, none⟩ = some (.int .i64 x.id) ∧ w_.cell? ⟨b2, o2 + j * 2 + 1, none⟩ = some (.string x.nm))) (by kernel_rfl) ?_ (fun hHeld => ?_)
          · (first | with_reducible exact QD | with_reducible exact hNext | assumption)
          refine tk 0 ⟨some 124, .move (.tmp 7), 29, "more.go:23", #[], none⟩ ?_; try simp only [Act.put, pz1, pz2, pz3]
          refine tk 1 ⟨some 125, .move (.tmp 9), 29, "more.go:23", #[], none⟩ ?_; try simp only [Act.put, pz1, pz2, pz3]
          refine tk 2 ⟨some 126, .move (.tmp 15), 3, "more.go:23", #[], none⟩ ?_; try simp only [Act.put, pz1, pz2, pz3]
          refine tk 3 ⟨some 127, .indexAddr 29 (.tmp 125) (.tmp 126), 0, "more.go:23", #[⟨1, .data⟩, ⟨2, .data⟩], none⟩ ?_; try simp only [Act.put, pz1, pz2, pz3]
          refine tk 4 ⟨some 128, .load 50 (.tmp 127), 50, "more.go:23", #[⟨3, .data⟩], none⟩ ?_; try simp only [Act.put, pz1, pz2, pz3]
          refine wpAnyH_ready (rs := [5]) (by kernel_rfl) (by simp) ?_
          refine AllReadyH.cons (o := ⟨some 129, .call { callee := .value (.func 30), args := #[.tmp 124, .tmp 128], argTypes := #[29, 50] }, 4, "more.go:23", #[⟨0, .data⟩, ⟨4, .data⟩], none⟩) rfl (fun K hK => ?_) AllReadyH.nil
          go_simp
          (go_at_call 30; ((with_reducible refine (HIN.out _ hHeld.1).mono ?_); rintro e' w5 ⟨rfl, b5⟩; have HZ := btr hHeld.1 hHeld.1.size b5; have hNext : (Below wF.heap.size wF w5 ∧ w5.cell? ⟨b2, o2 + k * 2, none⟩ = some (.int .i64 y.id) ∧ w5.cell? ⟨b2, o2 + k * 2 + 1, none⟩ = some (.string y.nm) ∧ w5.cell? ⟨b2, o2 + j * 2, none⟩ = some (.int .i64 x.id) ∧ w5.cell? ⟨b2, o2 + j * 2 + 1, none⟩ = some (.string x.nm)) := ⟨HZ, (HY.out _ HZ).1, (HY.out _ HZ).2, HX.out _ HZ⟩))
          go_wp2_with fail
          refine hK.out _ _ ?_ (fun hNew => ?_)
          · (first | with_reducible exact QD | with_reducible exact hNext | assumption)
          clear hK K hHeld
          have hHeld := hNew
          clear hNew
          try simp only [Act.put, pz1, pz2, pz3]
          refine tk 6 ⟨some 130, .unOp .not 4 (.tmp 129), 4, "more.go:23", #[⟨5, .data⟩], none⟩ ?_; try simp only [Act.put, pz1, pz2, pz3]
          refine tk 7 ⟨some 131, .move (.tmp 130), 4, "more.go:23", #[⟨6, .data⟩, ⟨5, .chain⟩], none⟩ ?_; try simp only [Act.put, pz1, pz2, pz3]
          refine tk 8 ⟨some 132, .move (.tmp 15), 3, "more.go:23", #[⟨7, .guard⟩], some (7, false)⟩ ?_; try simp only [Act.put, pz1, pz2, pz3]
          refine tk 9 ⟨some 133, .binOp .gtr 3 (.tmp 132) (.const (.int .i64 0)) 3, 4, "more.go:23", #[⟨8, .data⟩, ⟨7, .guard⟩], some (7, false)⟩ ?_; try simp only [Act.put, pz1, pz2, pz3]
          refine tk 10 ⟨some 134, .move (.tmp 133), 4, "more.go:23", #[⟨9, .data⟩, ⟨7, .chain⟩, ⟨7, .guard⟩], some (7, false)⟩ ?_; try simp only [Act.put, pz1, pz2, pz3]
          refine tk 11 ⟨some 135, .move (.tmp 9), 29, "more.go:23", #[⟨10, .guard⟩], some (10, true)⟩ ?_; try simp only [Act.put, pz1, pz2, pz3]
          refine tk 12 ⟨some 136, .move (.tmp 15), 3, "more.go:23", #[⟨10, .guard⟩], some (10, true)⟩ ?_; try simp only [Act.put, pz1, pz2, pz3]
          refine tk 13 ⟨some 137, .indexAddr 29 (.tmp 135) (.tmp 136), 0, "more.go:23", #[⟨11, .data⟩, ⟨12, .data⟩, ⟨10, .guard⟩], some (10, true)⟩ ?_; try simp only [Act.put, pz1, pz2, pz3]
          refine tk 14 ⟨some 138, .fieldAddr 50 (.tmp 137) 1, 0, "more.go:23", #[⟨13, .data⟩, ⟨10, .guard⟩], some (10, true)⟩ ?_; try simp only [Act.put, pz1, pz2, pz3]
          refine tk 15 ⟨some 139, .load 9 (.tmp 138), 9, "more.go:23", #[⟨14, .data⟩, ⟨10, .guard⟩], some (10, true)⟩ ?_; try simp only [Act.put, pz1, pz2, pz3]
          refine tk 16 ⟨some 140, .move (.tmp 9), 29, "more.go:23", #[⟨10, .guard⟩], some (10, true)⟩ ?_; try simp only [Act.put, pz1, pz2, pz3]
          refine tk 17 ⟨some 141, .move (.tmp 15), 3, "more.go:23", #[⟨10, .guard⟩], some (10, true)⟩ ?_; try simp only [Act.put, pz1, pz2, pz3]
          refine tk 18 ⟨some 142, .binOp .sub 3 (.tmp 141) (.const (.int .i64 1)) 3, 3, "more.go:23", #[⟨17, .data⟩, ⟨10, .guard⟩], some (10, true)⟩ ?_; try simp only [Act.put, pz1, pz2, pz3]
          refine tk 19 ⟨some 143, .indexAddr 29 (.tmp 140) (.tmp 142), 0, "more.go:23", #[⟨16, .data⟩, ⟨18, .data⟩, ⟨10, .guard⟩], some (10, true)⟩ ?_; try simp only [Act.put, pz1, pz2, pz3]
          refine tk 20 ⟨some 144, .fieldAddr 50 (.tmp 143) 1, 0, "more.go:23", #[⟨19, .data⟩, ⟨10, .guard⟩], some (10, true)⟩ ?_; try simp only [Act.put, pz1, pz2, pz3]
          refine tk 21 ⟨some 145, .load 9 (.tmp 144), 9, "more.go:23", #[⟨20, .data⟩, ⟨10, .guard⟩], some (10, true)⟩ ?_; try simp only [Act.put, pz1, pz2, pz3]
          refine tk 22 ⟨some 146, .binOp .lss 9 (.tmp 139) (.tmp 145) 9, 4, "more.go:23", #[⟨15, .data⟩, ⟨21, .data⟩, ⟨10, .guard⟩], some (10, true)⟩ ?_; try simp only [Act.put, pz1, pz2, pz3]
          refine tk 23 ⟨some 147, .move (.tmp 146), 4, "more.go:23", #[⟨22, .data⟩, ⟨10, .chain⟩, ⟨10, .guard⟩], some (10, true)⟩ ?_; try simp only [Act.put, pz1, pz2, pz3]
          refine tk 24 ⟨some 148, .move (.tmp 9), 29, "more.go:23", #[⟨23, .guard⟩], some (23, false)⟩ ?_; try simp only [Act.put, pz1, pz2, pz3]
          refine tk 25 ⟨some 149, .move (.tmp 15), 3, "more.go:23", #[⟨23, .guard⟩], some (23, false)⟩ ?_; try simp only [Act.put, pz1, pz2, pz3]
          refine tk 26 ⟨some 150, .indexAddr 29 (.tmp 148) (.tmp 149), 0, "more.go:23", #[⟨24, .data⟩, ⟨25, .data⟩, ⟨23, .guard⟩], some (23, false)⟩ ?_; try simp only [Act.put, pz1, pz2, pz3]
          refine tk 27 ⟨some 151, .fieldAddr 50 (.tmp 150) 1, 0, "more.go:23", #[⟨26, .data⟩, ⟨23, .guard⟩], some (23, false)⟩ ?_; try simp only [Act.put, pz1, pz2, pz3]
          refine tk 28 ⟨some 152, .load 9 (.tmp 151), 9, "more.go:23", #[⟨27, .data⟩, ⟨23, .guard⟩], some (23, false)⟩ ?_; try simp only [Act.put, pz1, pz2, pz3]
          refine tk 29 ⟨some 153, .move (.tmp 9), 29, "more.go:23", #[⟨23, .guard⟩], some (23, false)⟩ ?_; try simp only [Act.put, pz1, pz2, pz3]
          refine tk 30 ⟨some 154, .move (.tmp 15), 3, "more.go:23", #[⟨23, .guard⟩], some (23, false)⟩ ?_; try simp only [Act.put, pz1, pz2, pz3]
          refine tk 31 ⟨some 155, .binOp .sub 3 (.tmp 154) (.const (.int .i64 1)) 3, 3, "more.go:23", #[⟨30, .data⟩, ⟨23, .guard⟩], some (23, false)⟩ ?_; try simp only [Act.put, pz1, pz2, pz3]
          refine tk 32 ⟨some 156, .indexAddr 29 (.tmp 153) (.tmp 155), 0, "more.go:23", #[⟨29, .data⟩, ⟨31, .data⟩, ⟨23, .guard⟩], some (23, false)⟩ ?_; try simp only [Act.put, pz1, pz2, pz3]
          refine tk 33 ⟨some 157, .fieldAddr 50 (.tmp 156) 1, 0, "more.go:23", #[⟨32, .data⟩, ⟨23, .guard⟩], some (23, false)⟩ ?_; try simp only [Act.put, pz1, pz2, pz3]
          refine tk 34 ⟨some 158, .load 9 (.tmp 157), 9, "more.go:23", #[⟨33, .data⟩, ⟨23, .guard⟩], some (23, false)⟩ ?_; try simp only [Act.put, pz1, pz2, pz3]
          refine tk 35 ⟨some 159, .binOp .eql 9 (.tmp 152) (.tmp 158) 9, 4, "more.go:23", #[⟨28, .data⟩, ⟨34, .data⟩, ⟨23, .guard⟩], some (23, false)⟩ ?_; try simp only [Act.put, pz1, pz2, pz3]
          refine tk 36 ⟨some 160, .move (.tmp 159), 4, "more.go:23", #[⟨35, .data⟩, ⟨23, .chain⟩, ⟨23, .guard⟩], some (23, false)⟩ ?_; try simp only [Act.put, pz1, pz2, pz3]
          refine tk 37 ⟨some 161, .move (.tmp 9), 29, "more.go:23", #[⟨36, .guard⟩], some (36, true)⟩ ?_; try simp only [Act.put, pz1, pz2, pz3]
          refine tk 38 ⟨some 162, .move (.tmp 15), 3, "more.go:23", #[⟨36, .guard⟩], some (36, true)⟩ ?_; try simp only [Act.put, pz1, pz2, pz3]
          refine tk 39 ⟨some 163, .indexAddr 29 (.tmp 161) (.tmp 162), 0, "more.go:23", #[⟨37, .data⟩, ⟨38, .data⟩, ⟨36, .guard⟩], some (36, true)⟩ ?_; try simp only [Act.put, pz1, pz2, pz3]
          refine tk 40 ⟨some 164, .fieldAddr 50 (.tmp 163) 0, 0, "more.go:23", #[⟨39, .data⟩, ⟨36, .guard⟩], some (36, true)⟩ ?_; try simp only [Act.put, pz1, pz2, pz3]
          refine tk 41 ⟨some 165, .load 3 (.tmp 164), 3, "more.go:23", #[⟨40, .data⟩, ⟨36, .guard⟩], some (36, true)⟩ ?_; try simp only [Act.put, pz1, pz2, pz3]
          refine tk 42 ⟨some 166, .move (.tmp 9), 29, "more.go:23", #[⟨36, .guard⟩], some (36, true)⟩ ?_; try simp only [Act.put, pz1, pz2, pz3]
          refine tk 43 ⟨some 167, .move (.tmp 15), 3, "more.go:23", #[⟨36, .guard⟩], some (36, true)⟩ ?_; try simp only [Act.put, pz1, pz2, pz3]
          refine tk 44 ⟨some 168, .binOp .sub 3 (.tmp 167) (.const (.int .i64 1)) 3, 3, "more.go:23", #[⟨43, .data⟩, ⟨36, .guard⟩], some (36, true)⟩ ?_; try simp only [Act.put, pz1, pz2, pz3]
          refine tk 45 ⟨some 169, .indexAddr 29 (.tmp 166) (.tmp 168), 0, "more.go:23", #[⟨42, .data⟩, ⟨44, .data⟩, ⟨36, .guard⟩], some (36, true)⟩ ?_; try simp only [Act.put, pz1, pz2, pz3]
          refine tk 46 ⟨some 170, .fieldAddr 50 (.tmp 169) 0, 0, "more.go:23", #[⟨45, .data⟩, ⟨36, .guard⟩], some (36, true)⟩ ?_; try simp only [Act.put, pz1, pz2, pz3]
          refine tk 47 ⟨some 171, .load 3 (.tmp 170), 3, "more.go:23", #[⟨46, .data⟩, ⟨36, .guard⟩], some (36, true)⟩ ?_; try simp only [Act.put, pz1, pz2, pz3]
          refine tk 48 ⟨some 172, .binOp .leq 3 (.tmp 165) (.tmp 171) 3, 4, "more.go:23", #[⟨41, .data⟩, ⟨47, .data⟩, ⟨36, .guard⟩], some (36, true)⟩ ?_; try simp only [Act.put, pz1, pz2, pz3]
          refine tk 49 ⟨some 173, .pick (.tmp 160) (.tmp 172) (.const (.bool false)), 4, "more.go:23", #[⟨36, .data⟩, ⟨48, .data⟩, ⟨23, .guard⟩], some (23, false)⟩ ?_; try simp only [Act.put, pz1, pz2, pz3]
          refine tk 50 ⟨some 174, .pick (.tmp 147) (.const (.bool true)) (.tmp 173), 4, "more.go:23", #[⟨23, .data⟩, ⟨49, .data⟩, ⟨10, .guard⟩], some (10, true)⟩ ?_; try simp only [Act.put, pz1, pz2, pz3]
          refine tk 51 ⟨some 175, .pick (.tmp 134) (.tmp 174) (.const (.bool false)), 4, "more.go:23", #[⟨10, .data⟩, ⟨50, .data⟩, ⟨7, .guard⟩], some (7, false)⟩ ?_; try simp only [Act.put, pz1, pz2, pz3]
          refine tk 52 ⟨some 176, .pick (.tmp 131) (.const (.bool true)) (.tmp 175), 4, "more.go:23", #[⟨7, .data⟩, ⟨51, .data⟩], none⟩ ?_; try simp only [Act.put, pz1, pz2, pz3]
          refine wpAnyH_done (by kernel_rfl) ?_ _
          refine NoPanic.normal ?_
          go_wp2_with fail
          go_roundw
          case rel => exact ⟨k + 1, by omega, by go_num, hHeld.1⟩
          case measure => simp [intOf]; omega
    · obtain rfl : lb = k := by omega
      have HB := btr hB0 hB0.size HBr
      have T1 := hT0.next HBr
      clear hlt HBr
      go_wp2_with (go_at_call 10; ((with_reducible refine (awakeK_any _ T1).mono ?_); rintro e' w9 ⟨rfl, b9⟩; have HB := btr HB HB.size b9; clear b9))
      go_ret
      exact ⟨rfl, HB⟩
end Go.Proofs.YteokeghenjobaaaGreatDoor
namespace Go.Proofs.YteokeghenjobaaaGreatDoor
open Go.ChangeShapes Go.WideShapes Go.ChangeAt Go.RowKit
theorem acc_eq : Rows.laid_unicode_utf8_acceptRanges = Lib.acceptData := by kernel_rfl
theorem first_eq : Rows.laid_unicode_utf8_first = Lib.firstData := Pinned.utf8First_eq
def laidTabs : List (String × DataW Unit) := [("unicode/utf8.acceptRanges", Lib.acceptData), ("unicode/utf8.first", Lib.firstData)]
theorem laid_eq : [("unicode/utf8.acceptRanges", Rows.laid_unicode_utf8_acceptRanges), ("unicode/utf8.first", Rows.laid_unicode_utf8_first)] = laidTabs := by rw [acc_eq, first_eq]; rfl
noncomputable def laidWorld (os : Os) : World :=
  let w0 := World.holding Tryz.prog os ⟨#[], #[], []⟩
  let put (h : Array Obj) (g : Nat) (cs : Array Value) : Array Obj := h.modify g fun
    | .cells _ t frozen => .cells cs t frozen
    | o => o
  let h1 := put w0.heap 1 (Lib.firstTab.map fun z => Value.int .u8 z).toArray
  let h2 := put h1 2 ((List.range 16).flatMap fun i => [Value.int .u8 (Lib.accLo i), Value.int .u8 (Lib.accHi i)]).toArray
  { w0 with heap := h2 }
theorem noHandle (w : World) : laidMetH Tryz.prog laidTabs w ↔ laidMet Tryz.prog laidTabs w := by
  have e : (laidTabs.filter fun x => x.2.handleName?.isSome) = [] := by kernel_rfl
  unfold laidMetH
  rw [e]
theorem laid_met (os : Os) (args : Array Value) : laidMetH Tryz.prog [("unicode/utf8.acceptRanges", Rows.laid_unicode_utf8_acceptRanges), ("unicode/utf8.first", Rows.laid_unicode_utf8_first)] ((laidWorld os).forCall (fun _ _ => 0) ⟨#[], args, []⟩).memory := by
  rw [laid_eq, noHandle]
  exact (LaidIn.of_run (l := laidTabs) [1, 2] 8 (by kernel_rfl) (by kernel_rfl) (by kernel_rfl) (by kernel_rfl)).met
theorem tabs_of {W : World} (h : laidMetH Tryz.prog [("unicode/utf8.acceptRanges", Rows.laid_unicode_utf8_acceptRanges), ("unicode/utf8.first", Rows.laid_unicode_utf8_first)] W) : Tabs W := by
  rw [laid_eq, noHandle] at h
  exact utf8Tabs_of_readsT (U8Types.of196 Tryz.laysValid) ⟨by kernel_rfl, by kernel_rfl, by kernel_rfl, by kernel_rfl, by kernel_rfl, by kernel_rfl, by kernel_rfl⟩ (Lib.laidMet.reads h (.tail _ (.head _))) (Lib.laidMet.reads h (.head _))
theorem string_value {H : Type} {enc : TypeId × Value → H} {P : Program} {w : World} {base : Nat} {spare : Nat → Bool} {held : Bool} {r : Reach} {b0 : Nat} {t : TypeId} {v : Value} {d : DataW H} {p : List MemPlace} (ht : P.underlying t = some .string) (hv : Value.okWide P w r b0 t v) (h : DataW.Trod enc P w base spare held t v d p) :
    ∃ s : ByteArray, v = .string s ∧ s.size ≤ maxLen := by
  obtain ⟨s, rfl, _, _, hs⟩ := Go.ChangeMaps.open_string ht hv h
  exact ⟨s, rfl, hs⟩
end Go.Proofs.YteokeghenjobaaaGreatDoor
