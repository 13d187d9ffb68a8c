/- The law's change by both. -/
import Derived.Test.YtokhapafpjejaaaGreatDoorSt8
import Derived.Test.YtokhapafpjejaaaGreatDoorSt2
import Derived.Test.YtokhapafpjejaaaGreatDoorSt1
import Derived.Test.YtokhapafpjejaaaGreatDoorSt7
import Derived.Test.YtokhapafpjejaaaGreatDoorRows
import Derived.SevenTiedAt
import Derived.LaidHandle
import Derived.Lib.LaidIn
import Derived.Lib.LaidU8T
import Derived.PinnedBridge
import Derived.ChangeMaps5
set_option linter.unusedSimpArgs false
set_option linter.unusedVariables false
set_option maxRecDepth 100000
set_option maxHeartbeats 16000000
namespace Go.Proofs.YtokhapafpjejaaaGreatDoor
open Go.ChangeShapes Go.WideShapes Go.ChangeAt Go.RowKit
attribute [local go_sem ↓] Go.wp_at_zero Go.wp_at_succ
theorem num_any (z : Int) (w : World) : Calls Tryz.prog 20 #[.int .i64 z] w fun e' w' => e' = .returned (.int .i64 z) ∧ Below w.heap.size w w' := by
  go_enter Tryz.func20, Tryz.ntmps20
  go_wp2_with fail
  go_ret
  exact ⟨rfl, Below.refl _ _⟩
theorem ShW.far {w w' : World} {base g : Nat} {v : Value} {s : Sf} (h : ShW w base v s) (hg : w.grownBy w' (some g)) (hb : g < base) : ShW w' base v s := by
  obtain ⟨Ab, cb, An, cn, rfl, h1, h2, -⟩ := h.parts
  exact ShW.make (h1.far hg hb) (h2.far hg hb)
theorem results_cc {P : Program} {fn : Func} {p q r : Tmp} {ty : TypeId} (h : fn.results = #[.cell p ty, .cell q ty, .tmp r]) (tmps : Array Value) (w : World) (g g2 : Nat) (t : TypeId) (cs cs2 : Array Value) (fr : Nat × Nat) (d : TypeDesc)
    (hp : tmps.getD p undef = .pointer (some ⟨g, 0, none⟩)) (hq : tmps.getD q undef = .pointer (some ⟨g2, 0, none⟩)) (hg : w.heap[g]? = some (.cells cs t fr)) (hg2 : w.heap[g2]? = some (.cells cs2 t fr))
    (hu : P.underlying ty = some d) (hd : (match d with | .struct _ | .array _ _ => true | _ => false) = true) (hi : (P.info? ty).map (·.size) = some cs.size) (hi2 : (P.info? ty).map (·.size) = some cs2.size) :
    (results fn tmps).run P w = .ok (.tuple #[.agg cs, .agg cs2, tmps.getD r undef]) w := by
  have hp' : tmps[p]?.getD undef = .pointer (some ⟨g, 0, none⟩) := by simpa using hp
  have hq' : tmps[q]?.getD undef = .pointer (some ⟨g2, 0, none⟩) := by simpa using hq
  simp [results, h, hp', hq', asAddr, run_loadVar_row w g t ty cs fr d hg hu hd hi, run_loadVar_row w g2 t ty cs2 fr d hg2 hu hd hi2]
def BoxW (w : World) (g base : Nat) (T : Sf) : Prop := ∃ Ab cb An cn, Blk w g 25 #[.int .i64 T.nb, .int .i64 T.nn, .int .i64 T.ns, .slice Ab T.bs.length cb, .slice An T.ts.length cn] ∧ ShW w base (.agg #[.int .i64 T.nb, .int .i64 T.nn, .int .i64 T.ns, .slice Ab T.bs.length cb, .slice An T.ts.length cn]) T
structure BothI (g : Nat) (w0 : World) (T : Sf) (n m f e : Value) (wx : World) : Prop where
  num : ∃ N : Int, n = .int .i64 N ∧ m = .int .i64 N
  err : ∃ c : Int, f = .int .i64 c ∧ e = .int .i64 c
  a : BoxW wx (g + 1 + 1 + 1 + 1) (g + 6) T
  b : BoxW wx (g + 1 + 1 + 1 + 1 + 1) (g + 6) T
  r1 : Blk wx (g + 1 + 1) 25 #[.int .i64 0, .int .i64 0, .int .i64 0, .slice none 0 0, .slice none 0 0]
  r2 : Blk wx (g + 1 + 1 + 1) 25 #[.int .i64 0, .int .i64 0, .int .i64 0, .slice none 0 0, .slice none 0 0]
  be : Below g w0 wx
  sz : g + 6 ≤ wx.heap.size
theorem both_any (s : Sf) (v : Value) (x : Ac) (w : World) (hS : ShR w w.heap.size v s) (hT : Tabs w) (hz : SzF s) (hx : x.nm.size ≤ 100000) :
    Calls Tryz.prog 9 #[v, .agg #[.int .i64 x.d, .int .i64 x.a, .int .i64 x.b, .string x.nm]] w fun e' w' => ∃ va vb, e' = .returned (.tuple #[va, vb, .bool true]) ∧ ShW w' w.heap.size va (resS s x) ∧ ShW w' w.heap.size vb (resS s x) ∧ Below w.heap.size w w' := by
  obtain ⟨d, a, b, nm⟩ := x
  have hS0 := hS
  obtain ⟨Ab, cb, An, cn, rfl, hB, hN, hcb, hmb, hcn, hmn⟩ := hS.ex
  clear hS
  have HB : Below w.heap.size w ((((((w.alloc (.cells #[.int .i64 s.nb, .int .i64 s.nn, .int .i64 s.ns, .slice Ab s.bs.length cb, .slice An s.ts.length cn] 25)).alloc (.cells #[.int .i64 d, .int .i64 a, .int .i64 b, .string nm] 27)).alloc (.cells #[.int .i64 0, .int .i64 0, .int .i64 0, .slice none 0 0, .slice none 0 0] 25)).alloc (.cells #[.int .i64 0, .int .i64 0, .int .i64 0, .slice none 0 0, .slice none 0 0] 25)).alloc (.cells #[.int .i64 0, .int .i64 0, .int .i64 0, .slice none 0 0, .slice none 0 0] 25)).alloc (.cells #[.int .i64 0, .int .i64 0, .int .i64 0, .slice none 0 0, .slice none 0 0] 25)) := (((((((Below.refl w.heap.size w).alloc (by first | (simp; done) | (simp; omega)) _).alloc (by first | (simp; done) | (simp; omega)) _).alloc (by first | (simp; done) | (simp; omega)) _).alloc (by first | (simp; done) | (simp; omega)) _).alloc (by first | (simp; done) | (simp; omega)) _).alloc (by first | (simp; done) | (simp; omega)) _)
  have B1 : Blk ((((((w.alloc (.cells #[.int .i64 s.nb, .int .i64 s.nn, .int .i64 s.ns, .slice Ab s.bs.length cb, .slice An s.ts.length cn] 25)).alloc (.cells #[.int .i64 d, .int .i64 a, .int .i64 b, .string nm] 27)).alloc (.cells #[.int .i64 0, .int .i64 0, .int .i64 0, .slice none 0 0, .slice none 0 0] 25)).alloc (.cells #[.int .i64 0, .int .i64 0, .int .i64 0, .slice none 0 0, .slice none 0 0] 25)).alloc (.cells #[.int .i64 0, .int .i64 0, .int .i64 0, .slice none 0 0, .slice none 0 0] 25)).alloc (.cells #[.int .i64 0, .int .i64 0, .int .i64 0, .slice none 0 0, .slice none 0 0] 25)) w.heap.size 25 #[.int .i64 s.nb, .int .i64 s.nn, .int .i64 s.ns, .slice Ab s.bs.length cb, .slice An s.ts.length cn] := by
    have := ((((((Blk.new_ w 25 #[.int .i64 s.nb, .int .i64 s.nn, .int .i64 s.ns, .slice Ab s.bs.length cb, .slice An s.ts.length cn]).alloc_ (.cells #[.int .i64 d, .int .i64 a, .int .i64 b, .string nm] 27)).alloc_ (.cells #[.int .i64 0, .int .i64 0, .int .i64 0, .slice none 0 0, .slice none 0 0] 25)).alloc_ (.cells #[.int .i64 0, .int .i64 0, .int .i64 0, .slice none 0 0, .slice none 0 0] 25)).alloc_ (.cells #[.int .i64 0, .int .i64 0, .int .i64 0, .slice none 0 0, .slice none 0 0] 25)).alloc_ (.cells #[.int .i64 0, .int .i64 0, .int .i64 0, .slice none 0 0, .slice none 0 0] 25))
    simpa using this
  have B2 : Blk ((((((w.alloc (.cells #[.int .i64 s.nb, .int .i64 s.nn, .int .i64 s.ns, .slice Ab s.bs.length cb, .slice An s.ts.length cn] 25)).alloc (.cells #[.int .i64 d, .int .i64 a, .int .i64 b, .string nm] 27)).alloc (.cells #[.int .i64 0, .int .i64 0, .int .i64 0, .slice none 0 0, .slice none 0 0] 25)).alloc (.cells #[.int .i64 0, .int .i64 0, .int .i64 0, .slice none 0 0, .slice none 0 0] 25)).alloc (.cells #[.int .i64 0, .int .i64 0, .int .i64 0, .slice none 0 0, .slice none 0 0] 25)).alloc (.cells #[.int .i64 0, .int .i64 0, .int .i64 0, .slice none 0 0, .slice none 0 0] 25)) (w.heap.size + 1) 27 #[.int .i64 d, .int .i64 a, .int .i64 b, .string nm] := by
    have := (((((Blk.new_ (w.alloc (.cells #[.int .i64 s.nb, .int .i64 s.nn, .int .i64 s.ns, .slice Ab s.bs.length cb, .slice An s.ts.length cn] 25)) 27 #[.int .i64 d, .int .i64 a, .int .i64 b, .string nm]).alloc_ (.cells #[.int .i64 0, .int .i64 0, .int .i64 0, .slice none 0 0, .slice none 0 0] 25)).alloc_ (.cells #[.int .i64 0, .int .i64 0, .int .i64 0, .slice none 0 0, .slice none 0 0] 25)).alloc_ (.cells #[.int .i64 0, .int .i64 0, .int .i64 0, .slice none 0 0, .slice none 0 0] 25)).alloc_ (.cells #[.int .i64 0, .int .i64 0, .int .i64 0, .slice none 0 0, .slice none 0 0] 25))
    simpa using this
  have B3 : Blk ((((((w.alloc (.cells #[.int .i64 s.nb, .int .i64 s.nn, .int .i64 s.ns, .slice Ab s.bs.length cb, .slice An s.ts.length cn] 25)).alloc (.cells #[.int .i64 d, .int .i64 a, .int .i64 b, .string nm] 27)).alloc (.cells #[.int .i64 0, .int .i64 0, .int .i64 0, .slice none 0 0, .slice none 0 0] 25)).alloc (.cells #[.int .i64 0, .int .i64 0, .int .i64 0, .slice none 0 0, .slice none 0 0] 25)).alloc (.cells #[.int .i64 0, .int .i64 0, .int .i64 0, .slice none 0 0, .slice none 0 0] 25)).alloc (.cells #[.int .i64 0, .int .i64 0, .int .i64 0, .slice none 0 0, .slice none 0 0] 25)) (w.heap.size + 1 + 1) 25 #[.int .i64 0, .int .i64 0, .int .i64 0, .slice none 0 0, .slice none 0 0] := by
    have := ((((Blk.new_ ((w.alloc (.cells #[.int .i64 s.nb, .int .i64 s.nn, .int .i64 s.ns, .slice Ab s.bs.length cb, .slice An s.ts.length cn] 25)).alloc (.cells #[.int .i64 d, .int .i64 a, .int .i64 b, .string nm] 27)) 25 #[.int .i64 0, .int .i64 0, .int .i64 0, .slice none 0 0, .slice none 0 0]).alloc_ (.cells #[.int .i64 0, .int .i64 0, .int .i64 0, .slice none 0 0, .slice none 0 0] 25)).alloc_ (.cells #[.int .i64 0, .int .i64 0, .int .i64 0, .slice none 0 0, .slice none 0 0] 25)).alloc_ (.cells #[.int .i64 0, .int .i64 0, .int .i64 0, .slice none 0 0, .slice none 0 0] 25))
    simpa using this
  have B4 : Blk ((((((w.alloc (.cells #[.int .i64 s.nb, .int .i64 s.nn, .int .i64 s.ns, .slice Ab s.bs.length cb, .slice An s.ts.length cn] 25)).alloc (.cells #[.int .i64 d, .int .i64 a, .int .i64 b, .string nm] 27)).alloc (.cells #[.int .i64 0, .int .i64 0, .int .i64 0, .slice none 0 0, .slice none 0 0] 25)).alloc (.cells #[.int .i64 0, .int .i64 0, .int .i64 0, .slice none 0 0, .slice none 0 0] 25)).alloc (.cells #[.int .i64 0, .int .i64 0, .int .i64 0, .slice none 0 0, .slice none 0 0] 25)).alloc (.cells #[.int .i64 0, .int .i64 0, .int .i64 0, .slice none 0 0, .slice none 0 0] 25)) (w.heap.size + 1 + 1 + 1) 25 #[.int .i64 0, .int .i64 0, .int .i64 0, .slice none 0 0, .slice none 0 0] := by
    have := (((Blk.new_ (((w.alloc (.cells #[.int .i64 s.nb, .int .i64 s.nn, .int .i64 s.ns, .slice Ab s.bs.length cb, .slice An s.ts.length cn] 25)).alloc (.cells #[.int .i64 d, .int .i64 a, .int .i64 b, .string nm] 27)).alloc (.cells #[.int .i64 0, .int .i64 0, .int .i64 0, .slice none 0 0, .slice none 0 0] 25)) 25 #[.int .i64 0, .int .i64 0, .int .i64 0, .slice none 0 0, .slice none 0 0]).alloc_ (.cells #[.int .i64 0, .int .i64 0, .int .i64 0, .slice none 0 0, .slice none 0 0] 25)).alloc_ (.cells #[.int .i64 0, .int .i64 0, .int .i64 0, .slice none 0 0, .slice none 0 0] 25))
    simpa using this
  have B5 : Blk ((((((w.alloc (.cells #[.int .i64 s.nb, .int .i64 s.nn, .int .i64 s.ns, .slice Ab s.bs.length cb, .slice An s.ts.length cn] 25)).alloc (.cells #[.int .i64 d, .int .i64 a, .int .i64 b, .string nm] 27)).alloc (.cells #[.int .i64 0, .int .i64 0, .int .i64 0, .slice none 0 0, .slice none 0 0] 25)).alloc (.cells #[.int .i64 0, .int .i64 0, .int .i64 0, .slice none 0 0, .slice none 0 0] 25)).alloc (.cells #[.int .i64 0, .int .i64 0, .int .i64 0, .slice none 0 0, .slice none 0 0] 25)).alloc (.cells #[.int .i64 0, .int .i64 0, .int .i64 0, .slice none 0 0, .slice none 0 0] 25)) (w.heap.size + 1 + 1 + 1 + 1) 25 #[.int .i64 0, .int .i64 0, .int .i64 0, .slice none 0 0, .slice none 0 0] := by
    have := ((Blk.new_ ((((w.alloc (.cells #[.int .i64 s.nb, .int .i64 s.nn, .int .i64 s.ns, .slice Ab s.bs.length cb, .slice An s.ts.length cn] 25)).alloc (.cells #[.int .i64 d, .int .i64 a, .int .i64 b, .string nm] 27)).alloc (.cells #[.int .i64 0, .int .i64 0, .int .i64 0, .slice none 0 0, .slice none 0 0] 25)).alloc (.cells #[.int .i64 0, .int .i64 0, .int .i64 0, .slice none 0 0, .slice none 0 0] 25)) 25 #[.int .i64 0, .int .i64 0, .int .i64 0, .slice none 0 0, .slice none 0 0]).alloc_ (.cells #[.int .i64 0, .int .i64 0, .int .i64 0, .slice none 0 0, .slice none 0 0] 25))
    simpa using this
  have B6 : Blk ((((((w.alloc (.cells #[.int .i64 s.nb, .int .i64 s.nn, .int .i64 s.ns, .slice Ab s.bs.length cb, .slice An s.ts.length cn] 25)).alloc (.cells #[.int .i64 d, .int .i64 a, .int .i64 b, .string nm] 27)).alloc (.cells #[.int .i64 0, .int .i64 0, .int .i64 0, .slice none 0 0, .slice none 0 0] 25)).alloc (.cells #[.int .i64 0, .int .i64 0, .int .i64 0, .slice none 0 0, .slice none 0 0] 25)).alloc (.cells #[.int .i64 0, .int .i64 0, .int .i64 0, .slice none 0 0, .slice none 0 0] 25)).alloc (.cells #[.int .i64 0, .int .i64 0, .int .i64 0, .slice none 0 0, .slice none 0 0] 25)) (w.heap.size + 1 + 1 + 1 + 1 + 1) 25 #[.int .i64 0, .int .i64 0, .int .i64 0, .slice none 0 0, .slice none 0 0] := by
    have := (Blk.new_ (((((w.alloc (.cells #[.int .i64 s.nb, .int .i64 s.nn, .int .i64 s.ns, .slice Ab s.bs.length cb, .slice An s.ts.length cn] 25)).alloc (.cells #[.int .i64 d, .int .i64 a, .int .i64 b, .string nm] 27)).alloc (.cells #[.int .i64 0, .int .i64 0, .int .i64 0, .slice none 0 0, .slice none 0 0] 25)).alloc (.cells #[.int .i64 0, .int .i64 0, .int .i64 0, .slice none 0 0, .slice none 0 0] 25)).alloc (.cells #[.int .i64 0, .int .i64 0, .int .i64 0, .slice none 0 0, .slice none 0 0] 25)) 25 #[.int .i64 0, .int .i64 0, .int .i64 0, .slice none 0 0, .slice none 0 0])
    simpa using this
  have S1 : ShR ((((((w.alloc (.cells #[.int .i64 s.nb, .int .i64 s.nn, .int .i64 s.ns, .slice Ab s.bs.length cb, .slice An s.ts.length cn] 25)).alloc (.cells #[.int .i64 d, .int .i64 a, .int .i64 b, .string nm] 27)).alloc (.cells #[.int .i64 0, .int .i64 0, .int .i64 0, .slice none 0 0, .slice none 0 0] 25)).alloc (.cells #[.int .i64 0, .int .i64 0, .int .i64 0, .slice none 0 0, .slice none 0 0] 25)).alloc (.cells #[.int .i64 0, .int .i64 0, .int .i64 0, .slice none 0 0, .slice none 0 0] 25)).alloc (.cells #[.int .i64 0, .int .i64 0, .int .i64 0, .slice none 0 0, .slice none 0 0] 25)) (((((((w.alloc (.cells #[.int .i64 s.nb, .int .i64 s.nn, .int .i64 s.ns, .slice Ab s.bs.length cb, .slice An s.ts.length cn] 25)).alloc (.cells #[.int .i64 d, .int .i64 a, .int .i64 b, .string nm] 27)).alloc (.cells #[.int .i64 0, .int .i64 0, .int .i64 0, .slice none 0 0, .slice none 0 0] 25)).alloc (.cells #[.int .i64 0, .int .i64 0, .int .i64 0, .slice none 0 0, .slice none 0 0] 25)).alloc (.cells #[.int .i64 0, .int .i64 0, .int .i64 0, .slice none 0 0, .slice none 0 0] 25)).alloc (.cells #[.int .i64 0, .int .i64 0, .int .i64 0, .slice none 0 0, .slice none 0 0] 25))).heap.size (.agg #[.int .i64 s.nb, .int .i64 s.nn, .int .i64 s.ns, .slice Ab s.bs.length cb, .slice An s.ts.length cn]) s := hS0.next HB
  have T1 := hT.next HB
  have HZ := Lib.hid hz
  have HX : Hid (nm.size ≤ 100000) := Lib.hid hx
  have hT0 := hT
  obtain ⟨W, hW⟩ : ∃ V : World, V = ((((((w.alloc (.cells #[.int .i64 s.nb, .int .i64 s.nn, .int .i64 s.ns, .slice Ab s.bs.length cb, .slice An s.ts.length cn] 25)).alloc (.cells #[.int .i64 d, .int .i64 a, .int .i64 b, .string nm] 27)).alloc (.cells #[.int .i64 0, .int .i64 0, .int .i64 0, .slice none 0 0, .slice none 0 0] 25)).alloc (.cells #[.int .i64 0, .int .i64 0, .int .i64 0, .slice none 0 0, .slice none 0 0] 25)).alloc (.cells #[.int .i64 0, .int .i64 0, .int .i64 0, .slice none 0 0, .slice none 0 0] 25)).alloc (.cells #[.int .i64 0, .int .i64 0, .int .i64 0, .slice none 0 0, .slice none 0 0] 25)) := ⟨_, rfl⟩
  have hsz : w.heap.size + 6 ≤ W.heap.size := by rw [hW]; simp
  have HSM := Lib.hid (res_small s ⟨d, a, b, nm⟩)
  clear hB hN hcb hmb hcn hmn hz hx hT
  go_enter Tryz.func9, Tryz.ntmps9
  go_upto_block 0 with fail
  rw [← hW] at HB B1 B2 B3 B4 B5 B6 S1 T1 ⊢
  clear hW
  go_cut [9, 10, 11, 12] (fun n m f e wx => BothI w.heap.size w (resS s ⟨d, a, b, nm⟩) n m f e wx)
  case first =>
    have hd : d = 0 ∨ d = 1 ∨ d = 2 ∨ d = 3 ∨ d = 4 ∨ d = 5 ∨ d = 6 ∨ (d ≠ 0 ∧ d ≠ 1 ∧ d ≠ 2 ∧ d ≠ 3 ∧ d ≠ 4 ∧ d ≠ 5 ∧ d ≠ 6) := by omega
    rcases hd with rfl | rfl | rfl | rfl | rfl | rfl | rfl | ⟨d0, d1, d2, d3, d4, d5, d6⟩
    · obtain ⟨c, hc⟩ : ∃ c, makeC s nm = c := ⟨_, rfl⟩
      obtain ⟨T, hTe⟩ : ∃ T, cond (c == 0) (makeS s nm) zeroSf = T := ⟨_, rfl⟩
      have hRT : resS s ⟨0, a, b, nm⟩ = T := by rw [← hTe, ← hc]; rfl
      obtain ⟨N, hN⟩ : ∃ N, cond (c == 0) s.nb 0 = N := ⟨_, rfl⟩
      have HN := Lib.hid hN
      clear hN
      have HRT := Lib.hid hRT
      have HC := Lib.hid hc
      have HR := Lib.hid hTe
      clear hc hTe hRT
      have k0 := B1.cell_ 0
      have k1 := B1.cell_ 1
      have k2 := B1.cell_ 2
      have k3 := B1.cell_ 3
      have k4 := B1.cell_ 4
      have y0 := B2.cell_ 0
      have y1 := B2.cell_ 1
      have y2 := B2.cell_ 2
      have y3 := B2.cell_ 3
      have u0 := B5.cell_ 0
      have u1 := B5.cell_ 1
      have u2 := B5.cell_ 2
      have u3 := B5.cell_ 3
      have u4 := B5.cell_ 4
      have fu0 := B5.free 0
      have fu1 := B5.free 1
      have fu2 := B5.free 2
      have fu3 := B5.free 3
      have fu4 := B5.free 4
      simp at k0 k1 k2 k3 k4 y0 y1 y2 y3 u0 u1 u2 u3 u4
      go_upto_region 7 with (go_at_call 29; ((with_reducible refine (make_all s _ nm _ S1 T1 _ HC.out _ HN.out _ HR.out).mono ?_); rintro e' w7 ⟨v7, rfl, hA1, b7⟩; have hA1 := hA1.base_ hsz; obtain ⟨A1, c1, D1, e1, rfl, hp1, hp2, -⟩ := hA1.parts; clear hp1 hp2; have B1 := B1.below b7 B1.lt; have B2 := B2.below b7 B2.lt; have B3 := B3.below b7 B3.lt; have B4 := B4.below b7 B4.lt; have B5 := B5.below b7 B5.lt; have B6 := B6.below b7 B6.lt; have S1 := S1.next b7; have T1 := T1.next b7; have HB := btr HB HB.size b7; have hsz := Nat.le_trans hsz b7.size; (try clear k0 k1 k2 k3 k4 y0 y1 y2 y3 u0 fu0 u1 fu1 u2 fu2 u3 fu3 u4 fu4); have k0 := B1.cell_ 0; have k1 := B1.cell_ 1; have k2 := B1.cell_ 2; have k3 := B1.cell_ 3; have k4 := B1.cell_ 4; have y0 := B2.cell_ 0; have y1 := B2.cell_ 1; have y2 := B2.cell_ 2; have y3 := B2.cell_ 3; have u0 := B5.cell_ 0; have u1 := B5.cell_ 1; have u2 := B5.cell_ 2; have u3 := B5.cell_ 3; have u4 := B5.cell_ 4; have fu0 := B5.free 0; have fu1 := B5.free 1; have fu2 := B5.free 2; have fu3 := B5.free 3; have fu4 := B5.free 4; simp at k0 k1 k2 k3 k4 y0 y1 y2 y3 u0 u1 u2 u3 u4; clear b7))
      have hg := st5_grown w7 (w.heap.size + 1 + 1 + 1 + 1) 0 (.int .i64 T.nb) (.int .i64 T.nn) (.int .i64 T.ns) (.slice A1 T.bs.length c1) (.slice D1 T.ts.length e1)
      have C1 := B1.grown hg (by omega)
      have C2 := B2.grown hg (by omega)
      have C3 := B3.grown hg (by omega)
      have C4 := B4.grown hg (by omega)
      have C5 := B5.st5_ (.int .i64 T.nb) (.int .i64 T.nn) (.int .i64 T.ns) (.slice A1 T.bs.length c1) (.slice D1 T.ts.length e1)
      have C6 := B6.grown hg (by omega)
      have HBn := below_grown HB hg (by omega) HB.size
      have S2 : ShR (st5 w7 (w.heap.size + 1 + 1 + 1 + 1) 0 (.int .i64 T.nb) (.int .i64 T.nn) (.int .i64 T.ns) (.slice A1 T.bs.length c1) (.slice D1 T.ts.length e1)) (st5 w7 (w.heap.size + 1 + 1 + 1 + 1) 0 (.int .i64 T.nb) (.int .i64 T.nn) (.int .i64 T.ns) (.slice A1 T.bs.length c1) (.slice D1 T.ts.length e1)).heap.size (.agg #[.int .i64 s.nb, .int .i64 s.nn, .int .i64 s.ns, .slice Ab s.bs.length cb, .slice An s.ts.length cn]) s := hS0.next HBn
      have T2 : Tabs (st5 w7 (w.heap.size + 1 + 1 + 1 + 1) 0 (.int .i64 T.nb) (.int .i64 T.nn) (.int .i64 T.ns) (.slice A1 T.bs.length c1) (.slice D1 T.ts.length e1)) := hT0.next HBn
      have hB1 := hA1.far hg (by omega)
      have hszn : w.heap.size + 6 ≤ (st5 w7 (w.heap.size + 1 + 1 + 1 + 1) 0 (.int .i64 T.nb) (.int .i64 T.nn) (.int .i64 T.ns) (.slice A1 T.bs.length c1) (.slice D1 T.ts.length e1)).heap.size := Nat.le_trans hsz hg.size
      clear hg
      obtain ⟨w8, hw8⟩ : ∃ V : World, V = (st5 w7 (w.heap.size + 1 + 1 + 1 + 1) 0 (.int .i64 T.nb) (.int .i64 T.nn) (.int .i64 T.ns) (.slice A1 T.bs.length c1) (.slice D1 T.ts.length e1)) := ⟨_, rfl⟩
      change Code.wp _ _ _ _ (st5 w7 (w.heap.size + 1 + 1 + 1 + 1) 0 (.int .i64 T.nb) (.int .i64 T.nn) (.int .i64 T.ns) (.slice A1 T.bs.length c1) (.slice D1 T.ts.length e1))
      rw [← hw8] at C1 C2 C3 C4 C5 C6 HBn S2 T2 hB1 hszn ⊢
      clear hw8 B1 B2 B3 B4 B5 B6 HB S1 T1 hA1 hsz k0 k1 k2 k3 k4 y0 y1 y2 y3 u0 fu0 u1 fu1 u2 fu2 u3 fu3 u4 fu4
      have B1 := C1
      have B2 := C2
      have B3 := C3
      have B4 := C4
      have B5 := C5
      have B6 := C6
      have HB := HBn
      have S1 := S2
      have T1 := T2
      have hA1 := hB1
      have hsz := hszn
      clear C1 C2 C3 C4 C5 C6 HBn S2 T2 hB1 hszn
      have k0 := B1.cell_ 0
      have k1 := B1.cell_ 1
      have k2 := B1.cell_ 2
      have k3 := B1.cell_ 3
      have k4 := B1.cell_ 4
      have y0 := B2.cell_ 0
      have y1 := B2.cell_ 1
      have y2 := B2.cell_ 2
      have y3 := B2.cell_ 3
      have u0 := B6.cell_ 0
      have u1 := B6.cell_ 1
      have u2 := B6.cell_ 2
      have u3 := B6.cell_ 3
      have u4 := B6.cell_ 4
      have fu0 := B6.free 0
      have fu1 := B6.free 1
      have fu2 := B6.free 2
      have fu3 := B6.free 3
      have fu4 := B6.free 4
      simp at k0 k1 k2 k3 k4 y0 y1 y2 y3 u0 u1 u2 u3 u4
      go_wp2_with (go_at_call 30; ((with_reducible refine (rmake_all s _ nm _ S1 HZ.out HX.out _ HC.out _ HN.out _ HR.out).mono ?_); rintro e' w9 ⟨v7, rfl, hA2, b7⟩; have hA1 := hA1.below b7; have hA2 := hA2.base_ hsz; obtain ⟨A2, c2, D2, e2, rfl, hp1, hp2, -⟩ := hA2.parts; clear hp1 hp2; have B1 := B1.below b7 B1.lt; have B2 := B2.below b7 B2.lt; have B3 := B3.below b7 B3.lt; have B4 := B4.below b7 B4.lt; have B5 := B5.below b7 B5.lt; have B6 := B6.below b7 B6.lt; have S1 := S1.next b7; have T1 := T1.next b7; have HB := btr HB HB.size b7; have hsz := Nat.le_trans hsz b7.size; (try clear k0 k1 k2 k3 k4 y0 y1 y2 y3 u0 fu0 u1 fu1 u2 fu2 u3 fu3 u4 fu4); have k0 := B1.cell_ 0; have k1 := B1.cell_ 1; have k2 := B1.cell_ 2; have k3 := B1.cell_ 3; have k4 := B1.cell_ 4; have y0 := B2.cell_ 0; have y1 := B2.cell_ 1; have y2 := B2.cell_ 2; have y3 := B2.cell_ 3; have u0 := B6.cell_ 0; have u1 := B6.cell_ 1; have u2 := B6.cell_ 2; have u3 := B6.cell_ 3; have u4 := B6.cell_ 4; have fu0 := B6.free 0; have fu1 := B6.free 1; have fu2 := B6.free 2; have fu3 := B6.free 3; have fu4 := B6.free 4; simp at k0 k1 k2 k3 k4 y0 y1 y2 y3 u0 u1 u2 u3 u4; clear b7))
      have hg := st5_grown w9 (w.heap.size + 1 + 1 + 1 + 1 + 1) 0 (.int .i64 T.nb) (.int .i64 T.nn) (.int .i64 T.ns) (.slice A2 T.bs.length c2) (.slice D2 T.ts.length e2)
      have C1 := B1.grown hg (by omega)
      have C2 := B2.grown hg (by omega)
      have C3 := B3.grown hg (by omega)
      have C4 := B4.grown hg (by omega)
      have C5 := B5.grown hg (by omega)
      have C6 := B6.st5_ (.int .i64 T.nb) (.int .i64 T.nn) (.int .i64 T.ns) (.slice A2 T.bs.length c2) (.slice D2 T.ts.length e2)
      have HBn := below_grown HB hg (by omega) HB.size
      have S2 : ShR (st5 w9 (w.heap.size + 1 + 1 + 1 + 1 + 1) 0 (.int .i64 T.nb) (.int .i64 T.nn) (.int .i64 T.ns) (.slice A2 T.bs.length c2) (.slice D2 T.ts.length e2)) (st5 w9 (w.heap.size + 1 + 1 + 1 + 1 + 1) 0 (.int .i64 T.nb) (.int .i64 T.nn) (.int .i64 T.ns) (.slice A2 T.bs.length c2) (.slice D2 T.ts.length e2)).heap.size (.agg #[.int .i64 s.nb, .int .i64 s.nn, .int .i64 s.ns, .slice Ab s.bs.length cb, .slice An s.ts.length cn]) s := hS0.next HBn
      have T2 : Tabs (st5 w9 (w.heap.size + 1 + 1 + 1 + 1 + 1) 0 (.int .i64 T.nb) (.int .i64 T.nn) (.int .i64 T.ns) (.slice A2 T.bs.length c2) (.slice D2 T.ts.length e2)) := hT0.next HBn
      have hB1 := hA1.far hg (by omega)
      have hB2 := hA2.far hg (by omega)
      have hszn : w.heap.size + 6 ≤ (st5 w9 (w.heap.size + 1 + 1 + 1 + 1 + 1) 0 (.int .i64 T.nb) (.int .i64 T.nn) (.int .i64 T.ns) (.slice A2 T.bs.length c2) (.slice D2 T.ts.length e2)).heap.size := Nat.le_trans hsz hg.size
      clear hg
      go_meet
      rw [HRT.out]
      refine ⟨⟨N, rfl, rfl⟩, ⟨c, rfl, rfl⟩, ⟨_, _, _, _, C5, hB1⟩, ⟨_, _, _, _, C6, hB2⟩, C3, C4, HBn, hszn⟩
    · obtain ⟨c, hc⟩ : ∃ c, renC s a nm = c := ⟨_, rfl⟩
      obtain ⟨T, hTe⟩ : ∃ T, cond (c == 0) (renS s a nm) zeroSf = T := ⟨_, rfl⟩
      have hRT : resS s ⟨1, a, b, nm⟩ = T := by rw [← hTe, ← hc]; rfl
      have HRT := Lib.hid hRT
      have HC := Lib.hid hc
      have HR := Lib.hid hTe
      clear hc hTe hRT
      have k0 := B1.cell_ 0
      have k1 := B1.cell_ 1
      have k2 := B1.cell_ 2
      have k3 := B1.cell_ 3
      have k4 := B1.cell_ 4
      have y0 := B2.cell_ 0
      have y1 := B2.cell_ 1
      have y2 := B2.cell_ 2
      have y3 := B2.cell_ 3
      have u0 := B5.cell_ 0
      have u1 := B5.cell_ 1
      have u2 := B5.cell_ 2
      have u3 := B5.cell_ 3
      have u4 := B5.cell_ 4
      have fu0 := B5.free 0
      have fu1 := B5.free 1
      have fu2 := B5.free 2
      have fu3 := B5.free 3
      have fu4 := B5.free 4
      simp at k0 k1 k2 k3 k4 y0 y1 y2 y3 u0 u1 u2 u3 u4
      go_upto_region 10 with (go_at_call 31; ((with_reducible refine (ren_all s _ a nm _ S1 T1 _ HC.out _ HR.out).mono ?_); rintro e' w7 ⟨v7, rfl, hA1, b7⟩; have hA1 := hA1.base_ hsz; obtain ⟨A1, c1, D1, e1, rfl, hp1, hp2, -⟩ := hA1.parts; clear hp1 hp2; have B1 := B1.below b7 B1.lt; have B2 := B2.below b7 B2.lt; have B3 := B3.below b7 B3.lt; have B4 := B4.below b7 B4.lt; have B5 := B5.below b7 B5.lt; have B6 := B6.below b7 B6.lt; have S1 := S1.next b7; have T1 := T1.next b7; have HB := btr HB HB.size b7; have hsz := Nat.le_trans hsz b7.size; (try clear k0 k1 k2 k3 k4 y0 y1 y2 y3 u0 fu0 u1 fu1 u2 fu2 u3 fu3 u4 fu4); have k0 := B1.cell_ 0; have k1 := B1.cell_ 1; have k2 := B1.cell_ 2; have k3 := B1.cell_ 3; have k4 := B1.cell_ 4; have y0 := B2.cell_ 0; have y1 := B2.cell_ 1; have y2 := B2.cell_ 2; have y3 := B2.cell_ 3; have u0 := B5.cell_ 0; have u1 := B5.cell_ 1; have u2 := B5.cell_ 2; have u3 := B5.cell_ 3; have u4 := B5.cell_ 4; have fu0 := B5.free 0; have fu1 := B5.free 1; have fu2 := B5.free 2; have fu3 := B5.free 3; have fu4 := B5.free 4; simp at k0 k1 k2 k3 k4 y0 y1 y2 y3 u0 u1 u2 u3 u4; clear b7))
      have hg := st5_grown w7 (w.heap.size + 1 + 1 + 1 + 1) 0 (.int .i64 T.nb) (.int .i64 T.nn) (.int .i64 T.ns) (.slice A1 T.bs.length c1) (.slice D1 T.ts.length e1)
      have C1 := B1.grown hg (by omega)
      have C2 := B2.grown hg (by omega)
      have C3 := B3.grown hg (by omega)
      have C4 := B4.grown hg (by omega)
      have C5 := B5.st5_ (.int .i64 T.nb) (.int .i64 T.nn) (.int .i64 T.ns) (.slice A1 T.bs.length c1) (.slice D1 T.ts.length e1)
      have C6 := B6.grown hg (by omega)
      have HBn := below_grown HB hg (by omega) HB.size
      have S2 : ShR (st5 w7 (w.heap.size + 1 + 1 + 1 + 1) 0 (.int .i64 T.nb) (.int .i64 T.nn) (.int .i64 T.ns) (.slice A1 T.bs.length c1) (.slice D1 T.ts.length e1)) (st5 w7 (w.heap.size + 1 + 1 + 1 + 1) 0 (.int .i64 T.nb) (.int .i64 T.nn) (.int .i64 T.ns) (.slice A1 T.bs.length c1) (.slice D1 T.ts.length e1)).heap.size (.agg #[.int .i64 s.nb, .int .i64 s.nn, .int .i64 s.ns, .slice Ab s.bs.length cb, .slice An s.ts.length cn]) s := hS0.next HBn
      have T2 : Tabs (st5 w7 (w.heap.size + 1 + 1 + 1 + 1) 0 (.int .i64 T.nb) (.int .i64 T.nn) (.int .i64 T.ns) (.slice A1 T.bs.length c1) (.slice D1 T.ts.length e1)) := hT0.next HBn
      have hB1 := hA1.far hg (by omega)
      have hszn : w.heap.size + 6 ≤ (st5 w7 (w.heap.size + 1 + 1 + 1 + 1) 0 (.int .i64 T.nb) (.int .i64 T.nn) (.int .i64 T.ns) (.slice A1 T.bs.length c1) (.slice D1 T.ts.length e1)).heap.size := Nat.le_trans hsz hg.size
      clear hg
      obtain ⟨w8, hw8⟩ : ∃ V : World, V = (st5 w7 (w.heap.size + 1 + 1 + 1 + 1) 0 (.int .i64 T.nb) (.int .i64 T.nn) (.int .i64 T.ns) (.slice A1 T.bs.length c1) (.slice D1 T.ts.length e1)) := ⟨_, rfl⟩
      change Code.wp _ _ _ _ (st5 w7 (w.heap.size + 1 + 1 + 1 + 1) 0 (.int .i64 T.nb) (.int .i64 T.nn) (.int .i64 T.ns) (.slice A1 T.bs.length c1) (.slice D1 T.ts.length e1))
      rw [← hw8] at C1 C2 C3 C4 C5 C6 HBn S2 T2 hB1 hszn ⊢
      clear hw8 B1 B2 B3 B4 B5 B6 HB S1 T1 hA1 hsz k0 k1 k2 k3 k4 y0 y1 y2 y3 u0 fu0 u1 fu1 u2 fu2 u3 fu3 u4 fu4
      have B1 := C1
      have B2 := C2
      have B3 := C3
      have B4 := C4
      have B5 := C5
      have B6 := C6
      have HB := HBn
      have S1 := S2
      have T1 := T2
      have hA1 := hB1
      have hsz := hszn
      clear C1 C2 C3 C4 C5 C6 HBn S2 T2 hB1 hszn
      have k0 := B1.cell_ 0
      have k1 := B1.cell_ 1
      have k2 := B1.cell_ 2
      have k3 := B1.cell_ 3
      have k4 := B1.cell_ 4
      have y0 := B2.cell_ 0
      have y1 := B2.cell_ 1
      have y2 := B2.cell_ 2
      have y3 := B2.cell_ 3
      have u0 := B6.cell_ 0
      have u1 := B6.cell_ 1
      have u2 := B6.cell_ 2
      have u3 := B6.cell_ 3
      have u4 := B6.cell_ 4
      have fu0 := B6.free 0
      have fu1 := B6.free 1
      have fu2 := B6.free 2
      have fu3 := B6.free 3
      have fu4 := B6.free 4
      simp at k0 k1 k2 k3 k4 y0 y1 y2 y3 u0 u1 u2 u3 u4
      go_wp2_with (go_at_call 32; ((with_reducible refine (rren_all s _ a nm _ S1 HZ.out HX.out _ HC.out _ HR.out).mono ?_); rintro e' w9 ⟨v7, rfl, hA2, b7⟩; have hA1 := hA1.below b7; have hA2 := hA2.base_ hsz; obtain ⟨A2, c2, D2, e2, rfl, hp1, hp2, -⟩ := hA2.parts; clear hp1 hp2; have B1 := B1.below b7 B1.lt; have B2 := B2.below b7 B2.lt; have B3 := B3.below b7 B3.lt; have B4 := B4.below b7 B4.lt; have B5 := B5.below b7 B5.lt; have B6 := B6.below b7 B6.lt; have S1 := S1.next b7; have T1 := T1.next b7; have HB := btr HB HB.size b7; have hsz := Nat.le_trans hsz b7.size; (try clear k0 k1 k2 k3 k4 y0 y1 y2 y3 u0 fu0 u1 fu1 u2 fu2 u3 fu3 u4 fu4); have k0 := B1.cell_ 0; have k1 := B1.cell_ 1; have k2 := B1.cell_ 2; have k3 := B1.cell_ 3; have k4 := B1.cell_ 4; have y0 := B2.cell_ 0; have y1 := B2.cell_ 1; have y2 := B2.cell_ 2; have y3 := B2.cell_ 3; have u0 := B6.cell_ 0; have u1 := B6.cell_ 1; have u2 := B6.cell_ 2; have u3 := B6.cell_ 3; have u4 := B6.cell_ 4; have fu0 := B6.free 0; have fu1 := B6.free 1; have fu2 := B6.free 2; have fu3 := B6.free 3; have fu4 := B6.free 4; simp at k0 k1 k2 k3 k4 y0 y1 y2 y3 u0 u1 u2 u3 u4; clear b7))
      have hg := st5_grown w9 (w.heap.size + 1 + 1 + 1 + 1 + 1) 0 (.int .i64 T.nb) (.int .i64 T.nn) (.int .i64 T.ns) (.slice A2 T.bs.length c2) (.slice D2 T.ts.length e2)
      have C1 := B1.grown hg (by omega)
      have C2 := B2.grown hg (by omega)
      have C3 := B3.grown hg (by omega)
      have C4 := B4.grown hg (by omega)
      have C5 := B5.grown hg (by omega)
      have C6 := B6.st5_ (.int .i64 T.nb) (.int .i64 T.nn) (.int .i64 T.ns) (.slice A2 T.bs.length c2) (.slice D2 T.ts.length e2)
      have HBn := below_grown HB hg (by omega) HB.size
      have S2 : ShR (st5 w9 (w.heap.size + 1 + 1 + 1 + 1 + 1) 0 (.int .i64 T.nb) (.int .i64 T.nn) (.int .i64 T.ns) (.slice A2 T.bs.length c2) (.slice D2 T.ts.length e2)) (st5 w9 (w.heap.size + 1 + 1 + 1 + 1 + 1) 0 (.int .i64 T.nb) (.int .i64 T.nn) (.int .i64 T.ns) (.slice A2 T.bs.length c2) (.slice D2 T.ts.length e2)).heap.size (.agg #[.int .i64 s.nb, .int .i64 s.nn, .int .i64 s.ns, .slice Ab s.bs.length cb, .slice An s.ts.length cn]) s := hS0.next HBn
      have T2 : Tabs (st5 w9 (w.heap.size + 1 + 1 + 1 + 1 + 1) 0 (.int .i64 T.nb) (.int .i64 T.nn) (.int .i64 T.ns) (.slice A2 T.bs.length c2) (.slice D2 T.ts.length e2)) := hT0.next HBn
      have hB1 := hA1.far hg (by omega)
      have hB2 := hA2.far hg (by omega)
      have hszn : w.heap.size + 6 ≤ (st5 w9 (w.heap.size + 1 + 1 + 1 + 1 + 1) 0 (.int .i64 T.nb) (.int .i64 T.nn) (.int .i64 T.ns) (.slice A2 T.bs.length c2) (.slice D2 T.ts.length e2)).heap.size := Nat.le_trans hsz hg.size
      clear hg
      go_meet
      rw [HRT.out]
      refine ⟨⟨0, rfl, rfl⟩, ⟨c, rfl, rfl⟩, ⟨_, _, _, _, C5, hB1⟩, ⟨_, _, _, _, C6, hB2⟩, C3, C4, HBn, hszn⟩
    · obtain ⟨c, hc⟩ : ∃ c, dropC s a = c := ⟨_, rfl⟩
      obtain ⟨T, hTe⟩ : ∃ T, cond (c == 0) (dropS s a) zeroSf = T := ⟨_, rfl⟩
      have hRT : resS s ⟨2, a, b, nm⟩ = T := by rw [← hTe, ← hc]; rfl
      have HRT := Lib.hid hRT
      have HC := Lib.hid hc
      have HR := Lib.hid hTe
      clear hc hTe hRT
      have k0 := B1.cell_ 0
      have k1 := B1.cell_ 1
      have k2 := B1.cell_ 2
      have k3 := B1.cell_ 3
      have k4 := B1.cell_ 4
      have y0 := B2.cell_ 0
      have y1 := B2.cell_ 1
      have y2 := B2.cell_ 2
      have y3 := B2.cell_ 3
      have u0 := B5.cell_ 0
      have u1 := B5.cell_ 1
      have u2 := B5.cell_ 2
      have u3 := B5.cell_ 3
      have u4 := B5.cell_ 4
      have fu0 := B5.free 0
      have fu1 := B5.free 1
      have fu2 := B5.free 2
      have fu3 := B5.free 3
      have fu4 := B5.free 4
      simp at k0 k1 k2 k3 k4 y0 y1 y2 y3 u0 u1 u2 u3 u4
      go_upto_region 13 with (go_at_call 33; ((with_reducible refine (drop_all s _ a _ S1 T1 _ HC.out _ HR.out).mono ?_); rintro e' w7 ⟨v7, rfl, hA1, b7⟩; have hA1 := hA1.base_ hsz; obtain ⟨A1, c1, D1, e1, rfl, hp1, hp2, -⟩ := hA1.parts; clear hp1 hp2; have B1 := B1.below b7 B1.lt; have B2 := B2.below b7 B2.lt; have B3 := B3.below b7 B3.lt; have B4 := B4.below b7 B4.lt; have B5 := B5.below b7 B5.lt; have B6 := B6.below b7 B6.lt; have S1 := S1.next b7; have T1 := T1.next b7; have HB := btr HB HB.size b7; have hsz := Nat.le_trans hsz b7.size; (try clear k0 k1 k2 k3 k4 y0 y1 y2 y3 u0 fu0 u1 fu1 u2 fu2 u3 fu3 u4 fu4); have k0 := B1.cell_ 0; have k1 := B1.cell_ 1; have k2 := B1.cell_ 2; have k3 := B1.cell_ 3; have k4 := B1.cell_ 4; have y0 := B2.cell_ 0; have y1 := B2.cell_ 1; have y2 := B2.cell_ 2; have y3 := B2.cell_ 3; have u0 := B5.cell_ 0; have u1 := B5.cell_ 1; have u2 := B5.cell_ 2; have u3 := B5.cell_ 3; have u4 := B5.cell_ 4; have fu0 := B5.free 0; have fu1 := B5.free 1; have fu2 := B5.free 2; have fu3 := B5.free 3; have fu4 := B5.free 4; simp at k0 k1 k2 k3 k4 y0 y1 y2 y3 u0 u1 u2 u3 u4; clear b7))
      have hg := st5_grown w7 (w.heap.size + 1 + 1 + 1 + 1) 0 (.int .i64 T.nb) (.int .i64 T.nn) (.int .i64 T.ns) (.slice A1 T.bs.length c1) (.slice D1 T.ts.length e1)
      have C1 := B1.grown hg (by omega)
      have C2 := B2.grown hg (by omega)
      have C3 := B3.grown hg (by omega)
      have C4 := B4.grown hg (by omega)
      have C5 := B5.st5_ (.int .i64 T.nb) (.int .i64 T.nn) (.int .i64 T.ns) (.slice A1 T.bs.length c1) (.slice D1 T.ts.length e1)
      have C6 := B6.grown hg (by omega)
      have HBn := below_grown HB hg (by omega) HB.size
      have S2 : ShR (st5 w7 (w.heap.size + 1 + 1 + 1 + 1) 0 (.int .i64 T.nb) (.int .i64 T.nn) (.int .i64 T.ns) (.slice A1 T.bs.length c1) (.slice D1 T.ts.length e1)) (st5 w7 (w.heap.size + 1 + 1 + 1 + 1) 0 (.int .i64 T.nb) (.int .i64 T.nn) (.int .i64 T.ns) (.slice A1 T.bs.length c1) (.slice D1 T.ts.length e1)).heap.size (.agg #[.int .i64 s.nb, .int .i64 s.nn, .int .i64 s.ns, .slice Ab s.bs.length cb, .slice An s.ts.length cn]) s := hS0.next HBn
      have T2 : Tabs (st5 w7 (w.heap.size + 1 + 1 + 1 + 1) 0 (.int .i64 T.nb) (.int .i64 T.nn) (.int .i64 T.ns) (.slice A1 T.bs.length c1) (.slice D1 T.ts.length e1)) := hT0.next HBn
      have hB1 := hA1.far hg (by omega)
      have hszn : w.heap.size + 6 ≤ (st5 w7 (w.heap.size + 1 + 1 + 1 + 1) 0 (.int .i64 T.nb) (.int .i64 T.nn) (.int .i64 T.ns) (.slice A1 T.bs.length c1) (.slice D1 T.ts.length e1)).heap.size := Nat.le_trans hsz hg.size
      clear hg
      obtain ⟨w8, hw8⟩ : ∃ V : World, V = (st5 w7 (w.heap.size + 1 + 1 + 1 + 1) 0 (.int .i64 T.nb) (.int .i64 T.nn) (.int .i64 T.ns) (.slice A1 T.bs.length c1) (.slice D1 T.ts.length e1)) := ⟨_, rfl⟩
      change Code.wp _ _ _ _ (st5 w7 (w.heap.size + 1 + 1 + 1 + 1) 0 (.int .i64 T.nb) (.int .i64 T.nn) (.int .i64 T.ns) (.slice A1 T.bs.length c1) (.slice D1 T.ts.length e1))
      rw [← hw8] at C1 C2 C3 C4 C5 C6 HBn S2 T2 hB1 hszn ⊢
      clear hw8 B1 B2 B3 B4 B5 B6 HB S1 T1 hA1 hsz k0 k1 k2 k3 k4 y0 y1 y2 y3 u0 fu0 u1 fu1 u2 fu2 u3 fu3 u4 fu4
      have B1 := C1
      have B2 := C2
      have B3 := C3
      have B4 := C4
      have B5 := C5
      have B6 := C6
      have HB := HBn
      have S1 := S2
      have T1 := T2
      have hA1 := hB1
      have hsz := hszn
      clear C1 C2 C3 C4 C5 C6 HBn S2 T2 hB1 hszn
      have k0 := B1.cell_ 0
      have k1 := B1.cell_ 1
      have k2 := B1.cell_ 2
      have k3 := B1.cell_ 3
      have k4 := B1.cell_ 4
      have y0 := B2.cell_ 0
      have y1 := B2.cell_ 1
      have y2 := B2.cell_ 2
      have y3 := B2.cell_ 3
      have u0 := B6.cell_ 0
      have u1 := B6.cell_ 1
      have u2 := B6.cell_ 2
      have u3 := B6.cell_ 3
      have u4 := B6.cell_ 4
      have fu0 := B6.free 0
      have fu1 := B6.free 1
      have fu2 := B6.free 2
      have fu3 := B6.free 3
      have fu4 := B6.free 4
      simp at k0 k1 k2 k3 k4 y0 y1 y2 y3 u0 u1 u2 u3 u4
      go_wp2_with (go_at_call 34; ((with_reducible refine (rdrop_all s _ a _ S1 HZ.out _ HC.out _ HR.out).mono ?_); rintro e' w9 ⟨v7, rfl, hA2, b7⟩; have hA1 := hA1.below b7; have hA2 := hA2.base_ hsz; obtain ⟨A2, c2, D2, e2, rfl, hp1, hp2, -⟩ := hA2.parts; clear hp1 hp2; have B1 := B1.below b7 B1.lt; have B2 := B2.below b7 B2.lt; have B3 := B3.below b7 B3.lt; have B4 := B4.below b7 B4.lt; have B5 := B5.below b7 B5.lt; have B6 := B6.below b7 B6.lt; have S1 := S1.next b7; have T1 := T1.next b7; have HB := btr HB HB.size b7; have hsz := Nat.le_trans hsz b7.size; (try clear k0 k1 k2 k3 k4 y0 y1 y2 y3 u0 fu0 u1 fu1 u2 fu2 u3 fu3 u4 fu4); have k0 := B1.cell_ 0; have k1 := B1.cell_ 1; have k2 := B1.cell_ 2; have k3 := B1.cell_ 3; have k4 := B1.cell_ 4; have y0 := B2.cell_ 0; have y1 := B2.cell_ 1; have y2 := B2.cell_ 2; have y3 := B2.cell_ 3; have u0 := B6.cell_ 0; have u1 := B6.cell_ 1; have u2 := B6.cell_ 2; have u3 := B6.cell_ 3; have u4 := B6.cell_ 4; have fu0 := B6.free 0; have fu1 := B6.free 1; have fu2 := B6.free 2; have fu3 := B6.free 3; have fu4 := B6.free 4; simp at k0 k1 k2 k3 k4 y0 y1 y2 y3 u0 u1 u2 u3 u4; clear b7))
      have hg := st5_grown w9 (w.heap.size + 1 + 1 + 1 + 1 + 1) 0 (.int .i64 T.nb) (.int .i64 T.nn) (.int .i64 T.ns) (.slice A2 T.bs.length c2) (.slice D2 T.ts.length e2)
      have C1 := B1.grown hg (by omega)
      have C2 := B2.grown hg (by omega)
      have C3 := B3.grown hg (by omega)
      have C4 := B4.grown hg (by omega)
      have C5 := B5.grown hg (by omega)
      have C6 := B6.st5_ (.int .i64 T.nb) (.int .i64 T.nn) (.int .i64 T.ns) (.slice A2 T.bs.length c2) (.slice D2 T.ts.length e2)
      have HBn := below_grown HB hg (by omega) HB.size
      have S2 : ShR (st5 w9 (w.heap.size + 1 + 1 + 1 + 1 + 1) 0 (.int .i64 T.nb) (.int .i64 T.nn) (.int .i64 T.ns) (.slice A2 T.bs.length c2) (.slice D2 T.ts.length e2)) (st5 w9 (w.heap.size + 1 + 1 + 1 + 1 + 1) 0 (.int .i64 T.nb) (.int .i64 T.nn) (.int .i64 T.ns) (.slice A2 T.bs.length c2) (.slice D2 T.ts.length e2)).heap.size (.agg #[.int .i64 s.nb, .int .i64 s.nn, .int .i64 s.ns, .slice Ab s.bs.length cb, .slice An s.ts.length cn]) s := hS0.next HBn
      have T2 : Tabs (st5 w9 (w.heap.size + 1 + 1 + 1 + 1 + 1) 0 (.int .i64 T.nb) (.int .i64 T.nn) (.int .i64 T.ns) (.slice A2 T.bs.length c2) (.slice D2 T.ts.length e2)) := hT0.next HBn
      have hB1 := hA1.far hg (by omega)
      have hB2 := hA2.far hg (by omega)
      have hszn : w.heap.size + 6 ≤ (st5 w9 (w.heap.size + 1 + 1 + 1 + 1 + 1) 0 (.int .i64 T.nb) (.int .i64 T.nn) (.int .i64 T.ns) (.slice A2 T.bs.length c2) (.slice D2 T.ts.length e2)).heap.size := Nat.le_trans hsz hg.size
      clear hg
      go_meet
      rw [HRT.out]
      refine ⟨⟨0, rfl, rfl⟩, ⟨c, rfl, rfl⟩, ⟨_, _, _, _, C5, hB1⟩, ⟨_, _, _, _, C6, hB2⟩, C3, C4, HBn, hszn⟩
    · obtain ⟨c, hc⟩ : ∃ c, noteC s a nm = c := ⟨_, rfl⟩
      obtain ⟨T, hTe⟩ : ∃ T, cond (c == 0) (noteS s a nm) zeroSf = T := ⟨_, rfl⟩
      have hRT : resS s ⟨3, a, b, nm⟩ = T := by rw [← hTe, ← hc]; rfl
      obtain ⟨N, hN⟩ : ∃ N, cond (c == 0) s.nn 0 = N := ⟨_, rfl⟩
      have HN := Lib.hid hN
      clear hN
      have HRT := Lib.hid hRT
      have HC := Lib.hid hc
      have HR := Lib.hid hTe
      clear hc hTe hRT
      have k0 := B1.cell_ 0
      have k1 := B1.cell_ 1
      have k2 := B1.cell_ 2
      have k3 := B1.cell_ 3
      have k4 := B1.cell_ 4
      have y0 := B2.cell_ 0
      have y1 := B2.cell_ 1
      have y2 := B2.cell_ 2
      have y3 := B2.cell_ 3
      have u0 := B5.cell_ 0
      have u1 := B5.cell_ 1
      have u2 := B5.cell_ 2
      have u3 := B5.cell_ 3
      have u4 := B5.cell_ 4
      have fu0 := B5.free 0
      have fu1 := B5.free 1
      have fu2 := B5.free 2
      have fu3 := B5.free 3
      have fu4 := B5.free 4
      simp at k0 k1 k2 k3 k4 y0 y1 y2 y3 u0 u1 u2 u3 u4
      go_upto_region 16 with (go_at_call 35; ((with_reducible refine (note_all s _ a nm _ S1 T1 _ HC.out _ HN.out _ HR.out).mono ?_); rintro e' w7 ⟨v7, rfl, hA1, b7⟩; have hA1 := hA1.base_ hsz; obtain ⟨A1, c1, D1, e1, rfl, hp1, hp2, -⟩ := hA1.parts; clear hp1 hp2; have B1 := B1.below b7 B1.lt; have B2 := B2.below b7 B2.lt; have B3 := B3.below b7 B3.lt; have B4 := B4.below b7 B4.lt; have B5 := B5.below b7 B5.lt; have B6 := B6.below b7 B6.lt; have S1 := S1.next b7; have T1 := T1.next b7; have HB := btr HB HB.size b7; have hsz := Nat.le_trans hsz b7.size; (try clear k0 k1 k2 k3 k4 y0 y1 y2 y3 u0 fu0 u1 fu1 u2 fu2 u3 fu3 u4 fu4); have k0 := B1.cell_ 0; have k1 := B1.cell_ 1; have k2 := B1.cell_ 2; have k3 := B1.cell_ 3; have k4 := B1.cell_ 4; have y0 := B2.cell_ 0; have y1 := B2.cell_ 1; have y2 := B2.cell_ 2; have y3 := B2.cell_ 3; have u0 := B5.cell_ 0; have u1 := B5.cell_ 1; have u2 := B5.cell_ 2; have u3 := B5.cell_ 3; have u4 := B5.cell_ 4; have fu0 := B5.free 0; have fu1 := B5.free 1; have fu2 := B5.free 2; have fu3 := B5.free 3; have fu4 := B5.free 4; simp at k0 k1 k2 k3 k4 y0 y1 y2 y3 u0 u1 u2 u3 u4; clear b7))
      have hg := st5_grown w7 (w.heap.size + 1 + 1 + 1 + 1) 0 (.int .i64 T.nb) (.int .i64 T.nn) (.int .i64 T.ns) (.slice A1 T.bs.length c1) (.slice D1 T.ts.length e1)
      have C1 := B1.grown hg (by omega)
      have C2 := B2.grown hg (by omega)
      have C3 := B3.grown hg (by omega)
      have C4 := B4.grown hg (by omega)
      have C5 := B5.st5_ (.int .i64 T.nb) (.int .i64 T.nn) (.int .i64 T.ns) (.slice A1 T.bs.length c1) (.slice D1 T.ts.length e1)
      have C6 := B6.grown hg (by omega)
      have HBn := below_grown HB hg (by omega) HB.size
      have S2 : ShR (st5 w7 (w.heap.size + 1 + 1 + 1 + 1) 0 (.int .i64 T.nb) (.int .i64 T.nn) (.int .i64 T.ns) (.slice A1 T.bs.length c1) (.slice D1 T.ts.length e1)) (st5 w7 (w.heap.size + 1 + 1 + 1 + 1) 0 (.int .i64 T.nb) (.int .i64 T.nn) (.int .i64 T.ns) (.slice A1 T.bs.length c1) (.slice D1 T.ts.length e1)).heap.size (.agg #[.int .i64 s.nb, .int .i64 s.nn, .int .i64 s.ns, .slice Ab s.bs.length cb, .slice An s.ts.length cn]) s := hS0.next HBn
      have T2 : Tabs (st5 w7 (w.heap.size + 1 + 1 + 1 + 1) 0 (.int .i64 T.nb) (.int .i64 T.nn) (.int .i64 T.ns) (.slice A1 T.bs.length c1) (.slice D1 T.ts.length e1)) := hT0.next HBn
      have hB1 := hA1.far hg (by omega)
      have hszn : w.heap.size + 6 ≤ (st5 w7 (w.heap.size + 1 + 1 + 1 + 1) 0 (.int .i64 T.nb) (.int .i64 T.nn) (.int .i64 T.ns) (.slice A1 T.bs.length c1) (.slice D1 T.ts.length e1)).heap.size := Nat.le_trans hsz hg.size
      clear hg
      obtain ⟨w8, hw8⟩ : ∃ V : World, V = (st5 w7 (w.heap.size + 1 + 1 + 1 + 1) 0 (.int .i64 T.nb) (.int .i64 T.nn) (.int .i64 T.ns) (.slice A1 T.bs.length c1) (.slice D1 T.ts.length e1)) := ⟨_, rfl⟩
      change Code.wp _ _ _ _ (st5 w7 (w.heap.size + 1 + 1 + 1 + 1) 0 (.int .i64 T.nb) (.int .i64 T.nn) (.int .i64 T.ns) (.slice A1 T.bs.length c1) (.slice D1 T.ts.length e1))
      rw [← hw8] at C1 C2 C3 C4 C5 C6 HBn S2 T2 hB1 hszn ⊢
      clear hw8 B1 B2 B3 B4 B5 B6 HB S1 T1 hA1 hsz k0 k1 k2 k3 k4 y0 y1 y2 y3 u0 fu0 u1 fu1 u2 fu2 u3 fu3 u4 fu4
      have B1 := C1
      have B2 := C2
      have B3 := C3
      have B4 := C4
      have B5 := C5
      have B6 := C6
      have HB := HBn
      have S1 := S2
      have T1 := T2
      have hA1 := hB1
      have hsz := hszn
      clear C1 C2 C3 C4 C5 C6 HBn S2 T2 hB1 hszn
      have k0 := B1.cell_ 0
      have k1 := B1.cell_ 1
      have k2 := B1.cell_ 2
      have k3 := B1.cell_ 3
      have k4 := B1.cell_ 4
      have y0 := B2.cell_ 0
      have y1 := B2.cell_ 1
      have y2 := B2.cell_ 2
      have y3 := B2.cell_ 3
      have u0 := B6.cell_ 0
      have u1 := B6.cell_ 1
      have u2 := B6.cell_ 2
      have u3 := B6.cell_ 3
      have u4 := B6.cell_ 4
      have fu0 := B6.free 0
      have fu1 := B6.free 1
      have fu2 := B6.free 2
      have fu3 := B6.free 3
      have fu4 := B6.free 4
      simp at k0 k1 k2 k3 k4 y0 y1 y2 y3 u0 u1 u2 u3 u4
      go_wp2_with (go_at_call 36; ((with_reducible refine (radd_all s _ a nm _ S1 HZ.out HX.out _ HC.out _ HN.out _ HR.out).mono ?_); rintro e' w9 ⟨v7, rfl, hA2, b7⟩; have hA1 := hA1.below b7; have hA2 := hA2.base_ hsz; obtain ⟨A2, c2, D2, e2, rfl, hp1, hp2, -⟩ := hA2.parts; clear hp1 hp2; have B1 := B1.below b7 B1.lt; have B2 := B2.below b7 B2.lt; have B3 := B3.below b7 B3.lt; have B4 := B4.below b7 B4.lt; have B5 := B5.below b7 B5.lt; have B6 := B6.below b7 B6.lt; have S1 := S1.next b7; have T1 := T1.next b7; have HB := btr HB HB.size b7; have hsz := Nat.le_trans hsz b7.size; (try clear k0 k1 k2 k3 k4 y0 y1 y2 y3 u0 fu0 u1 fu1 u2 fu2 u3 fu3 u4 fu4); have k0 := B1.cell_ 0; have k1 := B1.cell_ 1; have k2 := B1.cell_ 2; have k3 := B1.cell_ 3; have k4 := B1.cell_ 4; have y0 := B2.cell_ 0; have y1 := B2.cell_ 1; have y2 := B2.cell_ 2; have y3 := B2.cell_ 3; have u0 := B6.cell_ 0; have u1 := B6.cell_ 1; have u2 := B6.cell_ 2; have u3 := B6.cell_ 3; have u4 := B6.cell_ 4; have fu0 := B6.free 0; have fu1 := B6.free 1; have fu2 := B6.free 2; have fu3 := B6.free 3; have fu4 := B6.free 4; simp at k0 k1 k2 k3 k4 y0 y1 y2 y3 u0 u1 u2 u3 u4; clear b7))
      have hg := st5_grown w9 (w.heap.size + 1 + 1 + 1 + 1 + 1) 0 (.int .i64 T.nb) (.int .i64 T.nn) (.int .i64 T.ns) (.slice A2 T.bs.length c2) (.slice D2 T.ts.length e2)
      have C1 := B1.grown hg (by omega)
      have C2 := B2.grown hg (by omega)
      have C3 := B3.grown hg (by omega)
      have C4 := B4.grown hg (by omega)
      have C5 := B5.grown hg (by omega)
      have C6 := B6.st5_ (.int .i64 T.nb) (.int .i64 T.nn) (.int .i64 T.ns) (.slice A2 T.bs.length c2) (.slice D2 T.ts.length e2)
      have HBn := below_grown HB hg (by omega) HB.size
      have S2 : ShR (st5 w9 (w.heap.size + 1 + 1 + 1 + 1 + 1) 0 (.int .i64 T.nb) (.int .i64 T.nn) (.int .i64 T.ns) (.slice A2 T.bs.length c2) (.slice D2 T.ts.length e2)) (st5 w9 (w.heap.size + 1 + 1 + 1 + 1 + 1) 0 (.int .i64 T.nb) (.int .i64 T.nn) (.int .i64 T.ns) (.slice A2 T.bs.length c2) (.slice D2 T.ts.length e2)).heap.size (.agg #[.int .i64 s.nb, .int .i64 s.nn, .int .i64 s.ns, .slice Ab s.bs.length cb, .slice An s.ts.length cn]) s := hS0.next HBn
      have T2 : Tabs (st5 w9 (w.heap.size + 1 + 1 + 1 + 1 + 1) 0 (.int .i64 T.nb) (.int .i64 T.nn) (.int .i64 T.ns) (.slice A2 T.bs.length c2) (.slice D2 T.ts.length e2)) := hT0.next HBn
      have hB1 := hA1.far hg (by omega)
      have hB2 := hA2.far hg (by omega)
      have hszn : w.heap.size + 6 ≤ (st5 w9 (w.heap.size + 1 + 1 + 1 + 1 + 1) 0 (.int .i64 T.nb) (.int .i64 T.nn) (.int .i64 T.ns) (.slice A2 T.bs.length c2) (.slice D2 T.ts.length e2)).heap.size := Nat.le_trans hsz hg.size
      clear hg
      go_meet
      rw [HRT.out]
      refine ⟨⟨N, rfl, rfl⟩, ⟨c, rfl, rfl⟩, ⟨_, _, _, _, C5, hB1⟩, ⟨_, _, _, _, C6, hB2⟩, C3, C4, HBn, hszn⟩
    · obtain ⟨c, hc⟩ : ∃ c, retC s a nm = c := ⟨_, rfl⟩
      obtain ⟨T, hTe⟩ : ∃ T, cond (c == 0) (retS s a nm) zeroSf = T := ⟨_, rfl⟩
      have hRT : resS s ⟨4, a, b, nm⟩ = T := by rw [← hTe, ← hc]; rfl
      have HRT := Lib.hid hRT
      have HC := Lib.hid hc
      have HR := Lib.hid hTe
      clear hc hTe hRT
      have k0 := B1.cell_ 0
      have k1 := B1.cell_ 1
      have k2 := B1.cell_ 2
      have k3 := B1.cell_ 3
      have k4 := B1.cell_ 4
      have y0 := B2.cell_ 0
      have y1 := B2.cell_ 1
      have y2 := B2.cell_ 2
      have y3 := B2.cell_ 3
      have u0 := B5.cell_ 0
      have u1 := B5.cell_ 1
      have u2 := B5.cell_ 2
      have u3 := B5.cell_ 3
      have u4 := B5.cell_ 4
      have fu0 := B5.free 0
      have fu1 := B5.free 1
      have fu2 := B5.free 2
      have fu3 := B5.free 3
      have fu4 := B5.free 4
      simp at k0 k1 k2 k3 k4 y0 y1 y2 y3 u0 u1 u2 u3 u4
      go_upto_region 19 with (go_at_call 37; ((with_reducible refine (ret_all s _ a nm _ S1 T1 _ HC.out _ HR.out).mono ?_); rintro e' w7 ⟨v7, rfl, hA1, b7⟩; have hA1 := hA1.base_ hsz; obtain ⟨A1, c1, D1, e1, rfl, hp1, hp2, -⟩ := hA1.parts; clear hp1 hp2; have B1 := B1.below b7 B1.lt; have B2 := B2.below b7 B2.lt; have B3 := B3.below b7 B3.lt; have B4 := B4.below b7 B4.lt; have B5 := B5.below b7 B5.lt; have B6 := B6.below b7 B6.lt; have S1 := S1.next b7; have T1 := T1.next b7; have HB := btr HB HB.size b7; have hsz := Nat.le_trans hsz b7.size; (try clear k0 k1 k2 k3 k4 y0 y1 y2 y3 u0 fu0 u1 fu1 u2 fu2 u3 fu3 u4 fu4); have k0 := B1.cell_ 0; have k1 := B1.cell_ 1; have k2 := B1.cell_ 2; have k3 := B1.cell_ 3; have k4 := B1.cell_ 4; have y0 := B2.cell_ 0; have y1 := B2.cell_ 1; have y2 := B2.cell_ 2; have y3 := B2.cell_ 3; have u0 := B5.cell_ 0; have u1 := B5.cell_ 1; have u2 := B5.cell_ 2; have u3 := B5.cell_ 3; have u4 := B5.cell_ 4; have fu0 := B5.free 0; have fu1 := B5.free 1; have fu2 := B5.free 2; have fu3 := B5.free 3; have fu4 := B5.free 4; simp at k0 k1 k2 k3 k4 y0 y1 y2 y3 u0 u1 u2 u3 u4; clear b7))
      have hg := st5_grown w7 (w.heap.size + 1 + 1 + 1 + 1) 0 (.int .i64 T.nb) (.int .i64 T.nn) (.int .i64 T.ns) (.slice A1 T.bs.length c1) (.slice D1 T.ts.length e1)
      have C1 := B1.grown hg (by omega)
      have C2 := B2.grown hg (by omega)
      have C3 := B3.grown hg (by omega)
      have C4 := B4.grown hg (by omega)
      have C5 := B5.st5_ (.int .i64 T.nb) (.int .i64 T.nn) (.int .i64 T.ns) (.slice A1 T.bs.length c1) (.slice D1 T.ts.length e1)
      have C6 := B6.grown hg (by omega)
      have HBn := below_grown HB hg (by omega) HB.size
      have S2 : ShR (st5 w7 (w.heap.size + 1 + 1 + 1 + 1) 0 (.int .i64 T.nb) (.int .i64 T.nn) (.int .i64 T.ns) (.slice A1 T.bs.length c1) (.slice D1 T.ts.length e1)) (st5 w7 (w.heap.size + 1 + 1 + 1 + 1) 0 (.int .i64 T.nb) (.int .i64 T.nn) (.int .i64 T.ns) (.slice A1 T.bs.length c1) (.slice D1 T.ts.length e1)).heap.size (.agg #[.int .i64 s.nb, .int .i64 s.nn, .int .i64 s.ns, .slice Ab s.bs.length cb, .slice An s.ts.length cn]) s := hS0.next HBn
      have T2 : Tabs (st5 w7 (w.heap.size + 1 + 1 + 1 + 1) 0 (.int .i64 T.nb) (.int .i64 T.nn) (.int .i64 T.ns) (.slice A1 T.bs.length c1) (.slice D1 T.ts.length e1)) := hT0.next HBn
      have hB1 := hA1.far hg (by omega)
      have hszn : w.heap.size + 6 ≤ (st5 w7 (w.heap.size + 1 + 1 + 1 + 1) 0 (.int .i64 T.nb) (.int .i64 T.nn) (.int .i64 T.ns) (.slice A1 T.bs.length c1) (.slice D1 T.ts.length e1)).heap.size := Nat.le_trans hsz hg.size
      clear hg
      obtain ⟨w8, hw8⟩ : ∃ V : World, V = (st5 w7 (w.heap.size + 1 + 1 + 1 + 1) 0 (.int .i64 T.nb) (.int .i64 T.nn) (.int .i64 T.ns) (.slice A1 T.bs.length c1) (.slice D1 T.ts.length e1)) := ⟨_, rfl⟩
      change Code.wp _ _ _ _ (st5 w7 (w.heap.size + 1 + 1 + 1 + 1) 0 (.int .i64 T.nb) (.int .i64 T.nn) (.int .i64 T.ns) (.slice A1 T.bs.length c1) (.slice D1 T.ts.length e1))
      rw [← hw8] at C1 C2 C3 C4 C5 C6 HBn S2 T2 hB1 hszn ⊢
      clear hw8 B1 B2 B3 B4 B5 B6 HB S1 T1 hA1 hsz k0 k1 k2 k3 k4 y0 y1 y2 y3 u0 fu0 u1 fu1 u2 fu2 u3 fu3 u4 fu4
      have B1 := C1
      have B2 := C2
      have B3 := C3
      have B4 := C4
      have B5 := C5
      have B6 := C6
      have HB := HBn
      have S1 := S2
      have T1 := T2
      have hA1 := hB1
      have hsz := hszn
      clear C1 C2 C3 C4 C5 C6 HBn S2 T2 hB1 hszn
      have k0 := B1.cell_ 0
      have k1 := B1.cell_ 1
      have k2 := B1.cell_ 2
      have k3 := B1.cell_ 3
      have k4 := B1.cell_ 4
      have y0 := B2.cell_ 0
      have y1 := B2.cell_ 1
      have y2 := B2.cell_ 2
      have y3 := B2.cell_ 3
      have u0 := B6.cell_ 0
      have u1 := B6.cell_ 1
      have u2 := B6.cell_ 2
      have u3 := B6.cell_ 3
      have u4 := B6.cell_ 4
      have fu0 := B6.free 0
      have fu1 := B6.free 1
      have fu2 := B6.free 2
      have fu3 := B6.free 3
      have fu4 := B6.free 4
      simp at k0 k1 k2 k3 k4 y0 y1 y2 y3 u0 u1 u2 u3 u4
      go_wp2_with (go_at_call 38; ((with_reducible refine (rret_all s _ a nm _ S1 HZ.out HX.out _ HC.out _ HR.out).mono ?_); rintro e' w9 ⟨v7, rfl, hA2, b7⟩; have hA1 := hA1.below b7; have hA2 := hA2.base_ hsz; obtain ⟨A2, c2, D2, e2, rfl, hp1, hp2, -⟩ := hA2.parts; clear hp1 hp2; have B1 := B1.below b7 B1.lt; have B2 := B2.below b7 B2.lt; have B3 := B3.below b7 B3.lt; have B4 := B4.below b7 B4.lt; have B5 := B5.below b7 B5.lt; have B6 := B6.below b7 B6.lt; have S1 := S1.next b7; have T1 := T1.next b7; have HB := btr HB HB.size b7; have hsz := Nat.le_trans hsz b7.size; (try clear k0 k1 k2 k3 k4 y0 y1 y2 y3 u0 fu0 u1 fu1 u2 fu2 u3 fu3 u4 fu4); have k0 := B1.cell_ 0; have k1 := B1.cell_ 1; have k2 := B1.cell_ 2; have k3 := B1.cell_ 3; have k4 := B1.cell_ 4; have y0 := B2.cell_ 0; have y1 := B2.cell_ 1; have y2 := B2.cell_ 2; have y3 := B2.cell_ 3; have u0 := B6.cell_ 0; have u1 := B6.cell_ 1; have u2 := B6.cell_ 2; have u3 := B6.cell_ 3; have u4 := B6.cell_ 4; have fu0 := B6.free 0; have fu1 := B6.free 1; have fu2 := B6.free 2; have fu3 := B6.free 3; have fu4 := B6.free 4; simp at k0 k1 k2 k3 k4 y0 y1 y2 y3 u0 u1 u2 u3 u4; clear b7))
      have hg := st5_grown w9 (w.heap.size + 1 + 1 + 1 + 1 + 1) 0 (.int .i64 T.nb) (.int .i64 T.nn) (.int .i64 T.ns) (.slice A2 T.bs.length c2) (.slice D2 T.ts.length e2)
      have C1 := B1.grown hg (by omega)
      have C2 := B2.grown hg (by omega)
      have C3 := B3.grown hg (by omega)
      have C4 := B4.grown hg (by omega)
      have C5 := B5.grown hg (by omega)
      have C6 := B6.st5_ (.int .i64 T.nb) (.int .i64 T.nn) (.int .i64 T.ns) (.slice A2 T.bs.length c2) (.slice D2 T.ts.length e2)
      have HBn := below_grown HB hg (by omega) HB.size
      have S2 : ShR (st5 w9 (w.heap.size + 1 + 1 + 1 + 1 + 1) 0 (.int .i64 T.nb) (.int .i64 T.nn) (.int .i64 T.ns) (.slice A2 T.bs.length c2) (.slice D2 T.ts.length e2)) (st5 w9 (w.heap.size + 1 + 1 + 1 + 1 + 1) 0 (.int .i64 T.nb) (.int .i64 T.nn) (.int .i64 T.ns) (.slice A2 T.bs.length c2) (.slice D2 T.ts.length e2)).heap.size (.agg #[.int .i64 s.nb, .int .i64 s.nn, .int .i64 s.ns, .slice Ab s.bs.length cb, .slice An s.ts.length cn]) s := hS0.next HBn
      have T2 : Tabs (st5 w9 (w.heap.size + 1 + 1 + 1 + 1 + 1) 0 (.int .i64 T.nb) (.int .i64 T.nn) (.int .i64 T.ns) (.slice A2 T.bs.length c2) (.slice D2 T.ts.length e2)) := hT0.next HBn
      have hB1 := hA1.far hg (by omega)
      have hB2 := hA2.far hg (by omega)
      have hszn : w.heap.size + 6 ≤ (st5 w9 (w.heap.size + 1 + 1 + 1 + 1 + 1) 0 (.int .i64 T.nb) (.int .i64 T.nn) (.int .i64 T.ns) (.slice A2 T.bs.length c2) (.slice D2 T.ts.length e2)).heap.size := Nat.le_trans hsz hg.size
      clear hg
      go_meet
      rw [HRT.out]
      refine ⟨⟨0, rfl, rfl⟩, ⟨c, rfl, rfl⟩, ⟨_, _, _, _, C5, hB1⟩, ⟨_, _, _, _, C6, hB2⟩, C3, C4, HBn, hszn⟩
    · obtain ⟨c, hc⟩ : ∃ c, movC s a b = c := ⟨_, rfl⟩
      obtain ⟨T, hTe⟩ : ∃ T, cond (c == 0) (movS s a b) zeroSf = T := ⟨_, rfl⟩
      have hRT : resS s ⟨5, a, b, nm⟩ = T := by rw [← hTe, ← hc]; rfl
      have HRT := Lib.hid hRT
      have HC := Lib.hid hc
      have HR := Lib.hid hTe
      clear hc hTe hRT
      have k0 := B1.cell_ 0
      have k1 := B1.cell_ 1
      have k2 := B1.cell_ 2
      have k3 := B1.cell_ 3
      have k4 := B1.cell_ 4
      have y0 := B2.cell_ 0
      have y1 := B2.cell_ 1
      have y2 := B2.cell_ 2
      have y3 := B2.cell_ 3
      have u0 := B5.cell_ 0
      have u1 := B5.cell_ 1
      have u2 := B5.cell_ 2
      have u3 := B5.cell_ 3
      have u4 := B5.cell_ 4
      have fu0 := B5.free 0
      have fu1 := B5.free 1
      have fu2 := B5.free 2
      have fu3 := B5.free 3
      have fu4 := B5.free 4
      simp at k0 k1 k2 k3 k4 y0 y1 y2 y3 u0 u1 u2 u3 u4
      go_upto_region 22 with (go_at_call 39; ((with_reducible refine (mov_all s _ a b _ S1 T1 _ HC.out _ HR.out).mono ?_); rintro e' w7 ⟨v7, rfl, hA1, b7⟩; have hA1 := hA1.base_ hsz; obtain ⟨A1, c1, D1, e1, rfl, hp1, hp2, -⟩ := hA1.parts; clear hp1 hp2; have B1 := B1.below b7 B1.lt; have B2 := B2.below b7 B2.lt; have B3 := B3.below b7 B3.lt; have B4 := B4.below b7 B4.lt; have B5 := B5.below b7 B5.lt; have B6 := B6.below b7 B6.lt; have S1 := S1.next b7; have T1 := T1.next b7; have HB := btr HB HB.size b7; have hsz := Nat.le_trans hsz b7.size; (try clear k0 k1 k2 k3 k4 y0 y1 y2 y3 u0 fu0 u1 fu1 u2 fu2 u3 fu3 u4 fu4); have k0 := B1.cell_ 0; have k1 := B1.cell_ 1; have k2 := B1.cell_ 2; have k3 := B1.cell_ 3; have k4 := B1.cell_ 4; have y0 := B2.cell_ 0; have y1 := B2.cell_ 1; have y2 := B2.cell_ 2; have y3 := B2.cell_ 3; have u0 := B5.cell_ 0; have u1 := B5.cell_ 1; have u2 := B5.cell_ 2; have u3 := B5.cell_ 3; have u4 := B5.cell_ 4; have fu0 := B5.free 0; have fu1 := B5.free 1; have fu2 := B5.free 2; have fu3 := B5.free 3; have fu4 := B5.free 4; simp at k0 k1 k2 k3 k4 y0 y1 y2 y3 u0 u1 u2 u3 u4; clear b7))
      have hg := st5_grown w7 (w.heap.size + 1 + 1 + 1 + 1) 0 (.int .i64 T.nb) (.int .i64 T.nn) (.int .i64 T.ns) (.slice A1 T.bs.length c1) (.slice D1 T.ts.length e1)
      have C1 := B1.grown hg (by omega)
      have C2 := B2.grown hg (by omega)
      have C3 := B3.grown hg (by omega)
      have C4 := B4.grown hg (by omega)
      have C5 := B5.st5_ (.int .i64 T.nb) (.int .i64 T.nn) (.int .i64 T.ns) (.slice A1 T.bs.length c1) (.slice D1 T.ts.length e1)
      have C6 := B6.grown hg (by omega)
      have HBn := below_grown HB hg (by omega) HB.size
      have S2 : ShR (st5 w7 (w.heap.size + 1 + 1 + 1 + 1) 0 (.int .i64 T.nb) (.int .i64 T.nn) (.int .i64 T.ns) (.slice A1 T.bs.length c1) (.slice D1 T.ts.length e1)) (st5 w7 (w.heap.size + 1 + 1 + 1 + 1) 0 (.int .i64 T.nb) (.int .i64 T.nn) (.int .i64 T.ns) (.slice A1 T.bs.length c1) (.slice D1 T.ts.length e1)).heap.size (.agg #[.int .i64 s.nb, .int .i64 s.nn, .int .i64 s.ns, .slice Ab s.bs.length cb, .slice An s.ts.length cn]) s := hS0.next HBn
      have T2 : Tabs (st5 w7 (w.heap.size + 1 + 1 + 1 + 1) 0 (.int .i64 T.nb) (.int .i64 T.nn) (.int .i64 T.ns) (.slice A1 T.bs.length c1) (.slice D1 T.ts.length e1)) := hT0.next HBn
      have hB1 := hA1.far hg (by omega)
      have hszn : w.heap.size + 6 ≤ (st5 w7 (w.heap.size + 1 + 1 + 1 + 1) 0 (.int .i64 T.nb) (.int .i64 T.nn) (.int .i64 T.ns) (.slice A1 T.bs.length c1) (.slice D1 T.ts.length e1)).heap.size := Nat.le_trans hsz hg.size
      clear hg
      obtain ⟨w8, hw8⟩ : ∃ V : World, V = (st5 w7 (w.heap.size + 1 + 1 + 1 + 1) 0 (.int .i64 T.nb) (.int .i64 T.nn) (.int .i64 T.ns) (.slice A1 T.bs.length c1) (.slice D1 T.ts.length e1)) := ⟨_, rfl⟩
      change Code.wp _ _ _ _ (st5 w7 (w.heap.size + 1 + 1 + 1 + 1) 0 (.int .i64 T.nb) (.int .i64 T.nn) (.int .i64 T.ns) (.slice A1 T.bs.length c1) (.slice D1 T.ts.length e1))
      rw [← hw8] at C1 C2 C3 C4 C5 C6 HBn S2 T2 hB1 hszn ⊢
      clear hw8 B1 B2 B3 B4 B5 B6 HB S1 T1 hA1 hsz k0 k1 k2 k3 k4 y0 y1 y2 y3 u0 fu0 u1 fu1 u2 fu2 u3 fu3 u4 fu4
      have B1 := C1
      have B2 := C2
      have B3 := C3
      have B4 := C4
      have B5 := C5
      have B6 := C6
      have HB := HBn
      have S1 := S2
      have T1 := T2
      have hA1 := hB1
      have hsz := hszn
      clear C1 C2 C3 C4 C5 C6 HBn S2 T2 hB1 hszn
      have k0 := B1.cell_ 0
      have k1 := B1.cell_ 1
      have k2 := B1.cell_ 2
      have k3 := B1.cell_ 3
      have k4 := B1.cell_ 4
      have y0 := B2.cell_ 0
      have y1 := B2.cell_ 1
      have y2 := B2.cell_ 2
      have y3 := B2.cell_ 3
      have u0 := B6.cell_ 0
      have u1 := B6.cell_ 1
      have u2 := B6.cell_ 2
      have u3 := B6.cell_ 3
      have u4 := B6.cell_ 4
      have fu0 := B6.free 0
      have fu1 := B6.free 1
      have fu2 := B6.free 2
      have fu3 := B6.free 3
      have fu4 := B6.free 4
      simp at k0 k1 k2 k3 k4 y0 y1 y2 y3 u0 u1 u2 u3 u4
      go_wp2_with (go_at_call 40; ((with_reducible refine (rmov_all s _ a b _ S1 HZ.out _ HC.out _ HR.out).mono ?_); rintro e' w9 ⟨v7, rfl, hA2, b7⟩; have hA1 := hA1.below b7; have hA2 := hA2.base_ hsz; obtain ⟨A2, c2, D2, e2, rfl, hp1, hp2, -⟩ := hA2.parts; clear hp1 hp2; have B1 := B1.below b7 B1.lt; have B2 := B2.below b7 B2.lt; have B3 := B3.below b7 B3.lt; have B4 := B4.below b7 B4.lt; have B5 := B5.below b7 B5.lt; have B6 := B6.below b7 B6.lt; have S1 := S1.next b7; have T1 := T1.next b7; have HB := btr HB HB.size b7; have hsz := Nat.le_trans hsz b7.size; (try clear k0 k1 k2 k3 k4 y0 y1 y2 y3 u0 fu0 u1 fu1 u2 fu2 u3 fu3 u4 fu4); have k0 := B1.cell_ 0; have k1 := B1.cell_ 1; have k2 := B1.cell_ 2; have k3 := B1.cell_ 3; have k4 := B1.cell_ 4; have y0 := B2.cell_ 0; have y1 := B2.cell_ 1; have y2 := B2.cell_ 2; have y3 := B2.cell_ 3; have u0 := B6.cell_ 0; have u1 := B6.cell_ 1; have u2 := B6.cell_ 2; have u3 := B6.cell_ 3; have u4 := B6.cell_ 4; have fu0 := B6.free 0; have fu1 := B6.free 1; have fu2 := B6.free 2; have fu3 := B6.free 3; have fu4 := B6.free 4; simp at k0 k1 k2 k3 k4 y0 y1 y2 y3 u0 u1 u2 u3 u4; clear b7))
      have hg := st5_grown w9 (w.heap.size + 1 + 1 + 1 + 1 + 1) 0 (.int .i64 T.nb) (.int .i64 T.nn) (.int .i64 T.ns) (.slice A2 T.bs.length c2) (.slice D2 T.ts.length e2)
      have C1 := B1.grown hg (by omega)
      have C2 := B2.grown hg (by omega)
      have C3 := B3.grown hg (by omega)
      have C4 := B4.grown hg (by omega)
      have C5 := B5.grown hg (by omega)
      have C6 := B6.st5_ (.int .i64 T.nb) (.int .i64 T.nn) (.int .i64 T.ns) (.slice A2 T.bs.length c2) (.slice D2 T.ts.length e2)
      have HBn := below_grown HB hg (by omega) HB.size
      have S2 : ShR (st5 w9 (w.heap.size + 1 + 1 + 1 + 1 + 1) 0 (.int .i64 T.nb) (.int .i64 T.nn) (.int .i64 T.ns) (.slice A2 T.bs.length c2) (.slice D2 T.ts.length e2)) (st5 w9 (w.heap.size + 1 + 1 + 1 + 1 + 1) 0 (.int .i64 T.nb) (.int .i64 T.nn) (.int .i64 T.ns) (.slice A2 T.bs.length c2) (.slice D2 T.ts.length e2)).heap.size (.agg #[.int .i64 s.nb, .int .i64 s.nn, .int .i64 s.ns, .slice Ab s.bs.length cb, .slice An s.ts.length cn]) s := hS0.next HBn
      have T2 : Tabs (st5 w9 (w.heap.size + 1 + 1 + 1 + 1 + 1) 0 (.int .i64 T.nb) (.int .i64 T.nn) (.int .i64 T.ns) (.slice A2 T.bs.length c2) (.slice D2 T.ts.length e2)) := hT0.next HBn
      have hB1 := hA1.far hg (by omega)
      have hB2 := hA2.far hg (by omega)
      have hszn : w.heap.size + 6 ≤ (st5 w9 (w.heap.size + 1 + 1 + 1 + 1 + 1) 0 (.int .i64 T.nb) (.int .i64 T.nn) (.int .i64 T.ns) (.slice A2 T.bs.length c2) (.slice D2 T.ts.length e2)).heap.size := Nat.le_trans hsz hg.size
      clear hg
      go_meet
      rw [HRT.out]
      refine ⟨⟨0, rfl, rfl⟩, ⟨c, rfl, rfl⟩, ⟨_, _, _, _, C5, hB1⟩, ⟨_, _, _, _, C6, hB2⟩, C3, C4, HBn, hszn⟩
    · obtain ⟨c, hc⟩ : ∃ c, discC s a = c := ⟨_, rfl⟩
      obtain ⟨T, hTe⟩ : ∃ T, cond (c == 0) (discS s a) zeroSf = T := ⟨_, rfl⟩
      have hRT : resS s ⟨6, a, b, nm⟩ = T := by rw [← hTe, ← hc]; rfl
      have HRT := Lib.hid hRT
      have HC := Lib.hid hc
      have HR := Lib.hid hTe
      clear hc hTe hRT
      have k0 := B1.cell_ 0
      have k1 := B1.cell_ 1
      have k2 := B1.cell_ 2
      have k3 := B1.cell_ 3
      have k4 := B1.cell_ 4
      have y0 := B2.cell_ 0
      have y1 := B2.cell_ 1
      have y2 := B2.cell_ 2
      have y3 := B2.cell_ 3
      have u0 := B5.cell_ 0
      have u1 := B5.cell_ 1
      have u2 := B5.cell_ 2
      have u3 := B5.cell_ 3
      have u4 := B5.cell_ 4
      have fu0 := B5.free 0
      have fu1 := B5.free 1
      have fu2 := B5.free 2
      have fu3 := B5.free 3
      have fu4 := B5.free 4
      simp at k0 k1 k2 k3 k4 y0 y1 y2 y3 u0 u1 u2 u3 u4
      go_upto_region 25 with (go_at_call 41; ((with_reducible refine (disc_all s _ a _ S1 T1 _ HC.out _ HR.out).mono ?_); rintro e' w7 ⟨v7, rfl, hA1, b7⟩; have hA1 := hA1.base_ hsz; obtain ⟨A1, c1, D1, e1, rfl, hp1, hp2, -⟩ := hA1.parts; clear hp1 hp2; have B1 := B1.below b7 B1.lt; have B2 := B2.below b7 B2.lt; have B3 := B3.below b7 B3.lt; have B4 := B4.below b7 B4.lt; have B5 := B5.below b7 B5.lt; have B6 := B6.below b7 B6.lt; have S1 := S1.next b7; have T1 := T1.next b7; have HB := btr HB HB.size b7; have hsz := Nat.le_trans hsz b7.size; (try clear k0 k1 k2 k3 k4 y0 y1 y2 y3 u0 fu0 u1 fu1 u2 fu2 u3 fu3 u4 fu4); have k0 := B1.cell_ 0; have k1 := B1.cell_ 1; have k2 := B1.cell_ 2; have k3 := B1.cell_ 3; have k4 := B1.cell_ 4; have y0 := B2.cell_ 0; have y1 := B2.cell_ 1; have y2 := B2.cell_ 2; have y3 := B2.cell_ 3; have u0 := B5.cell_ 0; have u1 := B5.cell_ 1; have u2 := B5.cell_ 2; have u3 := B5.cell_ 3; have u4 := B5.cell_ 4; have fu0 := B5.free 0; have fu1 := B5.free 1; have fu2 := B5.free 2; have fu3 := B5.free 3; have fu4 := B5.free 4; simp at k0 k1 k2 k3 k4 y0 y1 y2 y3 u0 u1 u2 u3 u4; clear b7))
      have hg := st5_grown w7 (w.heap.size + 1 + 1 + 1 + 1) 0 (.int .i64 T.nb) (.int .i64 T.nn) (.int .i64 T.ns) (.slice A1 T.bs.length c1) (.slice D1 T.ts.length e1)
      have C1 := B1.grown hg (by omega)
      have C2 := B2.grown hg (by omega)
      have C3 := B3.grown hg (by omega)
      have C4 := B4.grown hg (by omega)
      have C5 := B5.st5_ (.int .i64 T.nb) (.int .i64 T.nn) (.int .i64 T.ns) (.slice A1 T.bs.length c1) (.slice D1 T.ts.length e1)
      have C6 := B6.grown hg (by omega)
      have HBn := below_grown HB hg (by omega) HB.size
      have S2 : ShR (st5 w7 (w.heap.size + 1 + 1 + 1 + 1) 0 (.int .i64 T.nb) (.int .i64 T.nn) (.int .i64 T.ns) (.slice A1 T.bs.length c1) (.slice D1 T.ts.length e1)) (st5 w7 (w.heap.size + 1 + 1 + 1 + 1) 0 (.int .i64 T.nb) (.int .i64 T.nn) (.int .i64 T.ns) (.slice A1 T.bs.length c1) (.slice D1 T.ts.length e1)).heap.size (.agg #[.int .i64 s.nb, .int .i64 s.nn, .int .i64 s.ns, .slice Ab s.bs.length cb, .slice An s.ts.length cn]) s := hS0.next HBn
      have T2 : Tabs (st5 w7 (w.heap.size + 1 + 1 + 1 + 1) 0 (.int .i64 T.nb) (.int .i64 T.nn) (.int .i64 T.ns) (.slice A1 T.bs.length c1) (.slice D1 T.ts.length e1)) := hT0.next HBn
      have hB1 := hA1.far hg (by omega)
      have hszn : w.heap.size + 6 ≤ (st5 w7 (w.heap.size + 1 + 1 + 1 + 1) 0 (.int .i64 T.nb) (.int .i64 T.nn) (.int .i64 T.ns) (.slice A1 T.bs.length c1) (.slice D1 T.ts.length e1)).heap.size := Nat.le_trans hsz hg.size
      clear hg
      obtain ⟨w8, hw8⟩ : ∃ V : World, V = (st5 w7 (w.heap.size + 1 + 1 + 1 + 1) 0 (.int .i64 T.nb) (.int .i64 T.nn) (.int .i64 T.ns) (.slice A1 T.bs.length c1) (.slice D1 T.ts.length e1)) := ⟨_, rfl⟩
      change Code.wp _ _ _ _ (st5 w7 (w.heap.size + 1 + 1 + 1 + 1) 0 (.int .i64 T.nb) (.int .i64 T.nn) (.int .i64 T.ns) (.slice A1 T.bs.length c1) (.slice D1 T.ts.length e1))
      rw [← hw8] at C1 C2 C3 C4 C5 C6 HBn S2 T2 hB1 hszn ⊢
      clear hw8 B1 B2 B3 B4 B5 B6 HB S1 T1 hA1 hsz k0 k1 k2 k3 k4 y0 y1 y2 y3 u0 fu0 u1 fu1 u2 fu2 u3 fu3 u4 fu4
      have B1 := C1
      have B2 := C2
      have B3 := C3
      have B4 := C4
      have B5 := C5
      have B6 := C6
      have HB := HBn
      have S1 := S2
      have T1 := T2
      have hA1 := hB1
      have hsz := hszn
      clear C1 C2 C3 C4 C5 C6 HBn S2 T2 hB1 hszn
      have k0 := B1.cell_ 0
      have k1 := B1.cell_ 1
      have k2 := B1.cell_ 2
      have k3 := B1.cell_ 3
      have k4 := B1.cell_ 4
      have y0 := B2.cell_ 0
      have y1 := B2.cell_ 1
      have y2 := B2.cell_ 2
      have y3 := B2.cell_ 3
      have u0 := B6.cell_ 0
      have u1 := B6.cell_ 1
      have u2 := B6.cell_ 2
      have u3 := B6.cell_ 3
      have u4 := B6.cell_ 4
      have fu0 := B6.free 0
      have fu1 := B6.free 1
      have fu2 := B6.free 2
      have fu3 := B6.free 3
      have fu4 := B6.free 4
      simp at k0 k1 k2 k3 k4 y0 y1 y2 y3 u0 u1 u2 u3 u4
      go_wp2_with (go_at_call 42; ((with_reducible refine (rdisc_all s _ a _ S1 HZ.out _ HC.out _ HR.out).mono ?_); rintro e' w9 ⟨v7, rfl, hA2, b7⟩; have hA1 := hA1.below b7; have hA2 := hA2.base_ hsz; obtain ⟨A2, c2, D2, e2, rfl, hp1, hp2, -⟩ := hA2.parts; clear hp1 hp2; have B1 := B1.below b7 B1.lt; have B2 := B2.below b7 B2.lt; have B3 := B3.below b7 B3.lt; have B4 := B4.below b7 B4.lt; have B5 := B5.below b7 B5.lt; have B6 := B6.below b7 B6.lt; have S1 := S1.next b7; have T1 := T1.next b7; have HB := btr HB HB.size b7; have hsz := Nat.le_trans hsz b7.size; (try clear k0 k1 k2 k3 k4 y0 y1 y2 y3 u0 fu0 u1 fu1 u2 fu2 u3 fu3 u4 fu4); have k0 := B1.cell_ 0; have k1 := B1.cell_ 1; have k2 := B1.cell_ 2; have k3 := B1.cell_ 3; have k4 := B1.cell_ 4; have y0 := B2.cell_ 0; have y1 := B2.cell_ 1; have y2 := B2.cell_ 2; have y3 := B2.cell_ 3; have u0 := B6.cell_ 0; have u1 := B6.cell_ 1; have u2 := B6.cell_ 2; have u3 := B6.cell_ 3; have u4 := B6.cell_ 4; have fu0 := B6.free 0; have fu1 := B6.free 1; have fu2 := B6.free 2; have fu3 := B6.free 3; have fu4 := B6.free 4; simp at k0 k1 k2 k3 k4 y0 y1 y2 y3 u0 u1 u2 u3 u4; clear b7))
      have hg := st5_grown w9 (w.heap.size + 1 + 1 + 1 + 1 + 1) 0 (.int .i64 T.nb) (.int .i64 T.nn) (.int .i64 T.ns) (.slice A2 T.bs.length c2) (.slice D2 T.ts.length e2)
      have C1 := B1.grown hg (by omega)
      have C2 := B2.grown hg (by omega)
      have C3 := B3.grown hg (by omega)
      have C4 := B4.grown hg (by omega)
      have C5 := B5.grown hg (by omega)
      have C6 := B6.st5_ (.int .i64 T.nb) (.int .i64 T.nn) (.int .i64 T.ns) (.slice A2 T.bs.length c2) (.slice D2 T.ts.length e2)
      have HBn := below_grown HB hg (by omega) HB.size
      have S2 : ShR (st5 w9 (w.heap.size + 1 + 1 + 1 + 1 + 1) 0 (.int .i64 T.nb) (.int .i64 T.nn) (.int .i64 T.ns) (.slice A2 T.bs.length c2) (.slice D2 T.ts.length e2)) (st5 w9 (w.heap.size + 1 + 1 + 1 + 1 + 1) 0 (.int .i64 T.nb) (.int .i64 T.nn) (.int .i64 T.ns) (.slice A2 T.bs.length c2) (.slice D2 T.ts.length e2)).heap.size (.agg #[.int .i64 s.nb, .int .i64 s.nn, .int .i64 s.ns, .slice Ab s.bs.length cb, .slice An s.ts.length cn]) s := hS0.next HBn
      have T2 : Tabs (st5 w9 (w.heap.size + 1 + 1 + 1 + 1 + 1) 0 (.int .i64 T.nb) (.int .i64 T.nn) (.int .i64 T.ns) (.slice A2 T.bs.length c2) (.slice D2 T.ts.length e2)) := hT0.next HBn
      have hB1 := hA1.far hg (by omega)
      have hB2 := hA2.far hg (by omega)
      have hszn : w.heap.size + 6 ≤ (st5 w9 (w.heap.size + 1 + 1 + 1 + 1 + 1) 0 (.int .i64 T.nb) (.int .i64 T.nn) (.int .i64 T.ns) (.slice A2 T.bs.length c2) (.slice D2 T.ts.length e2)).heap.size := Nat.le_trans hsz hg.size
      clear hg
      go_meet
      rw [HRT.out]
      refine ⟨⟨0, rfl, rfl⟩, ⟨c, rfl, rfl⟩, ⟨_, _, _, _, C5, hB1⟩, ⟨_, _, _, _, C6, hB2⟩, C3, C4, HBn, hszn⟩
    · have hRT : resS s ⟨d, a, b, nm⟩ = zeroSf := by
        have : actC s ⟨d, a, b, nm⟩ = 8 := by unfold actC; simp [d0, d1, d2, d3, d4, d5, d6]
        unfold resS
        rw [this]
        rfl
      have HRT := Lib.hid hRT
      clear hRT
      have k0 := B1.cell_ 0
      have k1 := B1.cell_ 1
      have k2 := B1.cell_ 2
      have k3 := B1.cell_ 3
      have k4 := B1.cell_ 4
      have y0 := B2.cell_ 0
      have y1 := B2.cell_ 1
      have y2 := B2.cell_ 2
      have y3 := B2.cell_ 3
      have u0 := B5.cell_ 0
      have u1 := B5.cell_ 1
      have u2 := B5.cell_ 2
      have u3 := B5.cell_ 3
      have u4 := B5.cell_ 4
      have fu0 := B5.free 0
      have fu1 := B5.free 1
      have fu2 := B5.free 2
      have fu3 := B5.free 3
      have fu4 := B5.free 4
      simp at k0 k1 k2 k3 k4 y0 y1 y2 y3 u0 u1 u2 u3 u4
      go_wp2_with fail
      go_meet
      rw [HRT.out]
      exact ⟨⟨0, rfl, rfl⟩, ⟨0, rfl, rfl⟩, ⟨_, _, _, _, B5, zeroW _ _⟩, ⟨_, _, _, _, B6, zeroW _ _⟩, B3, B4, HB, hsz⟩
  case rest =>
    obtain ⟨T, hRT⟩ : ∃ T, resS s ⟨d, a, b, nm⟩ = T := ⟨_, rfl⟩
    rw [hRT] at hcut HSM
    have HRT := Lib.hid hRT
    clear hRT B1 B2 B3 B4 B5 B6 HB S1 T1 hsz
    obtain ⟨⟨N, rfl, rfl⟩, ⟨c, rfl, rfl⟩, ⟨A1, c1, D1, e1, B5, hA1⟩, ⟨A2, c2, D2, e2, B6, hA2⟩, B3, B4, HB, hsz⟩ := hcut
    have u0 := B5.cell_ 0
    have u1 := B5.cell_ 1
    have u2 := B5.cell_ 2
    have u3 := B5.cell_ 3
    have u4 := B5.cell_ 4
    have x0 := B6.cell_ 0
    have x1 := B6.cell_ 1
    have x2 := B6.cell_ 2
    have x3 := B6.cell_ 3
    have x4 := B6.cell_ 4
    simp at u0 u1 u2 u3 u4 x0 x1 x2 x3 x4
    have QD : wc.drew.cell? ⟨w.heap.size + 1 + 1 + 1 + 1, 0, none⟩ = some (.int .i64 T.nb) ∧ wc.drew.cell? ⟨w.heap.size + 1 + 1 + 1 + 1, 1, none⟩ = some (.int .i64 T.nn) ∧ wc.drew.cell? ⟨w.heap.size + 1 + 1 + 1 + 1, 2, none⟩ = some (.int .i64 T.ns) ∧ wc.drew.cell? ⟨w.heap.size + 1 + 1 + 1 + 1, 3, none⟩ = some (.slice A1 T.bs.length c1) ∧ wc.drew.cell? ⟨w.heap.size + 1 + 1 + 1 + 1, 4, none⟩ = some (.slice D1 T.ts.length e1) ∧ wc.drew.cell? ⟨w.heap.size + 1 + 1 + 1 + 1 + 1, 0, none⟩ = some (.int .i64 T.nb) ∧ wc.drew.cell? ⟨w.heap.size + 1 + 1 + 1 + 1 + 1, 1, none⟩ = some (.int .i64 T.nn) ∧ wc.drew.cell? ⟨w.heap.size + 1 + 1 + 1 + 1 + 1, 2, none⟩ = some (.int .i64 T.ns) ∧ wc.drew.cell? ⟨w.heap.size + 1 + 1 + 1 + 1 + 1, 3, none⟩ = some (.slice A2 T.bs.length c2) ∧ wc.drew.cell? ⟨w.heap.size + 1 + 1 + 1 + 1 + 1, 4, none⟩ = some (.slice D2 T.ts.length e2) := ⟨drew_cell u0, drew_cell u1, drew_cell u2, drew_cell u3, drew_cell u4, drew_cell x0, drew_cell x1, drew_cell x2, drew_cell x3, drew_cell x4⟩
    go_upto_region 26 with fail
    refine wp_region_noPanic ?_
    refine wp_region_held_drew (S := (fun w_ => w_.cell? ⟨w.heap.size + 1 + 1 + 1 + 1, 0, none⟩ = some (.int .i64 T.nb) ∧ w_.cell? ⟨w.heap.size + 1 + 1 + 1 + 1, 1, none⟩ = some (.int .i64 T.nn) ∧ w_.cell? ⟨w.heap.size + 1 + 1 + 1 + 1, 2, none⟩ = some (.int .i64 T.ns) ∧ w_.cell? ⟨w.heap.size + 1 + 1 + 1 + 1, 3, none⟩ = some (.slice A1 T.bs.length c1) ∧ w_.cell? ⟨w.heap.size + 1 + 1 + 1 + 1, 4, none⟩ = some (.slice D1 T.ts.length e1) ∧ w_.cell? ⟨w.heap.size + 1 + 1 + 1 + 1 + 1, 0, none⟩ = some (.int .i64 T.nb) ∧ w_.cell? ⟨w.heap.size + 1 + 1 + 1 + 1 + 1, 1, none⟩ = some (.int .i64 T.nn) ∧ w_.cell? ⟨w.heap.size + 1 + 1 + 1 + 1 + 1, 2, none⟩ = some (.int .i64 T.ns) ∧ w_.cell? ⟨w.heap.size + 1 + 1 + 1 + 1 + 1, 3, none⟩ = some (.slice A2 T.bs.length c2) ∧ w_.cell? ⟨w.heap.size + 1 + 1 + 1 + 1 + 1, 4, none⟩ = some (.slice D2 T.ts.length e2))) (by kernel_rfl) ?_ (fun hHeld => ?_)
    · (first | with_reducible exact QD | with_reducible exact QN | with_reducible exact QM | exact QB | exact QA)
    refine tk 0 ?_; try simp only [Act.put, pz1, pz2, pz3]
    refine tk 1 ?_; try simp only [Act.put, pz1, pz2, pz3]
    refine tk 2 ?_; try simp only [Act.put, pz1, pz2, pz3]
    refine tk 4 ?_; try simp only [Act.put, pz1, pz2, pz3]
    refine wpAnyH_ready (rs := [3]) (by kernel_rfl) (by simp) ?_
    refine AllReadyH.cons (o := ⟨some 150, .call { callee := .value (.func 20), args := #[.tmp 149], argTypes := #[38] }, 3, "law.go:75", #[⟨2, .data⟩], none⟩) rfl (fun K hK => ?_) AllReadyH.nil
    go_simp
    (go_at_call 20; ((with_reducible refine (num_any c _).mono ?_); rintro e' wn ⟨rfl, bn⟩; have bn := btr (below_dr wc) (Nat.le_refl _) bn; have B5n := B5.below bn B5.lt; have B6n := B6.below bn B6.lt; have QN : wn.cell? ⟨w.heap.size + 1 + 1 + 1 + 1, 0, none⟩ = some (.int .i64 T.nb) ∧ wn.cell? ⟨w.heap.size + 1 + 1 + 1 + 1, 1, none⟩ = some (.int .i64 T.nn) ∧ wn.cell? ⟨w.heap.size + 1 + 1 + 1 + 1, 2, none⟩ = some (.int .i64 T.ns) ∧ wn.cell? ⟨w.heap.size + 1 + 1 + 1 + 1, 3, none⟩ = some (.slice A1 T.bs.length c1) ∧ wn.cell? ⟨w.heap.size + 1 + 1 + 1 + 1, 4, none⟩ = some (.slice D1 T.ts.length e1) ∧ wn.cell? ⟨w.heap.size + 1 + 1 + 1 + 1 + 1, 0, none⟩ = some (.int .i64 T.nb) ∧ wn.cell? ⟨w.heap.size + 1 + 1 + 1 + 1 + 1, 1, none⟩ = some (.int .i64 T.nn) ∧ wn.cell? ⟨w.heap.size + 1 + 1 + 1 + 1 + 1, 2, none⟩ = some (.int .i64 T.ns) ∧ wn.cell? ⟨w.heap.size + 1 + 1 + 1 + 1 + 1, 3, none⟩ = some (.slice A2 T.bs.length c2) ∧ wn.cell? ⟨w.heap.size + 1 + 1 + 1 + 1 + 1, 4, none⟩ = some (.slice D2 T.ts.length e2) := ⟨(bn.cell (p := ⟨w.heap.size + 1 + 1 + 1 + 1, 0, none⟩) B5.lt).trans u0, (bn.cell (p := ⟨w.heap.size + 1 + 1 + 1 + 1, 1, none⟩) B5.lt).trans u1, (bn.cell (p := ⟨w.heap.size + 1 + 1 + 1 + 1, 2, none⟩) B5.lt).trans u2, (bn.cell (p := ⟨w.heap.size + 1 + 1 + 1 + 1, 3, none⟩) B5.lt).trans u3, (bn.cell (p := ⟨w.heap.size + 1 + 1 + 1 + 1, 4, none⟩) B5.lt).trans u4, (bn.cell (p := ⟨w.heap.size + 1 + 1 + 1 + 1 + 1, 0, none⟩) B6.lt).trans x0, (bn.cell (p := ⟨w.heap.size + 1 + 1 + 1 + 1 + 1, 1, none⟩) B6.lt).trans x1, (bn.cell (p := ⟨w.heap.size + 1 + 1 + 1 + 1 + 1, 2, none⟩) B6.lt).trans x2, (bn.cell (p := ⟨w.heap.size + 1 + 1 + 1 + 1 + 1, 3, none⟩) B6.lt).trans x3, (bn.cell (p := ⟨w.heap.size + 1 + 1 + 1 + 1 + 1, 4, none⟩) B6.lt).trans x4⟩; have hA1n := hA1.below bn; have hA2n := hA2.below bn))
    go_wp2_with fail
    refine hK.out _ _ ?_ (fun hNew => ?_)
    · (first | with_reducible exact QD | with_reducible exact QN | with_reducible exact QM | exact QB | exact QA)
    clear hK K hHeld
    have hHeld := hNew
    clear hNew
    try simp only [Act.put, pz1, pz2, pz3]
    refine tk 5 ?_; try simp only [Act.put, pz1, pz2, pz3]
    refine tk 6 ?_; try simp only [Act.put, pz1, pz2, pz3]
    refine tk 7 ?_; try simp only [Act.put, pz1, pz2, pz3]
    refine tk 8 ?_; try simp only [Act.put, pz1, pz2, pz3]
    refine tk 9 ?_; try simp only [Act.put, pz1, pz2, pz3]
    refine tk 10 ?_; try simp only [Act.put, pz1, pz2, pz3]
    refine tk 11 ?_; try simp only [Act.put, pz1, pz2, pz3]
    refine tk 12 ?_; try simp only [Act.put, pz1, pz2, pz3]
    refine tk 13 ?_; try simp only [Act.put, pz1, pz2, pz3]
    refine wpAnyH_ready (rs := [14]) (by kernel_rfl) (by simp) ?_
    refine AllReadyH.cons (o := ⟨some 161, .call { callee := .value (.func 25), args := #[.tmp 159, .tmp 160], argTypes := #[25, 25] }, 4, "law.go:75", #[⟨12, .data⟩, ⟨13, .data⟩, ⟨11, .chain⟩, ⟨11, .guard⟩], some (11, true)⟩) rfl (fun K hK => ?_) AllReadyH.nil
    go_simp
    (go_at_call 25; ((with_reducible refine (sameShelf_yes T _ _ _ hA1n.toR hA2n.toR HSM.out.1 HSM.out.2.1 HSM.out.2.2).mono ?_); rintro e' wm ⟨rfl, bm⟩; have bm := btr bn bn.size bm; have QM : wm.cell? ⟨w.heap.size + 1 + 1 + 1 + 1, 0, none⟩ = some (.int .i64 T.nb) ∧ wm.cell? ⟨w.heap.size + 1 + 1 + 1 + 1, 1, none⟩ = some (.int .i64 T.nn) ∧ wm.cell? ⟨w.heap.size + 1 + 1 + 1 + 1, 2, none⟩ = some (.int .i64 T.ns) ∧ wm.cell? ⟨w.heap.size + 1 + 1 + 1 + 1, 3, none⟩ = some (.slice A1 T.bs.length c1) ∧ wm.cell? ⟨w.heap.size + 1 + 1 + 1 + 1, 4, none⟩ = some (.slice D1 T.ts.length e1) ∧ wm.cell? ⟨w.heap.size + 1 + 1 + 1 + 1 + 1, 0, none⟩ = some (.int .i64 T.nb) ∧ wm.cell? ⟨w.heap.size + 1 + 1 + 1 + 1 + 1, 1, none⟩ = some (.int .i64 T.nn) ∧ wm.cell? ⟨w.heap.size + 1 + 1 + 1 + 1 + 1, 2, none⟩ = some (.int .i64 T.ns) ∧ wm.cell? ⟨w.heap.size + 1 + 1 + 1 + 1 + 1, 3, none⟩ = some (.slice A2 T.bs.length c2) ∧ wm.cell? ⟨w.heap.size + 1 + 1 + 1 + 1 + 1, 4, none⟩ = some (.slice D2 T.ts.length e2) := ⟨(bm.cell (p := ⟨w.heap.size + 1 + 1 + 1 + 1, 0, none⟩) B5.lt).trans u0, (bm.cell (p := ⟨w.heap.size + 1 + 1 + 1 + 1, 1, none⟩) B5.lt).trans u1, (bm.cell (p := ⟨w.heap.size + 1 + 1 + 1 + 1, 2, none⟩) B5.lt).trans u2, (bm.cell (p := ⟨w.heap.size + 1 + 1 + 1 + 1, 3, none⟩) B5.lt).trans u3, (bm.cell (p := ⟨w.heap.size + 1 + 1 + 1 + 1, 4, none⟩) B5.lt).trans u4, (bm.cell (p := ⟨w.heap.size + 1 + 1 + 1 + 1 + 1, 0, none⟩) B6.lt).trans x0, (bm.cell (p := ⟨w.heap.size + 1 + 1 + 1 + 1 + 1, 1, none⟩) B6.lt).trans x1, (bm.cell (p := ⟨w.heap.size + 1 + 1 + 1 + 1 + 1, 2, none⟩) B6.lt).trans x2, (bm.cell (p := ⟨w.heap.size + 1 + 1 + 1 + 1 + 1, 3, none⟩) B6.lt).trans x3, (bm.cell (p := ⟨w.heap.size + 1 + 1 + 1 + 1 + 1, 4, none⟩) B6.lt).trans x4⟩; have hA1m := hA1.below bm; have hA2m := hA2.below bm; have B3m := B3.below bm B3.lt; have B4m := B4.below bm B4.lt; have HBm := btr HB HB.size bm; have sm := bm.size; have r0 := B3m.cell_ 0; have r1 := B3m.cell_ 1; have r2 := B3m.cell_ 2; have r3 := B3m.cell_ 3; have r4 := B3m.cell_ 4; have fr0 := B3m.free 0; have fr1 := B3m.free 1; have fr2 := B3m.free 2; have fr3 := B3m.free 3; have fr4 := B3m.free 4; have q0 := B4m.cell_ 0; have q1 := B4m.cell_ 1; have q2 := B4m.cell_ 2; have q3 := B4m.cell_ 3; have q4 := B4m.cell_ 4; have fq0 := B4m.free 0; have fq1 := B4m.free 1; have fq2 := B4m.free 2; have fq3 := B4m.free 3; have fq4 := B4m.free 4; simp at r0 r1 r2 r3 r4 q0 q1 q2 q3 q4))
    go_wp2_with fail
    refine hK.out _ _ ?_ (fun hNew => ?_)
    · (first | with_reducible exact QD | with_reducible exact QN | with_reducible exact QM | exact QB | exact QA)
    clear hK K hHeld
    have hHeld := hNew
    clear hNew
    try simp only [Act.put, pz1, pz2, pz3]
    refine tk 15 ?_; try simp only [Act.put, pz1, pz2, pz3]
    refine wpAnyH_ready (rs := [16]) (by kernel_rfl) (by simp) ?_
    refine AllReadyH.cons (o := ⟨none, .store 25 (.tmp 4) (.tmp 147), 0, "law.go:75", #[⟨0, .data⟩, ⟨14, .chain⟩, ⟨0, .phase⟩, { on := 1, ground := Ground.textOnly Departure.lateStores }, { on := 2, ground := Ground.textOnly Departure.lateStores }, { on := 3, ground := Ground.textOnly Departure.lateStoresUnsure }, { on := 4, ground := Ground.textOnly Departure.lateStores }, { on := 5, ground := Ground.textOnly Departure.lateStores }, { on := 6, ground := Ground.textOnly Departure.lateStores }, { on := 7, ground := Ground.textOnly Departure.lateStores }, { on := 8, ground := Ground.textOnly Departure.lateStores }, { on := 9, ground := Ground.textOnly Departure.lateStores }, { on := 10, ground := Ground.textOnly Departure.lateStores }, { on := 11, ground := Ground.textOnly Departure.lateStores }, { on := 12, ground := Ground.textOnly Departure.lateStores }, { on := 13, ground := Ground.textOnly Departure.lateStores }, { on := 14, ground := Ground.textOnly Departure.lateStoresUnsure }, { on := 15, ground := Ground.textOnly Departure.lateStores }], none⟩) rfl (fun K hK => ?_) AllReadyH.nil
    go_simp
    have hg1 := st5_grown wm (w.heap.size + 1 + 1) 0 (.int .i64 T.nb) (.int .i64 T.nn) (.int .i64 T.ns) (.slice A1 T.bs.length c1) (.slice D1 T.ts.length e1)
    have B3a := B3m.st5_ (.int .i64 T.nb) (.int .i64 T.nn) (.int .i64 T.ns) (.slice A1 T.bs.length c1) (.slice D1 T.ts.length e1)
    have B4a := B4m.grown hg1 (by omega)
    have hA1a := hA1m.far hg1 (by omega)
    have hA2a := hA2m.far hg1 (by omega)
    have HBa := below_grown HBm hg1 (by omega) HBm.size
    have B5a := (B5.below bm B5.lt).grown hg1 (by omega)
    have B6a := (B6.below bm B6.lt).grown hg1 (by omega)
    have QA : (st5 wm (w.heap.size + 1 + 1) 0 (.int .i64 T.nb) (.int .i64 T.nn) (.int .i64 T.ns) (.slice A1 T.bs.length c1) (.slice D1 T.ts.length e1)).cell? ⟨w.heap.size + 1 + 1 + 1 + 1, 0, none⟩ = some (.int .i64 T.nb) ∧ (st5 wm (w.heap.size + 1 + 1) 0 (.int .i64 T.nb) (.int .i64 T.nn) (.int .i64 T.ns) (.slice A1 T.bs.length c1) (.slice D1 T.ts.length e1)).cell? ⟨w.heap.size + 1 + 1 + 1 + 1, 1, none⟩ = some (.int .i64 T.nn) ∧ (st5 wm (w.heap.size + 1 + 1) 0 (.int .i64 T.nb) (.int .i64 T.nn) (.int .i64 T.ns) (.slice A1 T.bs.length c1) (.slice D1 T.ts.length e1)).cell? ⟨w.heap.size + 1 + 1 + 1 + 1, 2, none⟩ = some (.int .i64 T.ns) ∧ (st5 wm (w.heap.size + 1 + 1) 0 (.int .i64 T.nb) (.int .i64 T.nn) (.int .i64 T.ns) (.slice A1 T.bs.length c1) (.slice D1 T.ts.length e1)).cell? ⟨w.heap.size + 1 + 1 + 1 + 1, 3, none⟩ = some (.slice A1 T.bs.length c1) ∧ (st5 wm (w.heap.size + 1 + 1) 0 (.int .i64 T.nb) (.int .i64 T.nn) (.int .i64 T.ns) (.slice A1 T.bs.length c1) (.slice D1 T.ts.length e1)).cell? ⟨w.heap.size + 1 + 1 + 1 + 1, 4, none⟩ = some (.slice D1 T.ts.length e1) ∧ (st5 wm (w.heap.size + 1 + 1) 0 (.int .i64 T.nb) (.int .i64 T.nn) (.int .i64 T.ns) (.slice A1 T.bs.length c1) (.slice D1 T.ts.length e1)).cell? ⟨w.heap.size + 1 + 1 + 1 + 1 + 1, 0, none⟩ = some (.int .i64 T.nb) ∧ (st5 wm (w.heap.size + 1 + 1) 0 (.int .i64 T.nb) (.int .i64 T.nn) (.int .i64 T.ns) (.slice A1 T.bs.length c1) (.slice D1 T.ts.length e1)).cell? ⟨w.heap.size + 1 + 1 + 1 + 1 + 1, 1, none⟩ = some (.int .i64 T.nn) ∧ (st5 wm (w.heap.size + 1 + 1) 0 (.int .i64 T.nb) (.int .i64 T.nn) (.int .i64 T.ns) (.slice A1 T.bs.length c1) (.slice D1 T.ts.length e1)).cell? ⟨w.heap.size + 1 + 1 + 1 + 1 + 1, 2, none⟩ = some (.int .i64 T.ns) ∧ (st5 wm (w.heap.size + 1 + 1) 0 (.int .i64 T.nb) (.int .i64 T.nn) (.int .i64 T.ns) (.slice A1 T.bs.length c1) (.slice D1 T.ts.length e1)).cell? ⟨w.heap.size + 1 + 1 + 1 + 1 + 1, 3, none⟩ = some (.slice A2 T.bs.length c2) ∧ (st5 wm (w.heap.size + 1 + 1) 0 (.int .i64 T.nb) (.int .i64 T.nn) (.int .i64 T.ns) (.slice A1 T.bs.length c1) (.slice D1 T.ts.length e1)).cell? ⟨w.heap.size + 1 + 1 + 1 + 1 + 1, 4, none⟩ = some (.slice D2 T.ts.length e2) := ⟨B5a.cell_ 0, B5a.cell_ 1, B5a.cell_ 2, B5a.cell_ 3, B5a.cell_ 4, B6a.cell_ 0, B6a.cell_ 1, B6a.cell_ 2, B6a.cell_ 3, B6a.cell_ 4⟩
    refine hK.out _ _ ?_ (fun hNew => ?_)
    · (first | with_reducible exact QD | with_reducible exact QN | with_reducible exact QM | exact QB | exact QA)
    clear hK K hHeld
    have hHeld := hNew
    clear hNew
    try simp only [Act.put, pz1, pz2, pz3]
    refine wpAnyH_ready (rs := [17]) (by kernel_rfl) (by simp) ?_
    refine AllReadyH.cons (o := ⟨none, .store 25 (.tmp 5) (.tmp 148), 0, "law.go:75", #[⟨1, .data⟩, ⟨16, .chain⟩, ⟨0, .phase⟩, ⟨1, .phase⟩, { on := 2, ground := Ground.textOnly Departure.lateStores }, { on := 3, ground := Ground.textOnly Departure.lateStoresUnsure }, { on := 4, ground := Ground.textOnly Departure.lateStores }, { on := 5, ground := Ground.textOnly Departure.lateStores }, { on := 6, ground := Ground.textOnly Departure.lateStores }, { on := 7, ground := Ground.textOnly Departure.lateStores }, { on := 8, ground := Ground.textOnly Departure.lateStores }, { on := 9, ground := Ground.textOnly Departure.lateStores }, { on := 10, ground := Ground.textOnly Departure.lateStores }, { on := 11, ground := Ground.textOnly Departure.lateStores }, { on := 12, ground := Ground.textOnly Departure.lateStores }, { on := 13, ground := Ground.textOnly Departure.lateStores }, { on := 14, ground := Ground.textOnly Departure.lateStoresUnsure }, { on := 15, ground := Ground.textOnly Departure.lateStores }, ⟨16, .phase⟩], none⟩) rfl (fun K hK => ?_) AllReadyH.nil
    go_simp
    have hg2 := st5_grown (st5 wm (w.heap.size + 1 + 1) 0 (.int .i64 T.nb) (.int .i64 T.nn) (.int .i64 T.ns) (.slice A1 T.bs.length c1) (.slice D1 T.ts.length e1)) (w.heap.size + 1 + 1 + 1) 0 (.int .i64 T.nb) (.int .i64 T.nn) (.int .i64 T.ns) (.slice A2 T.bs.length c2) (.slice D2 T.ts.length e2)
    have B4b := B4a.st5_ (.int .i64 T.nb) (.int .i64 T.nn) (.int .i64 T.ns) (.slice A2 T.bs.length c2) (.slice D2 T.ts.length e2)
    have B3b := B3a.grown hg2 (by omega)
    have hA1b := hA1a.far hg2 (by omega)
    have hA2b := hA2a.far hg2 (by omega)
    have HBb := below_grown HBa hg2 (by omega) HBa.size
    have B5b := B5a.grown hg2 (by omega)
    have B6b := B6a.grown hg2 (by omega)
    have QB : (st5 (st5 wm (w.heap.size + 1 + 1) 0 (.int .i64 T.nb) (.int .i64 T.nn) (.int .i64 T.ns) (.slice A1 T.bs.length c1) (.slice D1 T.ts.length e1)) (w.heap.size + 1 + 1 + 1) 0 (.int .i64 T.nb) (.int .i64 T.nn) (.int .i64 T.ns) (.slice A2 T.bs.length c2) (.slice D2 T.ts.length e2)).cell? ⟨w.heap.size + 1 + 1 + 1 + 1, 0, none⟩ = some (.int .i64 T.nb) ∧ (st5 (st5 wm (w.heap.size + 1 + 1) 0 (.int .i64 T.nb) (.int .i64 T.nn) (.int .i64 T.ns) (.slice A1 T.bs.length c1) (.slice D1 T.ts.length e1)) (w.heap.size + 1 + 1 + 1) 0 (.int .i64 T.nb) (.int .i64 T.nn) (.int .i64 T.ns) (.slice A2 T.bs.length c2) (.slice D2 T.ts.length e2)).cell? ⟨w.heap.size + 1 + 1 + 1 + 1, 1, none⟩ = some (.int .i64 T.nn) ∧ (st5 (st5 wm (w.heap.size + 1 + 1) 0 (.int .i64 T.nb) (.int .i64 T.nn) (.int .i64 T.ns) (.slice A1 T.bs.length c1) (.slice D1 T.ts.length e1)) (w.heap.size + 1 + 1 + 1) 0 (.int .i64 T.nb) (.int .i64 T.nn) (.int .i64 T.ns) (.slice A2 T.bs.length c2) (.slice D2 T.ts.length e2)).cell? ⟨w.heap.size + 1 + 1 + 1 + 1, 2, none⟩ = some (.int .i64 T.ns) ∧ (st5 (st5 wm (w.heap.size + 1 + 1) 0 (.int .i64 T.nb) (.int .i64 T.nn) (.int .i64 T.ns) (.slice A1 T.bs.length c1) (.slice D1 T.ts.length e1)) (w.heap.size + 1 + 1 + 1) 0 (.int .i64 T.nb) (.int .i64 T.nn) (.int .i64 T.ns) (.slice A2 T.bs.length c2) (.slice D2 T.ts.length e2)).cell? ⟨w.heap.size + 1 + 1 + 1 + 1, 3, none⟩ = some (.slice A1 T.bs.length c1) ∧ (st5 (st5 wm (w.heap.size + 1 + 1) 0 (.int .i64 T.nb) (.int .i64 T.nn) (.int .i64 T.ns) (.slice A1 T.bs.length c1) (.slice D1 T.ts.length e1)) (w.heap.size + 1 + 1 + 1) 0 (.int .i64 T.nb) (.int .i64 T.nn) (.int .i64 T.ns) (.slice A2 T.bs.length c2) (.slice D2 T.ts.length e2)).cell? ⟨w.heap.size + 1 + 1 + 1 + 1, 4, none⟩ = some (.slice D1 T.ts.length e1) ∧ (st5 (st5 wm (w.heap.size + 1 + 1) 0 (.int .i64 T.nb) (.int .i64 T.nn) (.int .i64 T.ns) (.slice A1 T.bs.length c1) (.slice D1 T.ts.length e1)) (w.heap.size + 1 + 1 + 1) 0 (.int .i64 T.nb) (.int .i64 T.nn) (.int .i64 T.ns) (.slice A2 T.bs.length c2) (.slice D2 T.ts.length e2)).cell? ⟨w.heap.size + 1 + 1 + 1 + 1 + 1, 0, none⟩ = some (.int .i64 T.nb) ∧ (st5 (st5 wm (w.heap.size + 1 + 1) 0 (.int .i64 T.nb) (.int .i64 T.nn) (.int .i64 T.ns) (.slice A1 T.bs.length c1) (.slice D1 T.ts.length e1)) (w.heap.size + 1 + 1 + 1) 0 (.int .i64 T.nb) (.int .i64 T.nn) (.int .i64 T.ns) (.slice A2 T.bs.length c2) (.slice D2 T.ts.length e2)).cell? ⟨w.heap.size + 1 + 1 + 1 + 1 + 1, 1, none⟩ = some (.int .i64 T.nn) ∧ (st5 (st5 wm (w.heap.size + 1 + 1) 0 (.int .i64 T.nb) (.int .i64 T.nn) (.int .i64 T.ns) (.slice A1 T.bs.length c1) (.slice D1 T.ts.length e1)) (w.heap.size + 1 + 1 + 1) 0 (.int .i64 T.nb) (.int .i64 T.nn) (.int .i64 T.ns) (.slice A2 T.bs.length c2) (.slice D2 T.ts.length e2)).cell? ⟨w.heap.size + 1 + 1 + 1 + 1 + 1, 2, none⟩ = some (.int .i64 T.ns) ∧ (st5 (st5 wm (w.heap.size + 1 + 1) 0 (.int .i64 T.nb) (.int .i64 T.nn) (.int .i64 T.ns) (.slice A1 T.bs.length c1) (.slice D1 T.ts.length e1)) (w.heap.size + 1 + 1 + 1) 0 (.int .i64 T.nb) (.int .i64 T.nn) (.int .i64 T.ns) (.slice A2 T.bs.length c2) (.slice D2 T.ts.length e2)).cell? ⟨w.heap.size + 1 + 1 + 1 + 1 + 1, 3, none⟩ = some (.slice A2 T.bs.length c2) ∧ (st5 (st5 wm (w.heap.size + 1 + 1) 0 (.int .i64 T.nb) (.int .i64 T.nn) (.int .i64 T.ns) (.slice A1 T.bs.length c1) (.slice D1 T.ts.length e1)) (w.heap.size + 1 + 1 + 1) 0 (.int .i64 T.nb) (.int .i64 T.nn) (.int .i64 T.ns) (.slice A2 T.bs.length c2) (.slice D2 T.ts.length e2)).cell? ⟨w.heap.size + 1 + 1 + 1 + 1 + 1, 4, none⟩ = some (.slice D2 T.ts.length e2) := ⟨B5b.cell_ 0, B5b.cell_ 1, B5b.cell_ 2, B5b.cell_ 3, B5b.cell_ 4, B6b.cell_ 0, B6b.cell_ 1, B6b.cell_ 2, B6b.cell_ 3, B6b.cell_ 4⟩
    refine hK.out _ _ ?_ (fun hNew => ?_)
    · (first | with_reducible exact QD | with_reducible exact QN | with_reducible exact QM | exact QB | exact QA)
    clear hK K hHeld
    have hHeld := hNew
    clear hNew
    try simp only [Act.put, pz1, pz2, pz3]
    refine tk 18 ?_; try simp only [Act.put, pz1, pz2, pz3]
    refine wpAnyH_done (by kernel_rfl) ?_ _
    refine NoPanic.normal ?_
    go_wp2_with fail
    change bodyPost _ _ _ _ _ (st5 (st5 wm (w.heap.size + 1 + 1) 0 (.int .i64 T.nb) (.int .i64 T.nn) (.int .i64 T.ns) (.slice A1 T.bs.length c1) (.slice D1 T.ts.length e1)) (w.heap.size + 1 + 1 + 1) 0 (.int .i64 T.nb) (.int .i64 T.nn) (.int .i64 T.ns) (.slice A2 T.bs.length c2) (.slice D2 T.ts.length e2))
    apply bodyPost_ret (v := .tuple #[.agg #[.int .i64 T.nb, .int .i64 T.nn, .int .i64 T.ns, .slice A1 T.bs.length c1, .slice D1 T.ts.length e1], .agg #[.int .i64 T.nb, .int .i64 T.nn, .int .i64 T.ns, .slice A2 T.bs.length c2, .slice D2 T.ts.length e2], .bool true])
    · exact results_cc Tryz.results9 _ _ (w.heap.size + 1 + 1) (w.heap.size + 1 + 1 + 1) 25 _ _ (0, 0) _ rfl rfl B3b B4b Tryz.underlying25 rfl (by kernel_rfl) (by kernel_rfl)
    · rfl
    · rw [HRT.out]
      exact ⟨_, _, rfl, hA1b.base_ (by omega), hA2b.base_ (by omega), HBb⟩
end Go.Proofs.YtokhapafpjejaaaGreatDoor
namespace Go.Proofs.YtokhapafpjejaaaGreatDoor
open Go.ChangeShapes Go.WideShapes Go.ChangeAt Go.RowKit
attribute [local go_sem ↓] Go.wp_at_zero Go.wp_at_succ
def acC (x : Ac) : List Value := [.int .i64 x.d, .int .i64 x.a, .int .i64 x.b, .string x.nm]
theorem cells4a : Tryz.prog.cellsOf 27 = 4 := by kernel_rfl
theorem len4 {α : Type} {l : List α} (h : l.length = 4) : ∃ a b c d, l = [a, b, c, d] := by
  match l, h with
  | [a, b, c, d], _ => exact ⟨a, b, c, d, rfl⟩
theorem act_ok {w : World} {n : Nat} {x : List Value} (h : OkT Tryz.prog w (n + 2) 27 x) : ∃ b : Ac, x = acC b := by
  obtain ⟨hl, hf⟩ := okT_struct (n := n + 1) Tryz.underlying27 h
  rw [cells4a] at hl
  obtain ⟨a, b, c, d, rfl⟩ := len4 hl
  have h0 : OkT Tryz.prog w (n + 1) 3 ((([a, b, c, d] : List Value).drop 0).take (Tryz.prog.cellsOf 3)) := hf 0 _ rfl
  have h1 : OkT Tryz.prog w (n + 1) 3 ((([a, b, c, d] : List Value).drop 1).take (Tryz.prog.cellsOf 3)) := hf 1 _ rfl
  have h2 : OkT Tryz.prog w (n + 1) 3 ((([a, b, c, d] : List Value).drop 2).take (Tryz.prog.cellsOf 3)) := hf 2 _ rfl
  have h3 : OkT Tryz.prog w (n + 1) 9 ((([a, b, c, d] : List Value).drop 3).take (Tryz.prog.cellsOf 9)) := hf 3 _ rfl
  rw [cells1i] at h0 h1 h2
  rw [cells1s] at h3
  obtain ⟨z0, hz0, -⟩ := okT_int (n := n) Tryz.underlying3 h0
  obtain ⟨z1, hz1, -⟩ := okT_int (n := n) Tryz.underlying3 h1
  obtain ⟨z2, hz2, -⟩ := okT_int (n := n) Tryz.underlying3 h2
  obtain ⟨s, hs, -⟩ := okT_str (n := n) Tryz.underlying9 h3
  simp at hz0 hz1 hz2 hs
  subst hz0 hz1 hz2 hs
  exact ⟨⟨z0, z1, z2, s⟩, rfl⟩
def bigA (x : Ac) : Bool := decide (60 < x.nm.size)
def greatA (l : List Ac) (m : Nat) : Bool := decide (m < l.length) || l.any bigA
theorem great_any (l : List Ac) (m : Nat) (hm2 : m ≤ 1000) (A : Option Addr) (cp : Nat) (w : World) (hS : SlE 4 w w.heap.size A (l.map acC)) (hc : l.length ≤ cp) (hm : cp ≤ maxLen) (T : Bool) (hT : greatA l m = T) :
    Calls Tryz.prog 6 #[.slice A l.length cp, .int .i64 m] w fun e' w' => e' = .returned (.bool T) ∧ w' = w := by
  obtain ⟨n, hn⟩ : ∃ n, l.length = n := ⟨_, rfl⟩
  unfold greatA at hT
  rw [hn] at hc hT ⊢
  have HT := Lib.hid hT
  clear hT
  have HN := Lib.hid hn
  clear hn
  have hz : (0 : Int) ≤ (n : Int) := by omega
  by_cases h8 : n ≤ m
  · have h8i : (n : Int) ≤ (m : Int) := by omega
    have H0 : Hid ((l.take 0).any bigA = false) := Lib.hid rfl
    go_enter Tryz.func6, Tryz.ntmps6
    go_wp2_with fail
    go_loop [5] (fun i => ∃ k : Nat, k ≤ n ∧ i = .int .i64 k ∧ Hid ((l.take k).any bigA = false)) (fun i => n - (intOf i).toNat)
    case atStart => exact ⟨0, by omega, rfl, H0⟩
    case round =>
      obtain ⟨k, hk, rfl, HK⟩ := hrel
      clear H0
      by_cases hlt : k < n
      · have hlx : k < l.length := by have := HN.out; omega
        obtain ⟨b1, o1, rfl, l1, q1⟩ := SlE.at_ hS (by rw [List.length_map]; omega)
        obtain ⟨x, hx⟩ : ∃ x, l[k]? = some x := ⟨_, List.getElem?_eq_getElem hlx⟩
        have cx : w.cell? ⟨b1, o1 + k * 4 + 3, none⟩ = some (.string x.nm) := q1 k _ (show (l.map acC)[k]? = some (acC x) by rw [List.getElem?_map, hx]; rfl) 3 _ rfl
        have i0 : (0 : Int) ≤ (k : Int) := by omega
        have i1 : (k : Int) < (n : Int) := by omega
        have HX := Lib.hid hx
        clear q1 hx hlx
        by_cases h60 : 60 < x.nm.size
        · have g60 : (60 : Int) < (x.nm.size : Int) := by omega
          have hTt : T = true := by
            rw [← HT.out, List.any_eq_true.2 ⟨x, List.mem_of_getElem? HX.out, decide_eq_true h60⟩, Bool.or_true]
          have HTT := Lib.hid hTt
          clear h60 hTt
          go_wp2_with fail
          go_ret
          exact ⟨by rw [HTT.out]; rfl, by first | rfl | trivial⟩
        · have g60 : ¬ (60 : Int) < (x.nm.size : Int) := by omega
          have H60 : Hid (bigA x = false) := Lib.hid (decide_eq_false h60)
          clear h60
          go_wp2_with fail
          go_round
          case rel => exact ⟨k + 1, by omega, by go_num, Lib.hid (any_next HK.out HX.out H60.out)⟩
          case measure => simp [intOf]; omega
      · have hjn : k = n := by omega
        subst hjn
        clear hlt
        have g8 : ¬ (m : Int) < (k : Int) := by omega
        go_wp2_with fail
        go_ret
        refine ⟨?_, by first | rfl | trivial⟩
        have := HK.out
        rw [List.take_of_length_le (by rw [HN.out]; exact Nat.le_refl _)] at this
        rw [← HT.out, this, decide_eq_false (by omega)]
        rfl
  · have h8i : ¬ (n : Int) ≤ (m : Int) := by omega
    have h9i : (m : Int) < (n : Int) := by omega
    have h0i : (0 : Int) < (n : Int) := by omega
    have hTt : T = true := by rw [← HT.out, decide_eq_true (by omega), Bool.true_or]
    have HTT := Lib.hid hTt
    clear hTt
    go_enter Tryz.func6, Tryz.ntmps6
    go_wp2_with fail
    go_loop [5] (fun i => i = .int .i64 0) (fun i => 0)
    case atStart => rfl
    case round =>
      obtain rfl := hrel
      go_wp2_with fail
      go_ret
      exact ⟨by rw [HTT.out]; rfl, by first | rfl | trivial⟩
structure SmF (s : Sf) : Prop where
  b : ∀ b ∈ s.bs, b.nm.size ≤ 60
  n : ∀ n ∈ s.ts, n.nm.size ≤ 60 ∧ n.tg = [] ∧ n.sh = []
theorem SmF.sz {s : Sf} (h : SmF s) (hF : MayF s) : SzF s := by
  refine ⟨fun b hb => by have := h.b b hb; omega, fun n hn => ?_, by have := hF.bl; omega, by have := hF.tl; omega, ?_⟩
  · obtain ⟨h1, h2, h3⟩ := h.n n hn
    rw [h2, h3]
    exact ⟨by omega, ⟨by simp, by simp⟩, by simp⟩
  · have : s.ts.flatMap Nt.sh = [] := by
      rw [List.flatMap_eq_nil_iff]
      exact fun n hn => (h.n n hn).2.2
    rw [this]
    simp
structure ScF (s : Sf) (book note : Int) : Prop where
  may : MayF s
  sm : SmF s
  bk : book < s.nb
  nt : note < s.nn
theorem ScF.zero : ScF sf0 0 0 := ⟨mayF_of (by decide +kernel), ⟨fun b hb => by simp [sf0] at hb, fun n hn => by simp [sf0] at hn⟩, by decide, by decide⟩
end Go.Proofs.YtokhapafpjejaaaGreatDoor
namespace Go.Proofs.YtokhapafpjejaaaGreatDoor
open Go.ChangeShapes Go.WideShapes Go.ChangeAt Go.RowKit
attribute [local go_sem ↓] Go.wp_at_zero Go.wp_at_succ
theorem great1_any (x : Ac) (g : Nat) (w : World) (hB : Blk w g 27 #[.int .i64 x.d, .int .i64 x.a, .int .i64 x.b, .string x.nm]) (T : Bool) (hT : decide (60 < x.nm.size) = T) :
    Calls Tryz.prog 6 #[.slice (some ⟨g, 0, none⟩) 1 1, .int .i64 1] w fun e' w' => e' = .returned (.bool T) ∧ Below w.heap.size w w' := by
  have hS : SlE 4 w w.heap.size (some ⟨g, 0, none⟩) ([x].map acC) := by
    refine Or.inr ⟨g, 0, rfl, hB.lt, fun k e hk j u hu => ?_⟩
    cases k with
    | zero =>
      have he : acC x = e := by simpa using hk
      subst he
      rw [hB.cell_]
      simpa [acC] using hu
    | succ k => simp at hk
  have hg : greatA [x] 1 = T := by
    rw [← hT]
    unfold greatA bigA
    simp
  refine (great_any [x] 1 (by decide) (some ⟨g, 0, none⟩) 1 w hS (Nat.le_refl _) (by unfold maxLen; omega) T hg).mono ?_
  rintro e' w' ⟨h, h2⟩
  exact ⟨h, by rw [h2]; exact Below.refl _ _⟩
theorem tells_walk (s : Sf) (v : Value) (x : Ac) (w : World) (hS : ShR w w.heap.size v s) (hT : Tabs w) :
    Calls Tryz.prog 3 #[v, .agg #[.int .i64 x.d, .int .i64 x.a, .int .i64 x.b, .string x.nm]] w fun e' w' => e' = .returned (.bool true) ∧ Below w.heap.size w w' := by
  obtain ⟨d, a, b, nm⟩ := x
  have hS0 := hS
  obtain ⟨Ab, cb, An, cn, rfl, hB, hN, hcb, hmb, hcn, hmn⟩ := hS.ex
  clear hS
  have hT0 := hT
  clear hT hB hN hcb hmb hcn hmn
  have HB : Below w.heap.size w ((w.alloc (.cells #[.int .i64 s.nb, .int .i64 s.nn, .int .i64 s.ns, .slice Ab s.bs.length cb, .slice An s.ts.length cn] 25)).alloc (.cells #[.int .i64 d, .int .i64 a, .int .i64 b, .string nm] 27)) := ((Below.refl w.heap.size w).alloc (by first | (simp; done) | (simp; omega)) _).alloc (by first | (simp; done) | (simp; omega)) _
  have B1 : Blk ((w.alloc (.cells #[.int .i64 s.nb, .int .i64 s.nn, .int .i64 s.ns, .slice Ab s.bs.length cb, .slice An s.ts.length cn] 25)).alloc (.cells #[.int .i64 d, .int .i64 a, .int .i64 b, .string nm] 27)) w.heap.size 25 #[.int .i64 s.nb, .int .i64 s.nn, .int .i64 s.ns, .slice Ab s.bs.length cb, .slice An s.ts.length cn] := (Blk.new_ w 25 #[.int .i64 s.nb, .int .i64 s.nn, .int .i64 s.ns, .slice Ab s.bs.length cb, .slice An s.ts.length cn]).alloc_ _
  have B2 : Blk ((w.alloc (.cells #[.int .i64 s.nb, .int .i64 s.nn, .int .i64 s.ns, .slice Ab s.bs.length cb, .slice An s.ts.length cn] 25)).alloc (.cells #[.int .i64 d, .int .i64 a, .int .i64 b, .string nm] 27)) (w.heap.size + 1) 27 #[.int .i64 d, .int .i64 a, .int .i64 b, .string nm] := by
    have := Blk.new_ (w.alloc (.cells #[.int .i64 s.nb, .int .i64 s.nn, .int .i64 s.ns, .slice Ab s.bs.length cb, .slice An s.ts.length cn] 25)) 27 #[.int .i64 d, .int .i64 a, .int .i64 b, .string nm]
    simpa using this
  have S1 := hS0.next HB
  have T1 := hT0.next HB
  obtain ⟨G1, hG1⟩ : ∃ G, greatS s = G := ⟨_, rfl⟩
  obtain ⟨G2, hG2⟩ : ∃ G, decide (60 < nm.size) = G := ⟨_, rfl⟩
  have HG1 := Lib.hid hG1
  have HG2 : Hid (decide (60 < (⟨d, a, b, nm⟩ : Ac).nm.size) = G2) := Lib.hid hG2
  cases G1
  · cases G2
    · have hx : ¬ 60 < nm.size := of_decide_eq_false hG2
      have HX : Hid ((⟨d, a, b, nm⟩ : Ac).nm.size ≤ 100000) := Lib.hid (show nm.size ≤ 100000 by omega)
      have hz := sz_of_great hG1
      have HZ := Lib.hid hz
      have HLB := Lib.hid hz.bl
      have HLN := Lib.hid hz.tl
      have HLR : Hid (∀ n ∈ s.ts, n.tg.length ≤ 100000 ∧ n.sh.length ≤ 100000) := Lib.hid (fun n hn => ⟨(hz.hn n hn).2.1.2, (hz.hn n hn).2.2⟩)
      obtain ⟨M, hM⟩ : ∃ M, mayS s = M := ⟨_, rfl⟩
      have HM := Lib.hid hM
      have HMR : Hid (rMayB s = M) := Lib.hid ((rMay_eq s).trans hM)
      obtain ⟨T, hRT⟩ : ∃ T, resS s ⟨d, a, b, nm⟩ = T := ⟨_, rfl⟩
      have HRT := Lib.hid hRT
      have HTS := Lib.hid (res_small s ⟨d, a, b, nm⟩)
      rw [hRT] at HTS
      have HLL : Hid ((bksT s).length ≤ 1000 ∧ (ntsT s a).length ≤ 1000) := Lib.hid (lists_len s a (by rcases Nat.lt_or_ge 10 s.bs.length with h | h; (rw [gS_1 h] at hG1; cases hG1); omega) (by rcases Nat.lt_or_ge 16 s.ts.length with h | h; (rw [gS_2 h] at hG1; cases hG1); omega))
      have HFS := Lib.hid (fnd_small hz a)
      clear hG1 hG2 hx hz hM hRT
      go_enter Tryz.func3, Tryz.ntmps3
      go_upto_region 3 with (first | (go_at_call 5; go_loud (((with_reducible refine (greatShelf_any s _ _ S1 _ HG1.out).mono ?_); rintro e' w3 ⟨rfl, bx⟩; have B1 := B1.below bx B1.lt; have B2 := B2.below bx B2.lt; have HB := btr HB HB.size bx; have S1 := hS0.next HB; have T1 := hT0.next HB; (try clear k0 k1 k2 k3 k4 z0 z1 z2 z3); have k0 := B1.cell_ 0; have k1 := B1.cell_ 1; have k2 := B1.cell_ 2; have k3 := B1.cell_ 3; have k4 := B1.cell_ 4; have z0 := B2.cell_ 0; have z1 := B2.cell_ 1; have z2 := B2.cell_ 2; have z3 := B2.cell_ 3; simp at k0 k1 k2 k3 k4 z0 z1 z2 z3; have b3 := B2.lt; clear bx))) | (go_at_call 6; go_loud (((with_reducible refine (great1_any ⟨d, a, b, nm⟩ _ _ (Blk.new_ _ _ _) _ HG2.out).mono ?_); rintro e' w4 ⟨rfl, by_⟩; have bx := ((Below.refl w3.heap.size w3).alloc (Nat.le_refl _) (.cells #[.int .i64 d, .int .i64 a, .int .i64 b, .string nm] 27)).trans (by_.mono (by simp)); have B1 := B1.below bx B1.lt; have B2 := B2.below bx B2.lt; have HB := btr HB HB.size bx; have S1 := hS0.next HB; have T1 := hT0.next HB; (try clear k0 k1 k2 k3 k4 z0 z1 z2 z3); have k0 := B1.cell_ 0; have k1 := B1.cell_ 1; have k2 := B1.cell_ 2; have k3 := B1.cell_ 3; have k4 := B1.cell_ 4; have z0 := B2.cell_ 0; have z1 := B2.cell_ 1; have z2 := B2.cell_ 2; have z3 := B2.cell_ 3; simp at k0 k1 k2 k3 k4 z0 z1 z2 z3; clear bx by_))))
      go_upto_region 4 with (go_at_call 8; go_loud (((with_reducible refine (rcopy_any s _ _ S1 HLB.out HLN.out HLR.out).mono ?_); rintro e' w5 ⟨v5, rfl, hQ, bx⟩; (obtain ⟨A5, c5, D5, e5, rfl, -⟩ := hQ.parts); have B1 := B1.below bx B1.lt; have B2 := B2.below bx B2.lt; have HB := btr HB HB.size bx; have S1 := hS0.next HB; have T1 := hT0.next HB; clear bx)))
      have hal : Below w5.heap.size w5 (w5.alloc (.cells #[.int .i64 s.nb, .int .i64 s.nn, .int .i64 s.ns, .slice A5 s.bs.length c5, .slice D5 s.ts.length e5] 25)) := (Below.refl _ w5).alloc (Nat.le_refl _) _
      have B1 := B1.below hal B1.lt
      have B2 := B2.below hal B2.lt
      have HB := btr HB HB.size hal
      have B5 : Blk (w5.alloc (.cells #[.int .i64 s.nb, .int .i64 s.nn, .int .i64 s.ns, .slice A5 s.bs.length c5, .slice D5 s.ts.length e5] 25)) w5.heap.size 25 #[.int .i64 s.nb, .int .i64 s.nn, .int .i64 s.ns, .slice A5 s.bs.length c5, .slice D5 s.ts.length e5] := Blk.new_ w5 25 #[.int .i64 s.nb, .int .i64 s.nn, .int .i64 s.ns, .slice A5 s.bs.length c5, .slice D5 s.ts.length e5]
      have R5 : ShR (w5.alloc (.cells #[.int .i64 s.nb, .int .i64 s.nn, .int .i64 s.ns, .slice A5 s.bs.length c5, .slice D5 s.ts.length e5] 25)) ((w5.alloc (.cells #[.int .i64 s.nb, .int .i64 s.nn, .int .i64 s.ns, .slice A5 s.bs.length c5, .slice D5 s.ts.length e5] 25))).heap.size (.agg #[.int .i64 s.nb, .int .i64 s.nn, .int .i64 s.ns, .slice A5 s.bs.length c5, .slice D5 s.ts.length e5]) s := hQ.toR.next hal
      clear hal hQ S1 T1
      obtain ⟨Wb, hWb⟩ : ∃ V : World, V = (w5.alloc (.cells #[.int .i64 s.nb, .int .i64 s.nn, .int .i64 s.ns, .slice A5 s.bs.length c5, .slice D5 s.ts.length e5] 25)) := ⟨_, rfl⟩
      change Code.wp _ _ _ _ ((w5.alloc (.cells #[.int .i64 s.nb, .int .i64 s.nn, .int .i64 s.ns, .slice A5 s.bs.length c5, .slice D5 s.ts.length e5] 25)))
      rw [← hWb] at B1 B2 B5 HB R5 ⊢
      clear hWb
      have S1 := hS0.next HB
      have T1 := hT0.next HB
      have l5 : w5.heap.size < Wb.heap.size := B5.lt
      have l1 : w.heap.size + 1 < Wb.heap.size := B2.lt
      obtain ⟨g5, hg5⟩ : ∃ g, w5.heap.size = g := ⟨_, rfl⟩
      rw [hg5] at B5 l5
      (try clear k0 k1 k2 k3 k4 z0 z1 z2 z3)
      have k0 := B1.cell_ 0
      have k1 := B1.cell_ 1
      have k2 := B1.cell_ 2
      have k3 := B1.cell_ 3
      have k4 := B1.cell_ 4
      have z0 := B2.cell_ 0
      have z1 := B2.cell_ 1
      have z2 := B2.cell_ 2
      have z3 := B2.cell_ 3
      simp at k0 k1 k2 k3 k4 z0 z1 z2 z3
      rw [hg5]
      clear hg5
      go_upto_region 5 with (go_at_call 9; go_loud (((with_reducible refine (both_any s _ ⟨d, a, b, nm⟩ _ S1 T1 HZ.out HX.out).mono ?_); rintro e' w6 ⟨va, vb, rfl, hA, hV, bx⟩; rw [HRT.out] at hA hV; (obtain ⟨A6, c6, D6, e6, rfl, -⟩ := hA.parts); (obtain ⟨A7, c7, D7, e7, rfl, -⟩ := hV.parts); clear hV; have hb6 := bx; have B1 := B1.below bx B1.lt; have B2 := B2.below bx B2.lt; have B5 := B5.below bx B5.lt; have HB := btr HB HB.size bx; have S1 := hS0.next HB; have T1 := hT0.next HB; clear bx)))
      have hal : Below w6.heap.size w6 ((w6.alloc (.cells #[.int .i64 T.nb, .int .i64 T.nn, .int .i64 T.ns, .slice A6 T.bs.length c6, .slice D6 T.ts.length e6] 25)).alloc (.cells #[.int .i64 T.nb, .int .i64 T.nn, .int .i64 T.ns, .slice A7 T.bs.length c7, .slice D7 T.ts.length e7] 25)) := ((Below.refl _ _).alloc (Nat.le_refl _) _).alloc (by simp) _
      have B1 := B1.below hal B1.lt
      have B2 := B2.below hal B2.lt
      have B5 := B5.below hal B5.lt
      have HB := btr HB HB.size hal
      have B6 : Blk ((w6.alloc (.cells #[.int .i64 T.nb, .int .i64 T.nn, .int .i64 T.ns, .slice A6 T.bs.length c6, .slice D6 T.ts.length e6] 25)).alloc (.cells #[.int .i64 T.nb, .int .i64 T.nn, .int .i64 T.ns, .slice A7 T.bs.length c7, .slice D7 T.ts.length e7] 25)) w6.heap.size 25 #[.int .i64 T.nb, .int .i64 T.nn, .int .i64 T.ns, .slice A6 T.bs.length c6, .slice D6 T.ts.length e6] := (Blk.new_ w6 25 #[.int .i64 T.nb, .int .i64 T.nn, .int .i64 T.ns, .slice A6 T.bs.length c6, .slice D6 T.ts.length e6]).alloc_ _
      have hA := hA.below hal
      have hb7 := btr hb6 hb6.size hal
      have RB := R5.below hb7
      have hWb := hb7.size
      clear hal hb6 hb7 R5 S1 T1 k0 k1 k2 k3 k4 z0 z1 z2 z3
      obtain ⟨W7, hW7⟩ : ∃ V : World, V = ((w6.alloc (.cells #[.int .i64 T.nb, .int .i64 T.nn, .int .i64 T.ns, .slice A6 T.bs.length c6, .slice D6 T.ts.length e6] 25)).alloc (.cells #[.int .i64 T.nb, .int .i64 T.nn, .int .i64 T.ns, .slice A7 T.bs.length c7, .slice D7 T.ts.length e7] 25)) := ⟨_, rfl⟩
      change Code.wp _ _ _ _ (((w6.alloc (.cells #[.int .i64 T.nb, .int .i64 T.nn, .int .i64 T.ns, .slice A6 T.bs.length c6, .slice D6 T.ts.length e6] 25)).alloc (.cells #[.int .i64 T.nb, .int .i64 T.nn, .int .i64 T.ns, .slice A7 T.bs.length c7, .slice D7 T.ts.length e7] 25)))
      rw [← hW7] at B1 B2 B5 B6 HB hA RB hWb ⊢
      clear hW7
      obtain ⟨g6, hg6⟩ : ∃ g, w6.heap.size = g := ⟨_, rfl⟩
      rw [hg6] at B6 ⊢
      clear hg6
      go_cut [44] (fun v wx => v = .bool false ∧ Below W7.heap.size W7 wx)
      case first =>
        have S1 := hS0.next (btr HB HB.size (below_dr W7))
        have T1 := hT0.next (btr HB HB.size (below_dr W7))
        have HD := below_dr W7
        (try clear k0 k1 k2 k3 k4)
        have k0 := B1.cell_ 0
        have k1 := B1.cell_ 1
        have k2 := B1.cell_ 2
        have k3 := B1.cell_ 3
        have k4 := B1.cell_ 4
        simp at k0 k1 k2 k3 k4
        have QD : W7.drew.cell? ⟨w.heap.size, 0, none⟩ = some (.int .i64 s.nb) ∧ W7.drew.cell? ⟨w.heap.size, 1, none⟩ = some (.int .i64 s.nn) ∧ W7.drew.cell? ⟨w.heap.size, 2, none⟩ = some (.int .i64 s.ns) ∧ W7.drew.cell? ⟨w.heap.size, 3, none⟩ = some (.slice Ab s.bs.length cb) ∧ W7.drew.cell? ⟨w.heap.size, 4, none⟩ = some (.slice An s.ts.length cn) := ⟨k0, k1, k2, k3, k4⟩
        refine wp_region_noPanic ?_
        refine wp_region_held_drew (S := (fun w_ => w_.cell? ⟨w.heap.size, 0, none⟩ = some (.int .i64 s.nb) ∧ w_.cell? ⟨w.heap.size, 1, none⟩ = some (.int .i64 s.nn) ∧ w_.cell? ⟨w.heap.size, 2, none⟩ = some (.int .i64 s.ns) ∧ w_.cell? ⟨w.heap.size, 3, none⟩ = some (.slice Ab s.bs.length cb) ∧ w_.cell? ⟨w.heap.size, 4, none⟩ = some (.slice An s.ts.length cn))) (by kernel_rfl) ?_ (fun hHeld => ?_)
        · (first | with_reducible exact QD | with_reducible exact Q8)
        refine tk 0 ?_; try simp only [Act.put, pz1, pz2, pz3]
        refine tk 1 ?_; try simp only [Act.put, pz1, pz2, pz3]
        refine tk 2 ?_; try simp only [Act.put, pz1, pz2, pz3]
        refine tk 3 ?_; try simp only [Act.put, pz1, pz2, pz3]
        refine tk 5 ?_; try simp only [Act.put, pz1, pz2, pz3]
        refine wpAnyH_ready (rs := [4]) (by kernel_rfl) (by simp) ?_
        refine AllReadyH.cons (o := ⟨some 40, .call { callee := .value (.func 10), args := #[.tmp 39], argTypes := #[25] }, 4, "law.go:85", #[⟨3, .data⟩, ⟨2, .chain⟩, ⟨2, .guard⟩], some (2, false)⟩) rfl (fun K hK => ?_) AllReadyH.nil
        go_simp
        (go_at_call 10; go_loud (((with_reducible refine (smay_any s _ _ S1 T1 _ HM.out).mono ?_); rintro e' w8 ⟨rfl, bx⟩; have S1 := S1.next bx; have T1 := T1.next bx; have HD := btr HD HD.size bx; have Q8 : w8.cell? ⟨w.heap.size, 0, none⟩ = some (.int .i64 s.nb) ∧ w8.cell? ⟨w.heap.size, 1, none⟩ = some (.int .i64 s.nn) ∧ w8.cell? ⟨w.heap.size, 2, none⟩ = some (.int .i64 s.ns) ∧ w8.cell? ⟨w.heap.size, 3, none⟩ = some (.slice Ab s.bs.length cb) ∧ w8.cell? ⟨w.heap.size, 4, none⟩ = some (.slice An s.ts.length cn) := ⟨(HD.cell (p := ⟨w.heap.size, 0, none⟩) B1.lt).trans k0, (HD.cell (p := ⟨w.heap.size, 1, none⟩) B1.lt).trans k1, (HD.cell (p := ⟨w.heap.size, 2, none⟩) B1.lt).trans k2, (HD.cell (p := ⟨w.heap.size, 3, none⟩) B1.lt).trans k3, (HD.cell (p := ⟨w.heap.size, 4, none⟩) B1.lt).trans k4⟩; clear bx)))
        go_wp2_with fail
        refine hK.out _ _ ?_ (fun hNew => ?_)
        · (first | with_reducible exact QD | with_reducible exact Q8)
        clear hK K hHeld
        have hHeld := hNew
        clear hNew
        try simp only [Act.put, pz1, pz2, pz3]
        refine wpAnyH_ready (rs := [6]) (by kernel_rfl) (by simp) ?_
        refine AllReadyH.cons (o := ⟨some 42, .call { callee := .value (.func 11), args := #[.tmp 41], argTypes := #[25] }, 4, "law.go:85", #[⟨5, .data⟩, ⟨4, .chain⟩, ⟨2, .guard⟩], some (2, false)⟩) rfl (fun K hK => ?_) AllReadyH.nil
        go_simp
        (go_at_call 11; go_loud (((with_reducible refine (rMay_any s _ _ S1 HZ.out _ HMR.out).mono ?_); rintro e' w8 ⟨rfl, bx⟩; have S1 := S1.next bx; have T1 := T1.next bx; have HD := btr HD HD.size bx; have Q8 : w8.cell? ⟨w.heap.size, 0, none⟩ = some (.int .i64 s.nb) ∧ w8.cell? ⟨w.heap.size, 1, none⟩ = some (.int .i64 s.nn) ∧ w8.cell? ⟨w.heap.size, 2, none⟩ = some (.int .i64 s.ns) ∧ w8.cell? ⟨w.heap.size, 3, none⟩ = some (.slice Ab s.bs.length cb) ∧ w8.cell? ⟨w.heap.size, 4, none⟩ = some (.slice An s.ts.length cn) := ⟨(HD.cell (p := ⟨w.heap.size, 0, none⟩) B1.lt).trans k0, (HD.cell (p := ⟨w.heap.size, 1, none⟩) B1.lt).trans k1, (HD.cell (p := ⟨w.heap.size, 2, none⟩) B1.lt).trans k2, (HD.cell (p := ⟨w.heap.size, 3, none⟩) B1.lt).trans k3, (HD.cell (p := ⟨w.heap.size, 4, none⟩) B1.lt).trans k4⟩; clear bx)))
        go_wp2_with fail
        refine hK.out _ _ ?_ (fun hNew => ?_)
        · (first | with_reducible exact QD | with_reducible exact Q8)
        clear hK K hHeld
        have hHeld := hNew
        clear hNew
        try simp only [Act.put, pz1, pz2, pz3]
        refine tk 7 ?_; try simp only [Act.put, pz1, pz2, pz3]
        refine tk 8 ?_; try simp only [Act.put, pz1, pz2, pz3]
        refine wpAnyH_done (by kernel_rfl) ?_ _
        refine NoPanic.normal ?_
        go_wp2_with fail
        go_meet
        exact ⟨by simp, HD⟩
      case rest =>
        obtain ⟨rfl, hb⟩ := hcut
        have B1 := B1.below hb B1.lt
        have B2 := B2.below hb B2.lt
        have B5 := B5.below hb B5.lt
        have B6 := B6.below hb B6.lt
        have HB := btr HB HB.size hb
        have S1 := hS0.next HB
        have T1 := hT0.next HB
        have RB := RB.below (hb.mono hWb)
        have hWb := Nat.le_trans hWb hb.size
        have hA := hA.below hb
        clear hb
        (try clear k0 k1 k2 k3 k4 z0 z1 z2 z3 u0 u1 u2 u3 u4)
        have k0 := B1.cell_ 0
        have k1 := B1.cell_ 1
        have k2 := B1.cell_ 2
        have k3 := B1.cell_ 3
        have k4 := B1.cell_ 4
        have z0 := B2.cell_ 0
        have z1 := B2.cell_ 1
        have z2 := B2.cell_ 2
        have z3 := B2.cell_ 3
        have u0 := B6.cell_ 0
        have u1 := B6.cell_ 1
        have u2 := B6.cell_ 2
        have u3 := B6.cell_ 3
        have u4 := B6.cell_ 4
        simp at k0 k1 k2 k3 k4 z0 z1 z2 z3 u0 u1 u2 u3 u4
        go_upto_region 8 with (go_at_call 12; go_loud (((with_reducible refine (overS_any T _ _ _ hA hWb HTS.out.1 HTS.out.2.1 HTS.out.2.2).mono ?_); rintro e' w9 ⟨rfl, b9⟩; have B1 := B1.below b9 (by omega); have B2 := B2.below b9 (by omega); have B5 := B5.below b9 l5; have HB := HB.trans (b9.mono (by omega)); have S1 := hS0.next HB; have T1 := hT0.next HB; have RB := RB.below b9; have hWb := Nat.le_trans hWb b9.size; (try clear u0 u1 u2 u3 u4); (try clear k0 k1 k2 k3 k4 z0 z1 z2 z3); have k0 := B1.cell_ 0; have k1 := B1.cell_ 1; have k2 := B1.cell_ 2; have k3 := B1.cell_ 3; have k4 := B1.cell_ 4; have z0 := B2.cell_ 0; have z1 := B2.cell_ 1; have z2 := B2.cell_ 2; have z3 := B2.cell_ 3; simp at k0 k1 k2 k3 k4 z0 z1 z2 z3; clear b9 B6 hA)))
        go_upto_region 9 with (go_at_call 13; go_loud (((with_reducible refine (bksA_any s _ _ S1 T1).mono ?_); rintro e' w10 ⟨E1, n1, xb, rfl, sb, ob, bx⟩; have ob := own_base ob hWb; have B1 := B1.below bx B1.lt; have B2 := B2.below bx B2.lt; have B5 := B5.below bx B5.lt; have HB := btr HB HB.size bx; have S1 := hS0.next HB; have T1 := hT0.next HB; have RB := RB.below (bx.mono hWb); have hWb := Nat.le_trans hWb bx.size; (try clear k0 k1 k2 k3 k4 z0 z1 z2 z3); have k0 := B1.cell_ 0; have k1 := B1.cell_ 1; have k2 := B1.cell_ 2; have k3 := B1.cell_ 3; have k4 := B1.cell_ 4; have z0 := B2.cell_ 0; have z1 := B2.cell_ 1; have z2 := B2.cell_ 2; have z3 := B2.cell_ 3; simp at k0 k1 k2 k3 k4 z0 z1 z2 z3; clear bx)))
        go_upto_region 10 with (go_at_call 14; go_loud (((with_reducible refine (ntsA_any s _ a _ S1 T1).mono ?_); rintro e' w11 ⟨E2, n2, xn, rfl, sn, on_, bx⟩; have on_ := own_base on_ hWb; have B1 := B1.below bx B1.lt; have B2 := B2.below bx B2.lt; have B5 := B5.below bx B5.lt; have HB := btr HB HB.size bx; have S1 := hS0.next HB; have T1 := hT0.next HB; have RB := RB.below (bx.mono hWb); have hWb := Nat.le_trans hWb bx.size; have ob := own_belowW ob bx; have sb := sb.next bx; (try clear k0 k1 k2 k3 k4 z0 z1 z2 z3); have k0 := B1.cell_ 0; have k1 := B1.cell_ 1; have k2 := B1.cell_ 2; have k3 := B1.cell_ 3; have k4 := B1.cell_ 4; have z0 := B2.cell_ 0; have z1 := B2.cell_ 1; have z2 := B2.cell_ 2; have z3 := B2.cell_ 3; simp at k0 k1 k2 k3 k4 z0 z1 z2 z3; clear bx)))
        go_upto_region 11 with (go_at_call 15; go_loud (((with_reducible refine (rnotes_all s _ a _ S1 HZ.out).mono ?_); rintro e' w12 ⟨E3, n3, rfl, sm, bx⟩; have B1 := B1.below bx B1.lt; have B2 := B2.below bx B2.lt; have B5 := B5.below bx B5.lt; have HB := btr HB HB.size bx; have S1 := hS0.next HB; have T1 := hT0.next HB; have RB := RB.below (bx.mono hWb); have hWb := Nat.le_trans hWb bx.size; have ob := own_belowW ob bx; have on_ := own_belowW on_ bx; have sb := sb.next bx; have sn := sn.next bx; (try clear k0 k1 k2 k3 k4 z0 z1 z2 z3); have k0 := B1.cell_ 0; have k1 := B1.cell_ 1; have k2 := B1.cell_ 2; have k3 := B1.cell_ 3; have k4 := B1.cell_ 4; have z0 := B2.cell_ 0; have z1 := B2.cell_ 1; have z2 := B2.cell_ 2; have z3 := B2.cell_ 3; simp at k0 k1 k2 k3 k4 z0 z1 z2 z3; clear bx)))
        go_upto_region 12 with (go_at_call 16; go_loud (((with_reducible refine (find_all s _ a _ S1 T1).mono ?_); rintro e' w13 ⟨v1, v2, rfl, o1, o2, bx⟩; have o1 := own_base o1 hWb; have o2 := own_base o2 hWb; (obtain ⟨F1, f1, rfl, -⟩ := own_shape o1); (obtain ⟨F2, f2, rfl, -⟩ := own_shape o2); have B1 := B1.below bx B1.lt; have B2 := B2.below bx B2.lt; have B5 := B5.below bx B5.lt; have HB := btr HB HB.size bx; have S1 := hS0.next HB; have T1 := hT0.next HB; have RB := RB.below (bx.mono hWb); have hWb := Nat.le_trans hWb bx.size; have ob := own_belowW ob bx; have on_ := own_belowW on_ bx; have sb := sb.next bx; have sn := sn.next bx; have sm := sm.next bx; (try clear k0 k1 k2 k3 k4 z0 z1 z2 z3); have k0 := B1.cell_ 0; have k1 := B1.cell_ 1; have k2 := B1.cell_ 2; have k3 := B1.cell_ 3; have k4 := B1.cell_ 4; have z0 := B2.cell_ 0; have z1 := B2.cell_ 1; have z2 := B2.cell_ 2; have z3 := B2.cell_ 3; simp at k0 k1 k2 k3 k4 z0 z1 z2 z3; clear bx)))
        have hal : Below w13.heap.size w13 (w13.alloc (.cells #[.int .i64 (fndN s a).id, .int .i64 (fndN s a).bk, .string (fndN s a).nm, .slice F1 (fndN s a).tg.length f1, .slice F2 (fndN s a).sh.length f2] 46)) := (Below.refl _ _).alloc (Nat.le_refl _) _
        have B1 := B1.below hal B1.lt
        have B2 := B2.below hal B2.lt
        have B5 := B5.below hal B5.lt
        have HB := btr HB HB.size hal
        have S1 := hS0.next HB
        have T1 := hT0.next HB
        have RB := RB.below (hal.mono hWb)
        have hWb := Nat.le_trans hWb hal.size
        have ob := own_belowW ob hal
        have on_ := own_belowW on_ hal
        have o1 := own_belowW o1 hal
        have o2 := own_belowW o2 hal
        have sb := sb.next hal
        have sn := sn.next hal
        have sm := sm.next hal
        have B14 : Blk (w13.alloc (.cells #[.int .i64 (fndN s a).id, .int .i64 (fndN s a).bk, .string (fndN s a).nm, .slice F1 (fndN s a).tg.length f1, .slice F2 (fndN s a).sh.length f2] 46)) w13.heap.size 46 #[.int .i64 (fndN s a).id, .int .i64 (fndN s a).bk, .string (fndN s a).nm, .slice F1 (fndN s a).tg.length f1, .slice F2 (fndN s a).sh.length f2] := Blk.new_ w13 46 #[.int .i64 (fndN s a).id, .int .i64 (fndN s a).bk, .string (fndN s a).nm, .slice F1 (fndN s a).tg.length f1, .slice F2 (fndN s a).sh.length f2]
        clear hal S1 T1
        obtain ⟨wd, hwd⟩ : ∃ V : World, V = (w13.alloc (.cells #[.int .i64 (fndN s a).id, .int .i64 (fndN s a).bk, .string (fndN s a).nm, .slice F1 (fndN s a).tg.length f1, .slice F2 (fndN s a).sh.length f2] 46)) := ⟨_, rfl⟩
        change Code.wp _ _ _ _ ((w13.alloc (.cells #[.int .i64 (fndN s a).id, .int .i64 (fndN s a).bk, .string (fndN s a).nm, .slice F1 (fndN s a).tg.length f1, .slice F2 (fndN s a).sh.length f2] 46)))
        rw [← hwd] at B1 B2 B5 B14 HB RB hWb ob on_ o1 o2 sb sn sm ⊢
        clear hwd
        obtain ⟨g14, hg14⟩ : ∃ g, w13.heap.size = g := ⟨_, rfl⟩
        rw [hg14] at B14 ⊢
        clear hg14
        have S1 := hS0.next HB
        have T1 := hT0.next HB
        (try clear k0 k1 k2 k3 k4 z0 z1 z2 z3)
        have k0 := B1.cell_ 0
        have k1 := B1.cell_ 1
        have k2 := B1.cell_ 2
        have k3 := B1.cell_ 3
        have k4 := B1.cell_ 4
        have z0 := B2.cell_ 0
        have z1 := B2.cell_ 1
        have z2 := B2.cell_ 2
        have z3 := B2.cell_ 3
        simp at k0 k1 k2 k3 k4 z0 z1 z2 z3
        go_upto_region 13 with (go_at_call 17; go_loud (((with_reducible refine (rfind_all s _ a _ S1 HZ.out).mono ?_); rintro e' w15 ⟨v3, v4, rfl, p1, p2, bx⟩; have p1 := own_base p1 hWb; have p2 := own_base p2 hWb; (obtain ⟨F3, f3, rfl, -⟩ := own_shape p1); (obtain ⟨F4, f4, rfl, -⟩ := own_shape p2); have B1 := B1.below bx B1.lt; have B2 := B2.below bx B2.lt; have B5 := B5.below bx B5.lt; have B14 := B14.below bx B14.lt; have HB := btr HB HB.size bx; have S1 := hS0.next HB; have T1 := hT0.next HB; have RB := RB.below (bx.mono hWb); have hWb := Nat.le_trans hWb bx.size; have ob := own_belowW ob bx; have on_ := own_belowW on_ bx; have o1 := own_belowW o1 bx; have o2 := own_belowW o2 bx; have sb := sb.next bx; have sn := sn.next bx; have sm := sm.next bx; (try clear k0 k1 k2 k3 k4 z0 z1 z2 z3); have k0 := B1.cell_ 0; have k1 := B1.cell_ 1; have k2 := B1.cell_ 2; have k3 := B1.cell_ 3; have k4 := B1.cell_ 4; have z0 := B2.cell_ 0; have z1 := B2.cell_ 1; have z2 := B2.cell_ 2; have z3 := B2.cell_ 3; simp at k0 k1 k2 k3 k4 z0 z1 z2 z3; clear bx)))
        have hal : Below w15.heap.size w15 (w15.alloc (.cells #[.int .i64 (fndN s a).id, .int .i64 (fndN s a).bk, .string (fndN s a).nm, .slice F3 (fndN s a).tg.length f3, .slice F4 (fndN s a).sh.length f4] 46)) := (Below.refl _ _).alloc (Nat.le_refl _) _
        have B1 := B1.below hal B1.lt
        have B2 := B2.below hal B2.lt
        have B5 := B5.below hal B5.lt
        have B14 := B14.below hal B14.lt
        have HB := btr HB HB.size hal
        have S1 := hS0.next HB
        have T1 := hT0.next HB
        have RB := RB.below (hal.mono hWb)
        have hWb := Nat.le_trans hWb hal.size
        have ob := own_belowW ob hal
        have on_ := own_belowW on_ hal
        have o1 := own_belowW o1 hal
        have o2 := own_belowW o2 hal
        have p1 := own_belowW p1 hal
        have p2 := own_belowW p2 hal
        have sb := sb.next hal
        have sn := sn.next hal
        have sm := sm.next hal
        have B16 : Blk (w15.alloc (.cells #[.int .i64 (fndN s a).id, .int .i64 (fndN s a).bk, .string (fndN s a).nm, .slice F3 (fndN s a).tg.length f3, .slice F4 (fndN s a).sh.length f4] 46)) w15.heap.size 46 #[.int .i64 (fndN s a).id, .int .i64 (fndN s a).bk, .string (fndN s a).nm, .slice F3 (fndN s a).tg.length f3, .slice F4 (fndN s a).sh.length f4] := Blk.new_ w15 46 #[.int .i64 (fndN s a).id, .int .i64 (fndN s a).bk, .string (fndN s a).nm, .slice F3 (fndN s a).tg.length f3, .slice F4 (fndN s a).sh.length f4]
        clear hal S1 T1
        obtain ⟨we, hwe⟩ : ∃ V : World, V = (w15.alloc (.cells #[.int .i64 (fndN s a).id, .int .i64 (fndN s a).bk, .string (fndN s a).nm, .slice F3 (fndN s a).tg.length f3, .slice F4 (fndN s a).sh.length f4] 46)) := ⟨_, rfl⟩
        change Code.wp _ _ _ _ ((w15.alloc (.cells #[.int .i64 (fndN s a).id, .int .i64 (fndN s a).bk, .string (fndN s a).nm, .slice F3 (fndN s a).tg.length f3, .slice F4 (fndN s a).sh.length f4] 46)))
        rw [← hwe] at B1 B2 B5 B14 B16 HB RB hWb ob on_ o1 o2 p1 p2 sb sn sm ⊢
        clear hwe
        obtain ⟨g16, hg16⟩ : ∃ g, w15.heap.size = g := ⟨_, rfl⟩
        rw [hg16] at B16 ⊢
        clear hg16
        have S1 := hS0.next HB
        have T1 := hT0.next HB
        (try clear k0 k1 k2 k3 k4 z0 z1 z2 z3)
        have k0 := B1.cell_ 0
        have k1 := B1.cell_ 1
        have k2 := B1.cell_ 2
        have k3 := B1.cell_ 3
        have k4 := B1.cell_ 4
        have z0 := B2.cell_ 0
        have z1 := B2.cell_ 1
        have z2 := B2.cell_ 2
        have z3 := B2.cell_ 3
        simp at k0 k1 k2 k3 k4 z0 z1 z2 z3
        (try clear k0 k1 k2 k3 k4 z0 z1 z2 z3 m0 m1 m2 m3 m4 n0 n1 n2 n3 n4)
        have k0 := B1.cell_ 0
        have k1 := B1.cell_ 1
        have k2 := B1.cell_ 2
        have k3 := B1.cell_ 3
        have k4 := B1.cell_ 4
        have z0 := B2.cell_ 0
        have z1 := B2.cell_ 1
        have z2 := B2.cell_ 2
        have z3 := B2.cell_ 3
        have m0 := B14.cell_ 0
        have m1 := B14.cell_ 1
        have m2 := B14.cell_ 2
        have m3 := B14.cell_ 3
        have m4 := B14.cell_ 4
        have n0 := B16.cell_ 0
        have n1 := B16.cell_ 1
        have n2 := B16.cell_ 2
        have n3 := B16.cell_ 3
        have n4 := B16.cell_ 4
        simp at k0 k1 k2 k3 k4 z0 z1 z2 z3 m0 m1 m2 m3 m4 n0 n1 n2 n3 n4
        go_upto_region 14 with (first | (go_at_call 19; go_loud (((with_reducible refine (rbooks_all s _ _ S1 HZ.out).mono ?_); rintro e' w20 ⟨E4, n4, rfl, sr, bx⟩; have B1 := B1.below bx B1.lt; have B2 := B2.below bx B2.lt; have B5 := B5.below bx B5.lt; have B14 := B14.below bx B14.lt; have B16 := B16.below bx B16.lt; have HB := btr HB HB.size bx; have S1 := hS0.next HB; have T1 := hT0.next HB; have RB := RB.below (bx.mono hWb); have hWb := Nat.le_trans hWb bx.size; have ob := own_belowW ob bx; have on_ := own_belowW on_ bx; have o1 := own_belowW o1 bx; have o2 := own_belowW o2 bx; have p1 := own_belowW p1 bx; have p2 := own_belowW p2 bx; have sb := sb.next bx; have sn := sn.next bx; have sm := sm.next bx; (try clear k0 k1 k2 k3 k4 z0 z1 z2 z3 m0 m1 m2 m3 m4 n0 n1 n2 n3 n4); have k0 := B1.cell_ 0; have k1 := B1.cell_ 1; have k2 := B1.cell_ 2; have k3 := B1.cell_ 3; have k4 := B1.cell_ 4; have z0 := B2.cell_ 0; have z1 := B2.cell_ 1; have z2 := B2.cell_ 2; have z3 := B2.cell_ 3; have m0 := B14.cell_ 0; have m1 := B14.cell_ 1; have m2 := B14.cell_ 2; have m3 := B14.cell_ 3; have m4 := B14.cell_ 4; have n0 := B16.cell_ 0; have n1 := B16.cell_ 1; have n2 := B16.cell_ 2; have n3 := B16.cell_ 3; have n4 := B16.cell_ 4; simp at k0 k1 k2 k3 k4 z0 z1 z2 z3 m0 m1 m2 m3 m4 n0 n1 n2 n3 n4; clear bx))) | (go_at_call 18; go_loud (((with_reducible refine (sameItems_yes (bksT s) _ _ _ _ _ _ rfl (by have := HLL.out.1; omega) sb sr).mono ?_); rintro e' w21 ⟨rfl, bx⟩; have B1 := B1.below bx B1.lt; have B2 := B2.below bx B2.lt; have B5 := B5.below bx B5.lt; have B14 := B14.below bx B14.lt; have B16 := B16.below bx B16.lt; have HB := btr HB HB.size bx; have S1 := hS0.next HB; have T1 := hT0.next HB; have RB := RB.below (bx.mono hWb); have hWb := Nat.le_trans hWb bx.size; have ob := own_belowW ob bx; have on_ := own_belowW on_ bx; have o1 := own_belowW o1 bx; have o2 := own_belowW o2 bx; have p1 := own_belowW p1 bx; have p2 := own_belowW p2 bx; have sb := sb.next bx; have sn := sn.next bx; have sm := sm.next bx; (try clear k0 k1 k2 k3 k4 z0 z1 z2 z3 m0 m1 m2 m3 m4 n0 n1 n2 n3 n4); have k0 := B1.cell_ 0; have k1 := B1.cell_ 1; have k2 := B1.cell_ 2; have k3 := B1.cell_ 3; have k4 := B1.cell_ 4; have z0 := B2.cell_ 0; have z1 := B2.cell_ 1; have z2 := B2.cell_ 2; have z3 := B2.cell_ 3; have m0 := B14.cell_ 0; have m1 := B14.cell_ 1; have m2 := B14.cell_ 2; have m3 := B14.cell_ 3; have m4 := B14.cell_ 4; have n0 := B16.cell_ 0; have n1 := B16.cell_ 1; have n2 := B16.cell_ 2; have n3 := B16.cell_ 3; have n4 := B16.cell_ 4; simp at k0 k1 k2 k3 k4 z0 z1 z2 z3 m0 m1 m2 m3 m4 n0 n1 n2 n3 n4; clear bx sr))) | (go_at_call 18; go_loud (((with_reducible refine (sameItems_yes (ntsT s a) _ _ _ _ _ _ rfl (by have := HLL.out.2; omega) sn sm).mono ?_); rintro e' w22 ⟨rfl, bx⟩; have B1 := B1.below bx B1.lt; have B2 := B2.below bx B2.lt; have B5 := B5.below bx B5.lt; have B14 := B14.below bx B14.lt; have B16 := B16.below bx B16.lt; have HB := btr HB HB.size bx; have S1 := hS0.next HB; have T1 := hT0.next HB; have RB := RB.below (bx.mono hWb); have hWb := Nat.le_trans hWb bx.size; have ob := own_belowW ob bx; have on_ := own_belowW on_ bx; have o1 := own_belowW o1 bx; have o2 := own_belowW o2 bx; have p1 := own_belowW p1 bx; have p2 := own_belowW p2 bx; have sb := sb.next bx; have sn := sn.next bx; have sm := sm.next bx; (try clear k0 k1 k2 k3 k4 z0 z1 z2 z3 m0 m1 m2 m3 m4 n0 n1 n2 n3 n4); have k0 := B1.cell_ 0; have k1 := B1.cell_ 1; have k2 := B1.cell_ 2; have k3 := B1.cell_ 3; have k4 := B1.cell_ 4; have z0 := B2.cell_ 0; have z1 := B2.cell_ 1; have z2 := B2.cell_ 2; have z3 := B2.cell_ 3; have m0 := B14.cell_ 0; have m1 := B14.cell_ 1; have m2 := B14.cell_ 2; have m3 := B14.cell_ 3; have m4 := B14.cell_ 4; have n0 := B16.cell_ 0; have n1 := B16.cell_ 1; have n2 := B16.cell_ 2; have n3 := B16.cell_ 3; have n4 := B16.cell_ 4; simp at k0 k1 k2 k3 k4 z0 z1 z2 z3 m0 m1 m2 m3 m4 n0 n1 n2 n3 n4; clear bx))) | (go_at_call 20; go_loud (((with_reducible refine (num_any _ _).mono ?_); rintro e' w23 ⟨rfl, bx⟩; have B1 := B1.below bx B1.lt; have B2 := B2.below bx B2.lt; have B5 := B5.below bx B5.lt; have B14 := B14.below bx B14.lt; have B16 := B16.below bx B16.lt; have HB := btr HB HB.size bx; have S1 := hS0.next HB; have T1 := hT0.next HB; have RB := RB.below (bx.mono hWb); have hWb := Nat.le_trans hWb bx.size; have ob := own_belowW ob bx; have on_ := own_belowW on_ bx; have o1 := own_belowW o1 bx; have o2 := own_belowW o2 bx; have p1 := own_belowW p1 bx; have p2 := own_belowW p2 bx; have sb := sb.next bx; have sn := sn.next bx; have sm := sm.next bx; (try clear k0 k1 k2 k3 k4 z0 z1 z2 z3 m0 m1 m2 m3 m4 n0 n1 n2 n3 n4); have k0 := B1.cell_ 0; have k1 := B1.cell_ 1; have k2 := B1.cell_ 2; have k3 := B1.cell_ 3; have k4 := B1.cell_ 4; have z0 := B2.cell_ 0; have z1 := B2.cell_ 1; have z2 := B2.cell_ 2; have z3 := B2.cell_ 3; have m0 := B14.cell_ 0; have m1 := B14.cell_ 1; have m2 := B14.cell_ 2; have m3 := B14.cell_ 3; have m4 := B14.cell_ 4; have n0 := B16.cell_ 0; have n1 := B16.cell_ 1; have n2 := B16.cell_ 2; have n3 := B16.cell_ 3; have n4 := B16.cell_ 4; simp at k0 k1 k2 k3 k4 z0 z1 z2 z3 m0 m1 m2 m3 m4 n0 n1 n2 n3 n4; clear bx))) | (go_at_call 21; go_loud (((with_reducible refine (sameNote_yes (fndN s a) _ _ _ _ _ _ _ _ _ (Sl.of_own o1) (Sl.of_own o2) (Sl.of_own p1) (Sl.of_own p2) HFS.out.1 HFS.out.2).mono ?_); rintro e' w24 ⟨rfl, bx⟩; have B1 := B1.below bx B1.lt; have B2 := B2.below bx B2.lt; have B5 := B5.below bx B5.lt; have B14 := B14.below bx B14.lt; have B16 := B16.below bx B16.lt; have HB := btr HB HB.size bx; have S1 := hS0.next HB; have T1 := hT0.next HB; have RB := RB.below (bx.mono hWb); have hWb := Nat.le_trans hWb bx.size; have ob := own_belowW ob bx; have on_ := own_belowW on_ bx; have o1 := own_belowW o1 bx; have o2 := own_belowW o2 bx; have p1 := own_belowW p1 bx; have p2 := own_belowW p2 bx; have sb := sb.next bx; have sn := sn.next bx; have sm := sm.next bx; (try clear k0 k1 k2 k3 k4 z0 z1 z2 z3 m0 m1 m2 m3 m4 n0 n1 n2 n3 n4); have k0 := B1.cell_ 0; have k1 := B1.cell_ 1; have k2 := B1.cell_ 2; have k3 := B1.cell_ 3; have k4 := B1.cell_ 4; have z0 := B2.cell_ 0; have z1 := B2.cell_ 1; have z2 := B2.cell_ 2; have z3 := B2.cell_ 3; have m0 := B14.cell_ 0; have m1 := B14.cell_ 1; have m2 := B14.cell_ 2; have m3 := B14.cell_ 3; have m4 := B14.cell_ 4; have n0 := B16.cell_ 0; have n1 := B16.cell_ 1; have n2 := B16.cell_ 2; have n3 := B16.cell_ 3; have n4 := B16.cell_ 4; simp at k0 k1 k2 k3 k4 z0 z1 z2 z3 m0 m1 m2 m3 m4 n0 n1 n2 n3 n4; clear bx))))
        clear p1 p2 sb sn sm B16 n0 n1 n2 n3 n4
        go_upto_region 15 with (go_at_call 22; go_loud (((with_reducible refine (overIt_any _ _ _ _ _ _ ob hWb (by have := HLL.out.1; omega)).mono ?_); rintro e' w25 ⟨rfl, b9, g9, k9⟩; have B1 := B1.below b9 (by omega); have B2 := B2.below b9 (by omega); have B5 := B5.below b9 l5; have HB := HB.trans (b9.mono (by omega)); have S1 := hS0.next HB; have T1 := hT0.next HB; have RB := RB.below b9; have hWb := Nat.le_trans hWb b9.size; have B14 := B14.grownR g9 (blk_neq ob B14 (by decide)); (obtain ⟨y_on_, on_n⟩ := own_keepB on_ k9); have on_ := on_n; clear on_n; (obtain ⟨y_o1, o1n⟩ := own_keepB o1 k9); have o1 := o1n; clear o1n; (obtain ⟨y_o2, o2n⟩ := own_keepB o2 k9); have o2 := o2n; clear o2n; (try clear k0 k1 k2 k3 k4 z0 z1 z2 z3 m0 m1 m2 m3 m4); have k0 := B1.cell_ 0; have k1 := B1.cell_ 1; have k2 := B1.cell_ 2; have k3 := B1.cell_ 3; have k4 := B1.cell_ 4; have z0 := B2.cell_ 0; have z1 := B2.cell_ 1; have z2 := B2.cell_ 2; have z3 := B2.cell_ 3; have m0 := B14.cell_ 0; have m1 := B14.cell_ 1; have m2 := B14.cell_ 2; have m3 := B14.cell_ 3; have m4 := B14.cell_ 4; simp at k0 k1 k2 k3 k4 z0 z1 z2 z3 m0 m1 m2 m3 m4; clear b9 g9 k9 ob)))
        go_upto_region 16 with (go_at_call 22; go_loud (((with_reducible refine (overIt_any _ _ _ _ _ _ on_ hWb (by have := HLL.out.2; omega)).mono ?_); rintro e' w26 ⟨rfl, b9, g9, k9⟩; have B1 := B1.below b9 (by omega); have B2 := B2.below b9 (by omega); have B5 := B5.below b9 l5; have HB := HB.trans (b9.mono (by omega)); have S1 := hS0.next HB; have T1 := hT0.next HB; have RB := RB.below b9; have hWb := Nat.le_trans hWb b9.size; have B14 := B14.grownR g9 (blk_neq on_ B14 (by decide)); (obtain ⟨y_o1, o1n⟩ := own_keepB o1 k9); have o1 := o1n; clear o1n; (obtain ⟨y_o2, o2n⟩ := own_keepB o2 k9); have o2 := o2n; clear o2n; (try clear k0 k1 k2 k3 k4 z0 z1 z2 z3 m0 m1 m2 m3 m4); have k0 := B1.cell_ 0; have k1 := B1.cell_ 1; have k2 := B1.cell_ 2; have k3 := B1.cell_ 3; have k4 := B1.cell_ 4; have z0 := B2.cell_ 0; have z1 := B2.cell_ 1; have z2 := B2.cell_ 2; have z3 := B2.cell_ 3; have m0 := B14.cell_ 0; have m1 := B14.cell_ 1; have m2 := B14.cell_ 2; have m3 := B14.cell_ 3; have m4 := B14.cell_ 4; simp at k0 k1 k2 k3 k4 z0 z1 z2 z3 m0 m1 m2 m3 m4; clear b9 g9 k9 on_)))
        go_upto_region 17 with (go_at_call 23; go_loud (((with_reducible refine (overT_any _ _ _ _ _ _ o1 hWb HFS.out.1).mono ?_); rintro e' w27 ⟨rfl, b9, g9, k9⟩; have B1 := B1.below b9 (by omega); have B2 := B2.below b9 (by omega); have B5 := B5.below b9 l5; have HB := HB.trans (b9.mono (by omega)); have S1 := hS0.next HB; have T1 := hT0.next HB; have RB := RB.below b9; have hWb := Nat.le_trans hWb b9.size; have B14 := B14.grownR g9 (blk_neq o1 B14 (by decide)); (obtain ⟨y_o2, o2n⟩ := own_keepB o2 k9); have o2 := o2n; clear o2n; (try clear k0 k1 k2 k3 k4 z0 z1 z2 z3 m0 m1 m2 m3 m4); have k0 := B1.cell_ 0; have k1 := B1.cell_ 1; have k2 := B1.cell_ 2; have k3 := B1.cell_ 3; have k4 := B1.cell_ 4; have z0 := B2.cell_ 0; have z1 := B2.cell_ 1; have z2 := B2.cell_ 2; have z3 := B2.cell_ 3; have m0 := B14.cell_ 0; have m1 := B14.cell_ 1; have m2 := B14.cell_ 2; have m3 := B14.cell_ 3; have m4 := B14.cell_ 4; simp at k0 k1 k2 k3 k4 z0 z1 z2 z3 m0 m1 m2 m3 m4; clear b9 g9 k9 o1)))
        go_upto_region 18 with (go_at_call 24; go_loud (((with_reducible refine (overI_any _ _ _ _ _ _ o2 hWb HFS.out.2).mono ?_); rintro e' w28 ⟨rfl, b9, g9, k9⟩; have B1 := B1.below b9 (by omega); have B2 := B2.below b9 (by omega); have B5 := B5.below b9 l5; have HB := HB.trans (b9.mono (by omega)); have S1 := hS0.next HB; have T1 := hT0.next HB; have RB := RB.below b9; have hWb := Nat.le_trans hWb b9.size; have B14 := B14.grownR g9 (blk_neq o2 B14 (by decide)); (try clear k0 k1 k2 k3 k4 z0 z1 z2 z3 m0 m1 m2 m3 m4); have k0 := B1.cell_ 0; have k1 := B1.cell_ 1; have k2 := B1.cell_ 2; have k3 := B1.cell_ 3; have k4 := B1.cell_ 4; have z0 := B2.cell_ 0; have z1 := B2.cell_ 1; have z2 := B2.cell_ 2; have z3 := B2.cell_ 3; have m0 := B14.cell_ 0; have m1 := B14.cell_ 1; have m2 := B14.cell_ 2; have m3 := B14.cell_ 3; have m4 := B14.cell_ 4; simp at k0 k1 k2 k3 k4 z0 z1 z2 z3 m0 m1 m2 m3 m4; clear b9 g9 k9 o2)))
        have RC := RB.mono hWb
        (try clear k0 k1 k2 k3 k4 q0 q1 q2 q3 q4)
        have k0 := B1.cell_ 0
        have k1 := B1.cell_ 1
        have k2 := B1.cell_ 2
        have k3 := B1.cell_ 3
        have k4 := B1.cell_ 4
        have q0 := B5.cell_ 0
        have q1 := B5.cell_ 1
        have q2 := B5.cell_ 2
        have q3 := B5.cell_ 3
        have q4 := B5.cell_ 4
        simp at k0 k1 k2 k3 k4 q0 q1 q2 q3 q4
        go_wp2_with (first | (go_at_call 25; go_loud (((with_reducible refine (sameShelf_yes s _ _ _ S1 RC HLB.out HLN.out HLR.out).mono ?_); rintro e' w29 ⟨rfl, bx⟩; have HB := btr HB HB.size bx; have T1 := hT0.next HB; clear bx))) | (go_at_call 7; go_loud (((with_reducible refine (awake_any _ T1).mono ?_); rintro e' wA ⟨rfl, bA⟩; have HB := btr HB HB.size bA))))
        go_ret
        exact ⟨rfl, HB⟩
    · clear hG1 hG2
      go_enter Tryz.func3, Tryz.ntmps3
      go_wp2_with (first | (go_at_call 5; go_loud (((with_reducible refine (greatShelf_any s _ _ S1 _ HG1.out).mono ?_); rintro e' w3 ⟨rfl, bx⟩; have B1 := B1.below bx B1.lt; have B2 := B2.below bx B2.lt; have HB := btr HB HB.size bx; have S1 := hS0.next HB; have T1 := hT0.next HB; (try clear k0 k1 k2 k3 k4 z0 z1 z2 z3); have k0 := B1.cell_ 0; have k1 := B1.cell_ 1; have k2 := B1.cell_ 2; have k3 := B1.cell_ 3; have k4 := B1.cell_ 4; have z0 := B2.cell_ 0; have z1 := B2.cell_ 1; have z2 := B2.cell_ 2; have z3 := B2.cell_ 3; simp at k0 k1 k2 k3 k4 z0 z1 z2 z3; have b3 := B2.lt; clear bx))) | (go_at_call 6; go_loud (((with_reducible refine (great1_any ⟨d, a, b, nm⟩ _ _ (Blk.new_ _ _ _) _ HG2.out).mono ?_); rintro e' w4 ⟨rfl, by_⟩; have bx := ((Below.refl w3.heap.size w3).alloc (Nat.le_refl _) (.cells #[.int .i64 d, .int .i64 a, .int .i64 b, .string nm] 27)).trans (by_.mono (by simp)); have B1 := B1.below bx B1.lt; have B2 := B2.below bx B2.lt; have HB := btr HB HB.size bx; have S1 := hS0.next HB; have T1 := hT0.next HB; (try clear k0 k1 k2 k3 k4 z0 z1 z2 z3); have k0 := B1.cell_ 0; have k1 := B1.cell_ 1; have k2 := B1.cell_ 2; have k3 := B1.cell_ 3; have k4 := B1.cell_ 4; have z0 := B2.cell_ 0; have z1 := B2.cell_ 1; have z2 := B2.cell_ 2; have z3 := B2.cell_ 3; simp at k0 k1 k2 k3 k4 z0 z1 z2 z3; clear bx by_))) | (go_at_call 7; go_loud (((with_reducible refine (awake_any _ T1).mono ?_); rintro e' wA ⟨rfl, bA⟩; have HB := btr HB HB.size bA))))
      go_ret
      exact ⟨rfl, HB⟩
  · clear hG1 hG2
    go_enter Tryz.func3, Tryz.ntmps3
    go_wp2_with (first | (go_at_call 5; go_loud (((with_reducible refine (greatShelf_any s _ _ S1 _ HG1.out).mono ?_); rintro e' w3 ⟨rfl, bx⟩; have B1 := B1.below bx B1.lt; have B2 := B2.below bx B2.lt; have HB := btr HB HB.size bx; have S1 := hS0.next HB; have T1 := hT0.next HB; (try clear k0 k1 k2 k3 k4 z0 z1 z2 z3); have k0 := B1.cell_ 0; have k1 := B1.cell_ 1; have k2 := B1.cell_ 2; have k3 := B1.cell_ 3; have k4 := B1.cell_ 4; have z0 := B2.cell_ 0; have z1 := B2.cell_ 1; have z2 := B2.cell_ 2; have z3 := B2.cell_ 3; simp at k0 k1 k2 k3 k4 z0 z1 z2 z3; have b3 := B2.lt; clear bx))) | (go_at_call 7; go_loud (((with_reducible refine (awake_any _ T1).mono ?_); rintro e' wA ⟨rfl, bA⟩; have HB := btr HB HB.size bA))))
    go_ret
    exact ⟨rfl, HB⟩
end Go.Proofs.YtokhapafpjejaaaGreatDoor
namespace Go.Proofs.YtokhapafpjejaaaGreatDoor
open Go.ChangeShapes Go.WideShapes Go.ChangeAt Go.RowKit
theorem acc_eq : Rows.laid_unicode_utf8_acceptRanges = Lib.acceptData := by kernel_rfl
theorem first_eq : Rows.laid_unicode_utf8_first = Lib.firstData := Pinned.utf8First_eq
def laidTabs : List (String × DataW Unit) := [("unicode/utf8.acceptRanges", Lib.acceptData), ("unicode/utf8.first", Lib.firstData)]
theorem laid_eq : [("unicode/utf8.acceptRanges", Rows.laid_unicode_utf8_acceptRanges), ("unicode/utf8.first", Rows.laid_unicode_utf8_first)] = laidTabs := by rw [acc_eq, first_eq]; rfl
noncomputable def laidWorld (os : Os) : World :=
  let w0 := World.holding Tryz.prog os ⟨#[], #[], []⟩
  let put (h : Array Obj) (g : Nat) (cs : Array Value) : Array Obj := h.modify g fun
    | .cells _ t frozen => .cells cs t frozen
    | o => o
  let h1 := put w0.heap 0 (Lib.firstTab.map fun z => Value.int .u8 z).toArray
  let h2 := put h1 1 ((List.range 16).flatMap fun i => [Value.int .u8 (Lib.accLo i), Value.int .u8 (Lib.accHi i)]).toArray
  { w0 with heap := h2 }
theorem noHandle (w : World) : laidMetH Tryz.prog laidTabs w ↔ laidMet Tryz.prog laidTabs w := by
  have e : (laidTabs.filter fun x => x.2.handleName?.isSome) = [] := by kernel_rfl
  unfold laidMetH
  rw [e]
theorem laid_met (os : Os) (args : Array Value) : laidMetH Tryz.prog [("unicode/utf8.acceptRanges", Rows.laid_unicode_utf8_acceptRanges), ("unicode/utf8.first", Rows.laid_unicode_utf8_first)] ((laidWorld os).forCall (fun _ _ => 0) ⟨#[], args, []⟩).memory := by
  rw [laid_eq, noHandle]
  exact (LaidIn.of_run (l := laidTabs) [0, 1] 8 (by kernel_rfl) (by kernel_rfl) (by kernel_rfl) (by kernel_rfl)).met
theorem tabs_of {W : World} (h : laidMetH Tryz.prog [("unicode/utf8.acceptRanges", Rows.laid_unicode_utf8_acceptRanges), ("unicode/utf8.first", Rows.laid_unicode_utf8_first)] W) : Tabs W := by
  rw [laid_eq, noHandle] at h
  exact utf8Tabs_of_readsT (U8Types.of196 Tryz.laysValid) ⟨by kernel_rfl, by kernel_rfl, by kernel_rfl, by kernel_rfl, by kernel_rfl, by kernel_rfl, by kernel_rfl⟩ (Lib.laidMet.reads h (.tail _ (.head _))) (Lib.laidMet.reads h (.head _))
end Go.Proofs.YtokhapafpjejaaaGreatDoor
